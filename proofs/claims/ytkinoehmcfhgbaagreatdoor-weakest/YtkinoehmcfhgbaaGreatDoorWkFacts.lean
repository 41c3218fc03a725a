/-
  Facts of the row of Weakest, by the kernel.
-/
import Derived.Test.YtkinoehmcfhgbaaGreatDoorRows
import Derived.ProofKit
import Derived.OpenShut
import Derived.Conc.Holds
namespace Go.Proofs.YtkinoehmcfhgbaaGreatDoor
open Go.ChangeShapes Go.WideShapes Go.ChangeAt Go.RowKit
namespace WeakestEnd
theorem oName : Tryz.prog.funcNamed Rows.weakestRow.func = some 4 := by kernel_rfl
theorem oFacts : joinedFacts Tryz.prog 4 Tryz.f4 Rows.weakestSpec Rows.weakestRow = true := by kernel_rfl
theorem oInst : Tryz.f4.isInstance Tryz.prog Rows.weakestRow.origin Rows.weakestRow.targs := of_decide_eq_true (by kernel_rfl)
theorem oWrap : Tryz.f4.isWrapper Tryz.prog Rows.weakestRow.wrapper Rows.weakestRow.mainSum := by unfold Func.isWrapper; first | (rw [if_pos (by decide +kernel)]; kernel_rfl) | (rw [if_neg (by decide +kernel)]; exact ⟨rfl, rfl⟩)
end WeakestEnd
end Go.Proofs.YtkinoehmcfhgbaaGreatDoor
