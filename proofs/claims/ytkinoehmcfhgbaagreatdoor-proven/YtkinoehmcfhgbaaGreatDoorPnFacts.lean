/-
  Facts of the row of Proven, by the kernel.
-/
import Derived.Test.YtkinoehmcfhgbaaGreatDoorRows
import Derived.ProofKit
import Derived.OpenShut
import Derived.Conc.Holds
namespace Go.Proofs.YtkinoehmcfhgbaaGreatDoor
open Go.ChangeShapes Go.WideShapes Go.ChangeAt Go.RowKit
namespace ProvenEnd
theorem oName : Tryz.prog.funcNamed Rows.provenRow.func = some 5 := by kernel_rfl
theorem oFacts : joinedFacts Tryz.prog 5 Tryz.f5 Rows.provenSpec Rows.provenRow = true := by kernel_rfl
theorem oInst : Tryz.f5.isInstance Tryz.prog Rows.provenRow.origin Rows.provenRow.targs := of_decide_eq_true (by kernel_rfl)
theorem oWrap : Tryz.f5.isWrapper Tryz.prog Rows.provenRow.wrapper Rows.provenRow.mainSum := by unfold Func.isWrapper; first | (rw [if_pos (by decide +kernel)]; kernel_rfl) | (rw [if_neg (by decide +kernel)]; exact ⟨rfl, rfl⟩)
end ProvenEnd
end Go.Proofs.YtkinoehmcfhgbaaGreatDoor
