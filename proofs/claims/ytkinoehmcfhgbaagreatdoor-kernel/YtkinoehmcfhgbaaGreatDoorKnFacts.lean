/- A part of the proof. -/
import Derived.Test.YtkinoehmcfhgbaaGreatDoorAb
import Derived.Test.YtkinoehmcfhgbaaGreatDoorRows
import Derived.ProofKit
import Derived.OpenShut
import Derived.Conc.Holds
set_option linter.unusedVariables false
set_option linter.unusedSimpArgs false
namespace Go.Proofs.YtkinoehmcfhgbaaGreatDoor
open Go.ChangeShapes Go.WideShapes Go.ChangeAt Go.RowKit
namespace KernelEnd
theorem oName:Tryz.prog.funcNamed Rows.kernelRow.func=some 6:=by kernel_rfl
theorem oFacts:joinedFacts Tryz.prog 6 Tryz.f6 Rows.kernelSpec Rows.kernelRow=true:=by kernel_rfl
theorem oInst:Tryz.f6.isInstance Tryz.prog Rows.kernelRow.origin Rows.kernelRow.targs:=of_decide_eq_true (by kernel_rfl)
theorem oWrap:Tryz.f6.isWrapper Tryz.prog Rows.kernelRow.wrapper Rows.kernelRow.mainSum:=by unfold Func.isWrapper;first|(rw[if_pos (by decide +kernel)];kernel_rfl)|(rw[if_neg (by decide +kernel)];exact⟨rfl,rfl⟩)
end KernelEnd
end Go.Proofs.YtkinoehmcfhgbaaGreatDoor
