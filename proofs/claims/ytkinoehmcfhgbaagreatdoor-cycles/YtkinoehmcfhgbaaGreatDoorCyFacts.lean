/- A part of the proof. -/
import Derived.Test.YtkinoehmcfhgbaaGreatDoorAb
import Derived.Test.YtkinoehmcfhgbaaGreatDoorRows
import Derived.ProofKit
import Derived.OpenShut
import Derived.Conc.Holds
set_option linter.unusedVariables false
set_option linter.unusedSimpArgs false
namespace Go.Proofs.YtkinoehmcfhgbaaGreatDoor
open Go.ChangeShapes Go.WideShapes Go.ChangeAt Go.RowKit
namespace CyclesEnd
theorem oName:Tryz.prog.funcNamed Rows.cyclesRow.func=some 8:=by kernel_rfl
theorem oFacts:joinedFacts Tryz.prog 8 Tryz.f8 Rows.cyclesSpec Rows.cyclesRow=true:=by kernel_rfl
theorem oInst:Tryz.f8.isInstance Tryz.prog Rows.cyclesRow.origin Rows.cyclesRow.targs:=of_decide_eq_true (by kernel_rfl)
theorem oWrap:Tryz.f8.isWrapper Tryz.prog Rows.cyclesRow.wrapper Rows.cyclesRow.mainSum:=by unfold Func.isWrapper;first|(rw[if_pos (by decide +kernel)];kernel_rfl)|(rw[if_neg (by decide +kernel)];exact⟨rfl,rfl⟩)
end CyclesEnd
end Go.Proofs.YtkinoehmcfhgbaaGreatDoor
