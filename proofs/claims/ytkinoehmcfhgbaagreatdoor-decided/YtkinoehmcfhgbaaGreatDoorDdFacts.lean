/- A part of the proof. -/
import Derived.Test.YtkinoehmcfhgbaaGreatDoorAb
import Derived.Test.YtkinoehmcfhgbaaGreatDoorRows
import Derived.ProofKit
import Derived.OpenShut
import Derived.Conc.Holds
set_option linter.unusedVariables false
set_option linter.unusedSimpArgs false
namespace Go.Proofs.YtkinoehmcfhgbaaGreatDoor
open Go.ChangeShapes Go.WideShapes Go.ChangeAt Go.RowKit
namespace DecidedEnd
theorem oName:Tryz.prog.funcNamed Rows.decidedRow.func=some 7:=by kernel_rfl
theorem oFacts:joinedFacts Tryz.prog 7 Tryz.f7 Rows.decidedSpec Rows.decidedRow=true:=by kernel_rfl
theorem oInst:Tryz.f7.isInstance Tryz.prog Rows.decidedRow.origin Rows.decidedRow.targs:=of_decide_eq_true (by kernel_rfl)
theorem oWrap:Tryz.f7.isWrapper Tryz.prog Rows.decidedRow.wrapper Rows.decidedRow.mainSum:=by unfold Func.isWrapper;first|(rw[if_pos (by decide +kernel)];kernel_rfl)|(rw[if_neg (by decide +kernel)];exact⟨rfl,rfl⟩)
end DecidedEnd
end Go.Proofs.YtkinoehmcfhgbaaGreatDoor
