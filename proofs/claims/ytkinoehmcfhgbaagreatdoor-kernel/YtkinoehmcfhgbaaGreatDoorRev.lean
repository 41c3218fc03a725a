/- A part of the proof. -/
import Derived.Shelf.SlicesE.Reverse
import Derived.Test.YtkinoehmcfhgbaaGreatDoorProg
set_option linter.unusedVariables false
set_option linter.unusedSimpArgs false
namespace Go.Proofs
open Go.Shelf
def Tryz.revC_ren:Go.Shelf.Ren:=⟨fun|35=>95|n=>n,fun|22=>71|23=>75|3=>3|4=>4|0=>0|n=>n,fun|n=>n⟩
theorem Tryz.revC:Go.Proofs.SlLaysE.n35 Tryz.prog Tryz.revC_ren:={
 mixed:=by kernel_rfl
 f35:=⟨Tryz.f95.name,by decide,Tryz.func95.trans (congrArg some (by kernel_rfl))⟩
 t0:=Tryz.underlying0
 a0:=Tryz.isAgg0
 z0:=Tryz.sizeOf0
 v0:=Tryz.zeroValue0
 t3:=Tryz.underlying3
 a3:=Tryz.isAgg3
 z3:=Tryz.sizeOf3
 v3:=Tryz.zeroValue3
 t4:=Tryz.underlying4
 a4:=Tryz.isAgg4
 z4:=Tryz.sizeOf4
 v4:=Tryz.zeroValue4
 t22:=Tryz.underlying71
 a22:=Tryz.isAgg71
 z22:=Tryz.sizeOf71
 v22:=Tryz.zeroValue71
 a23:=Tryz.isAgg75
 z23:=Tryz.sizeOf75}
end Go.Proofs
