/-
  DERIVED. GIVEN WITH THE SEED: THE CARDS: each row of YtmpbgbdhpahpjaaDoorRows.lean that lists a variable, with what it lists TIED to the program's text (the seventh form; the later family's looks); each row that meets fmt, with fmt's text TOLD by the authors' own Lean function (tested against real Go, not proved from fmt's source: count such statements apart). THE CARD IS WHAT COUNTS. Prove the row's statement (the work); the ties are given (YtmpbgbdhpahpjaaDoorTie.lean); close each card by the builder's one call (the guide's Derived/Test/ToyasCard.lean, 'card_holds'). Laid BY PROGRAM, IN A SANDBOX (cutbox-door.mjs). By AI agents, Wed Nov 11 2026. No macro, syntax, notation, axiom, sorry.
-/
import Derived.Test.YtmpbgbdhpahpjaaDoorRows
import GoSem.ClaimSeven
namespace Go.Proofs.YtmpbgbdhpahpjaaDoor
namespace Rows

/-- THE TIED CARD OF 'avouchlaw.Valued'. -/
def valuedCard : Claim7 := { stood := { row := valuedRow, standIns := [], harness := (true, "6ae2d53bc0f9e9758f8dd65788cf59f3971b87f770a2f795a16f5fe04730fbc6"), looks := true }, kinds := [], alts := [], laidByText := true, laidKinds := [.data, .data, .data, .sentinel, .sentinel], laidTests := true, laidLooks := .later }
def ValuedCardSaid : Prop := Claim7.holds Tryd.pinned (.plain (OpenSpec.ofChange valuedSpec)) valuedCard

/-- THE SECOND FORM's CARD OF 'avouchlaw.Valued'. -/
def valuedUptoCard : Claim7 := { stood := { row := valuedUptoRow, standIns := [], harness := (true, "6ae2d53bc0f9e9758f8dd65788cf59f3971b87f770a2f795a16f5fe04730fbc6"), looks := true }, kinds := [], alts := [], laidByText := true, laidKinds := [.data, .data, .data, .sentinel, .sentinel], laidTests := true, laidLooks := .later }
def ValuedUptoCardSaid : Prop := Claim7.holds Tryd.pinned (.plain (OpenSpec.upto valuedSpec)) valuedUptoCard
end Rows
end Go.Proofs.YtmpbgbdhpahpjaaDoor
