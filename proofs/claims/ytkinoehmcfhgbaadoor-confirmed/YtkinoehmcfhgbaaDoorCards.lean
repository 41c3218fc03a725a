/-
  DERIVED. GIVEN WITH THE SEED: THE CARDS: each row of YtkinoehmcfhgbaaDoorRows.lean that lists a variable, with what it lists TIED to the program's text (the seventh form; the later family's looks); each row that meets fmt, with fmt's text TOLD by the authors' own Lean function (tested against real Go, not proved from fmt's source: count such statements apart). THE CARD IS WHAT COUNTS. Prove the row's statement (the work); the ties are given (YtkinoehmcfhgbaaDoorTie.lean); close each card by the builder's one call (the guide's Derived/Test/ToyasCard.lean, 'card_holds'). Laid BY PROGRAM, IN A SANDBOX (cutbox-door.mjs). By AI agents, Wed Nov 11 2026. No macro, syntax, notation, axiom, sorry.
-/
import Derived.Test.YtkinoehmcfhgbaaDoorRows
import GoSem.ClaimSeven
namespace Go.Proofs.YtkinoehmcfhgbaaDoor
namespace Rows

/-- THE TIED CARD OF 'avouchlaw.Valued'. -/
def valuedCard : Claim7 := { stood := { row := valuedRow, standIns := [], harness := (true, "92ad0ca9c39499da112446cd95278a0b5a3090aa5b7caf31f2da558095e2c19a"), looks := true }, kinds := [], alts := [], laidByText := true, laidKinds := [.data, .data, .data, .sentinel, .sentinel], laidTests := true, laidLooks := .later }
def ValuedCardSaid : Prop := Claim7.holds Tryd.pinned (.plain (OpenSpec.ofChange valuedSpec)) valuedCard

/-- THE TIED CARD OF 'avouchlaw.Confirmed'. -/
def confirmedCard : Claim7 := { stood := { row := confirmedRow, standIns := [], harness := (true, "92ad0ca9c39499da112446cd95278a0b5a3090aa5b7caf31f2da558095e2c19a"), looks := true }, kinds := [], alts := [], laidByText := true, laidKinds := [.data, .data, .data, .data, .sentinel, .sentinel, .pinned], laidTests := true, laidLooks := .later }
def ConfirmedCardSaid : Prop := Claim7.holds Tryd.pinned (.plain (OpenSpec.ofChange confirmedSpec)) confirmedCard

/-- THE SECOND FORM's CARD OF 'avouchlaw.Valued'. -/
def valuedUptoCard : Claim7 := { stood := { row := valuedUptoRow, standIns := [], harness := (true, "92ad0ca9c39499da112446cd95278a0b5a3090aa5b7caf31f2da558095e2c19a"), looks := true }, kinds := [], alts := [], laidByText := true, laidKinds := [.data, .data, .data, .sentinel, .sentinel], laidTests := true, laidLooks := .later }
def ValuedUptoCardSaid : Prop := Claim7.holds Tryd.pinned (.plain (OpenSpec.upto valuedSpec)) valuedUptoCard

/-- THE SECOND FORM's CARD OF 'avouchlaw.Confirmed'. -/
def confirmedUptoCard : Claim7 := { stood := { row := confirmedUptoRow, standIns := [], harness := (true, "92ad0ca9c39499da112446cd95278a0b5a3090aa5b7caf31f2da558095e2c19a"), looks := true }, kinds := [], alts := [], laidByText := true, laidKinds := [.data, .data, .data, .data, .sentinel, .sentinel, .pinned], laidTests := true, laidLooks := .later }
def ConfirmedUptoCardSaid : Prop := Claim7.holds Tryd.pinned (.plain (OpenSpec.upto confirmedSpec)) confirmedUptoCard
end Rows
end Go.Proofs.YtkinoehmcfhgbaaDoor
