/-
  DERIVED. GIVEN WITH THE SEED: THE CARDS: each row of YtkinoehmcfhgbaaGreatDoorRows.lean that lists a variable, with what it lists TIED to the program's text (the seventh form; the later family's looks); each row that meets fmt, with fmt's text TOLD by the authors' own Lean function (tested against real Go, not proved from fmt's source: count such statements apart). THE CARD IS WHAT COUNTS. Prove the row's statement (the work); the ties are given (YtkinoehmcfhgbaaGreatDoorTie.lean); close each card by the builder's one call (the guide's Derived/Test/ToyasCard.lean, 'card_holds'). Laid BY PROGRAM, IN A SANDBOX (cutbox-door.mjs). By AI agents, Wed Nov 11 2026. No macro, syntax, notation, axiom, sorry.
-/
import Derived.Test.YtkinoehmcfhgbaaGreatDoorRows
import GoSem.ClaimSeven
namespace Go.Proofs.YtkinoehmcfhgbaaGreatDoor
namespace Rows

/-- THE TIED CARD OF 'avouchlaw.Listed'. -/
def listedCard : Claim7 := { stood := { row := listedRow, standIns := [], harness := (true, "8703e678e03a29aedbfb1a13c548837b4900a7980f57df075a6bb9ba3c390c21"), looks := true }, kinds := [], alts := [], goes := true, laidByText := true, laidKinds := [.data, .data, .data], laidTests := true, laidLooks := .later }
def ListedCardSaid : Prop := Claim7.holds Tryz.pinned (.plain (OpenSpec.ofChange listedSpec)) listedCard

/-- THE TIED CARD OF 'avouchkeep.Weakest'. -/
def weakestCard : Claim7 := { stood := { row := weakestRow, standIns := [], harness := (true, "8703e678e03a29aedbfb1a13c548837b4900a7980f57df075a6bb9ba3c390c21"), looks := true }, kinds := [], alts := [], goes := true, laidByText := true, laidKinds := [.data, .data, .data, .sentinel, .sentinel], laidTests := true, laidLooks := .later }
def WeakestCardSaid : Prop := Claim7.holds Tryz.pinned (.plain (OpenSpec.ofChange weakestSpec)) weakestCard

/-- THE TIED CARD OF 'avouchlaw.Proven'. -/
def provenCard : Claim7 := { stood := { row := provenRow, standIns := [], harness := (true, "8703e678e03a29aedbfb1a13c548837b4900a7980f57df075a6bb9ba3c390c21"), looks := true }, kinds := [], alts := [], goes := true, laidByText := true, laidKinds := [.data, .data, .data, .data, .sentinel, .sentinel, .pinned], laidTests := true, laidLooks := .later }
def ProvenCardSaid : Prop := Claim7.holds Tryz.pinned (.plain (OpenSpec.ofChange provenSpec)) provenCard

/-- THE TIED CARD OF 'avouchkeep.Kernel'. -/
def kernelCard : Claim7 := { stood := { row := kernelRow, standIns := [], harness := (true, "8703e678e03a29aedbfb1a13c548837b4900a7980f57df075a6bb9ba3c390c21"), looks := true }, kinds := [], alts := [], goes := true, laidByText := true, laidKinds := [.data, .data, .data, .data, .sentinel, .sentinel, .pinned], laidTests := true, laidLooks := .later }
def KernelCardSaid : Prop := Claim7.holds Tryz.pinned (.plain (OpenSpec.ofChange kernelSpec)) kernelCard

/-- THE TIED CARD OF 'avouchkeep.Decided'. -/
def decidedCard : Claim7 := { stood := { row := decidedRow, standIns := [], harness := (true, "8703e678e03a29aedbfb1a13c548837b4900a7980f57df075a6bb9ba3c390c21"), looks := true }, kinds := [], alts := [], goes := true, laidByText := true, laidKinds := [.data, .data, .data, .data, .sentinel, .sentinel, .pinned], laidTests := true, laidLooks := .later }
def DecidedCardSaid : Prop := Claim7.holds Tryz.pinned (.plain (OpenSpec.ofChange decidedSpec)) decidedCard

/-- THE TIED CARD OF 'avouchkeep.Cycles'. -/
def cyclesCard : Claim7 := { stood := { row := cyclesRow, standIns := [], harness := (true, "8703e678e03a29aedbfb1a13c548837b4900a7980f57df075a6bb9ba3c390c21"), looks := true }, kinds := [], alts := [], goes := true, laidByText := true, laidKinds := [.data, .data, .data, .data, .sentinel, .sentinel, .pinned], laidTests := true, laidLooks := .later }
def CyclesCardSaid : Prop := Claim7.holds Tryz.pinned (.plain (OpenSpec.ofChange cyclesSpec)) cyclesCard

/-- THE TIED CARD OF 'avouchkeep.Sound'. -/
def soundCard : Claim7 := { stood := { row := soundRow, standIns := [], harness := (true, "8703e678e03a29aedbfb1a13c548837b4900a7980f57df075a6bb9ba3c390c21"), looks := true }, kinds := [], alts := [], goes := true, laidByText := true, laidKinds := [.data, .data, .data, .data, .sentinel, .sentinel, .pinned], laidTests := true, laidLooks := .later }
def SoundCardSaid : Prop := Claim7.holds Tryz.pinned (.plain (OpenSpec.ofChange soundSpec)) soundCard

/-- THE TIED CARD OF 'avouchlaw.All'. -/
def allCard : Claim7 := { stood := { row := allRow, standIns := [], harness := (true, "8703e678e03a29aedbfb1a13c548837b4900a7980f57df075a6bb9ba3c390c21"), looks := true }, kinds := [], alts := [], goes := true, laidByText := true, laidKinds := [.data, .data, .data, .data, .sentinel, .sentinel, .pinned], laidTests := true, laidLooks := .later }
def AllCardSaid : Prop := Claim7.holds Tryz.pinned (.plain (OpenSpec.ofChange allSpec)) allCard

/-- THE SECOND FORM's CARD OF 'avouchlaw.Listed'. -/
def listedUptoCard : Claim7 := { stood := { row := listedUptoRow, standIns := [], harness := (true, "8703e678e03a29aedbfb1a13c548837b4900a7980f57df075a6bb9ba3c390c21"), looks := true }, kinds := [], alts := [], goes := true, laidByText := true, laidKinds := [.data, .data, .data], laidTests := true, laidLooks := .later }
def ListedUptoCardSaid : Prop := Claim7.holds Tryz.pinned (.plain (OpenSpec.upto listedSpec)) listedUptoCard

/-- THE SECOND FORM's CARD OF 'avouchkeep.Weakest'. -/
def weakestUptoCard : Claim7 := { stood := { row := weakestUptoRow, standIns := [], harness := (true, "8703e678e03a29aedbfb1a13c548837b4900a7980f57df075a6bb9ba3c390c21"), looks := true }, kinds := [], alts := [], goes := true, laidByText := true, laidKinds := [.data, .data, .data, .sentinel, .sentinel], laidTests := true, laidLooks := .later }
def WeakestUptoCardSaid : Prop := Claim7.holds Tryz.pinned (.plain (OpenSpec.upto weakestSpec)) weakestUptoCard

/-- THE SECOND FORM's CARD OF 'avouchlaw.Proven'. -/
def provenUptoCard : Claim7 := { stood := { row := provenUptoRow, standIns := [], harness := (true, "8703e678e03a29aedbfb1a13c548837b4900a7980f57df075a6bb9ba3c390c21"), looks := true }, kinds := [], alts := [], goes := true, laidByText := true, laidKinds := [.data, .data, .data, .data, .sentinel, .sentinel, .pinned], laidTests := true, laidLooks := .later }
def ProvenUptoCardSaid : Prop := Claim7.holds Tryz.pinned (.plain (OpenSpec.upto provenSpec)) provenUptoCard

/-- THE SECOND FORM's CARD OF 'avouchkeep.Kernel'. -/
def kernelUptoCard : Claim7 := { stood := { row := kernelUptoRow, standIns := [], harness := (true, "8703e678e03a29aedbfb1a13c548837b4900a7980f57df075a6bb9ba3c390c21"), looks := true }, kinds := [], alts := [], goes := true, laidByText := true, laidKinds := [.data, .data, .data, .data, .sentinel, .sentinel, .pinned], laidTests := true, laidLooks := .later }
def KernelUptoCardSaid : Prop := Claim7.holds Tryz.pinned (.plain (OpenSpec.upto kernelSpec)) kernelUptoCard

/-- THE SECOND FORM's CARD OF 'avouchkeep.Decided'. -/
def decidedUptoCard : Claim7 := { stood := { row := decidedUptoRow, standIns := [], harness := (true, "8703e678e03a29aedbfb1a13c548837b4900a7980f57df075a6bb9ba3c390c21"), looks := true }, kinds := [], alts := [], goes := true, laidByText := true, laidKinds := [.data, .data, .data, .data, .sentinel, .sentinel, .pinned], laidTests := true, laidLooks := .later }
def DecidedUptoCardSaid : Prop := Claim7.holds Tryz.pinned (.plain (OpenSpec.upto decidedSpec)) decidedUptoCard

/-- THE SECOND FORM's CARD OF 'avouchkeep.Cycles'. -/
def cyclesUptoCard : Claim7 := { stood := { row := cyclesUptoRow, standIns := [], harness := (true, "8703e678e03a29aedbfb1a13c548837b4900a7980f57df075a6bb9ba3c390c21"), looks := true }, kinds := [], alts := [], goes := true, laidByText := true, laidKinds := [.data, .data, .data, .data, .sentinel, .sentinel, .pinned], laidTests := true, laidLooks := .later }
def CyclesUptoCardSaid : Prop := Claim7.holds Tryz.pinned (.plain (OpenSpec.upto cyclesSpec)) cyclesUptoCard

/-- THE SECOND FORM's CARD OF 'avouchkeep.Sound'. -/
def soundUptoCard : Claim7 := { stood := { row := soundUptoRow, standIns := [], harness := (true, "8703e678e03a29aedbfb1a13c548837b4900a7980f57df075a6bb9ba3c390c21"), looks := true }, kinds := [], alts := [], goes := true, laidByText := true, laidKinds := [.data, .data, .data, .data, .sentinel, .sentinel, .pinned], laidTests := true, laidLooks := .later }
def SoundUptoCardSaid : Prop := Claim7.holds Tryz.pinned (.plain (OpenSpec.upto soundSpec)) soundUptoCard

/-- THE SECOND FORM's CARD OF 'avouchlaw.All'. -/
def allUptoCard : Claim7 := { stood := { row := allUptoRow, standIns := [], harness := (true, "8703e678e03a29aedbfb1a13c548837b4900a7980f57df075a6bb9ba3c390c21"), looks := true }, kinds := [], alts := [], goes := true, laidByText := true, laidKinds := [.data, .data, .data, .data, .sentinel, .sentinel, .pinned], laidTests := true, laidLooks := .later }
def AllUptoCardSaid : Prop := Claim7.holds Tryz.pinned (.plain (OpenSpec.upto allSpec)) allUptoCard
end Rows
end Go.Proofs.YtkinoehmcfhgbaaGreatDoor
