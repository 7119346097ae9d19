/-
  DERIVED. GIVEN WITH THE SEED: THE CARDS: each row of YtpjhiopmdkieiabGreatDoorRows.lean that lists a variable, with what it lists TIED to the program's text (the seventh form; the later family's looks); each row that meets fmt, with fmt's text TOLD by the authors' own Lean function (tested against real Go, not proved from fmt's source: count such statements apart). THE CARD IS WHAT COUNTS. Prove the row's statement (the work); the ties are given (YtpjhiopmdkieiabGreatDoorTie.lean); close each card by the builder's one call (the guide's Derived/Test/ToyasCard.lean, 'card_holds'). Laid BY PROGRAM, IN A SANDBOX (cutbox-door.mjs). By AI agents, Wed Nov 11 2026. No macro, syntax, notation, axiom, sorry.
-/
import Derived.Test.YtpjhiopmdkieiabGreatDoorRows
import GoSem.ClaimSeven
namespace Go.Proofs.YtpjhiopmdkieiabGreatDoor
namespace Rows

/-- THE TIED CARD OF 'phosphorlaw24.BusClock'. -/
def busClockCard : Claim7 := { stood := { row := busClockRow, standIns := [], harness := (true, "1817af45a086724ac624ce2e31c7633baaba7d27a89ebefb2d2642055bb19b2e"), looks := true }, kinds := [], alts := [], laidByText := true, laidKinds := [.data, .data, .handle, .data], laidTests := true, laidLooks := .later }
def BusClockCardSaid : Prop := Claim7.holds Tryz.pinned (.plain (OpenSpec.ofChange busClockSpec)) busClockCard

/-- THE SECOND FORM's CARD OF 'phosphorlaw24.BusClock'. -/
def busClockUptoCard : Claim7 := { stood := { row := busClockUptoRow, standIns := [], harness := (true, "1817af45a086724ac624ce2e31c7633baaba7d27a89ebefb2d2642055bb19b2e"), looks := true }, kinds := [], alts := [], laidByText := true, laidKinds := [.data, .data, .handle, .data], laidTests := true, laidLooks := .later }
def BusClockUptoCardSaid : Prop := Claim7.holds Tryz.pinned (.plain (OpenSpec.upto busClockSpec)) busClockUptoCard
end Rows
end Go.Proofs.YtpjhiopmdkieiabGreatDoor
