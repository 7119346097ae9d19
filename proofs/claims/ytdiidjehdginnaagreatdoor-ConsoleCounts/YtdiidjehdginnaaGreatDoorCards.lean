/-
  DERIVED. GIVEN WITH THE SEED: THE CARDS: each row of YtdiidjehdginnaaGreatDoorRows.lean that lists a variable, with what it lists TIED to the program's text (the seventh form; the later family's looks); each row that meets fmt, with fmt's text TOLD by the authors' own Lean function (tested against real Go, not proved from fmt's source: count such statements apart). THE CARD IS WHAT COUNTS. Prove the row's statement (the work); the ties are given (YtdiidjehdginnaaGreatDoorTie.lean); close each card by the builder's one call (the guide's Derived/Test/ToyasCard.lean, 'card_holds'). Laid BY PROGRAM, IN A SANDBOX (cutbox-door.mjs). By AI agents, Wed Nov 11 2026. No macro, syntax, notation, axiom, sorry.
-/
import Derived.Test.YtdiidjehdginnaaGreatDoorRows
import GoSem.ClaimSeven
namespace Go.Proofs.YtdiidjehdginnaaGreatDoor
namespace Rows

/-- THE TIED CARD OF 'phosphorlaw26.ConsoleCounts'. -/
def consoleCountsCard : Claim7 := { stood := { row := consoleCountsRow, standIns := [], harness := (true, "a7baff895d00bab2000ea34ed53d3aca3c98fbdde0649578f2a08471d6e09d3d"), looks := true }, kinds := [], alts := [], laidByText := true, laidKinds := [.data, .data, .data, .data, .data, .handle, .data, .data, .data, .data], laidTests := true, laidLooks := .later }
def ConsoleCountsCardSaid : Prop := Claim7.holds Tryz.pinned (.plain (OpenSpec.ofChange consoleCountsSpec)) consoleCountsCard

/-- THE SECOND FORM's CARD OF 'phosphorlaw26.ConsoleCounts'. -/
def consoleCountsUptoCard : Claim7 := { stood := { row := consoleCountsUptoRow, standIns := [], harness := (true, "a7baff895d00bab2000ea34ed53d3aca3c98fbdde0649578f2a08471d6e09d3d"), looks := true }, kinds := [], alts := [], laidByText := true, laidKinds := [.data, .data, .data, .data, .data, .handle, .data, .data, .data, .data], laidTests := true, laidLooks := .later }
def ConsoleCountsUptoCardSaid : Prop := Claim7.holds Tryz.pinned (.plain (OpenSpec.upto consoleCountsSpec)) consoleCountsUptoCard
end Rows
end Go.Proofs.YtdiidjehdginnaaGreatDoor
