/-
  DERIVED. GIVEN WITH THE SEED: THE CARDS: each row of YtbkecffdejafcaaDoorRows.lean that lists a variable, with what it lists TIED to the program's text (the seventh form; the later family's looks); each row that meets fmt, with fmt's text TOLD by the authors' own Lean function (tested against real Go, not proved from fmt's source: count such statements apart). THE CARD IS WHAT COUNTS. Prove the row's statement (the work); the ties are given (YtbkecffdejafcaaDoorTie.lean); close each card by the builder's one call (the guide's Derived/Test/ToyasCard.lean, 'card_holds'). Laid BY PROGRAM, IN A SANDBOX (cutbox-door.mjs). By AI agents, Wed Nov 11 2026. No macro, syntax, notation, axiom, sorry.
-/
import Derived.Test.YtbkecffdejafcaaDoorRows
import GoSem.ClaimSeven
namespace Go.Proofs.YtbkecffdejafcaaDoor
namespace Rows

/-- THE TIED CARD OF 'phosphorlaw27.StateNobody'. -/
def stateNobodyCard : Claim7 := { stood := { row := stateNobodyRow, standIns := [], harness := (true, "f77479661270b1be31647de367636f47773d4a2ca267daeaec741e0f3e96ad6c"), looks := true }, kinds := [], alts := [], laidByText := true, laidKinds := [.data], laidTests := true, laidLooks := .later }
def StateNobodyCardSaid : Prop := Claim7.holds Tryd.pinned (.plain (OpenSpec.ofChange stateNobodySpec)) stateNobodyCard

/-- THE SECOND FORM's CARD OF 'phosphorlaw27.StateNobody'. -/
def stateNobodyUptoCard : Claim7 := { stood := { row := stateNobodyUptoRow, standIns := [], harness := (true, "f77479661270b1be31647de367636f47773d4a2ca267daeaec741e0f3e96ad6c"), looks := true }, kinds := [], alts := [], laidByText := true, laidKinds := [.data], laidTests := true, laidLooks := .later }
def StateNobodyUptoCardSaid : Prop := Claim7.holds Tryd.pinned (.plain (OpenSpec.upto stateNobodySpec)) stateNobodyUptoCard
end Rows
end Go.Proofs.YtbkecffdejafcaaDoor
