/-
  DERIVED. GIVEN WITH THE SEED: THE CARDS: each row of YtjmalnlfhmddjaaDoorRows.lean that lists a variable, with what it lists TIED to the program's text (the seventh form; the later family's looks); each row that meets fmt, with fmt's text TOLD by the authors' own Lean function (tested against real Go, not proved from fmt's source: count such statements apart). THE CARD IS WHAT COUNTS. Prove the row's statement (the work); the ties are given (YtjmalnlfhmddjaaDoorTie.lean); close each card by the builder's one call (the guide's Derived/Test/ToyasCard.lean, 'card_holds'). Laid BY PROGRAM, IN A SANDBOX (cutbox-door.mjs). By AI agents, Wed Nov 11 2026. No macro, syntax, notation, axiom, sorry.
-/
import Derived.Test.YtjmalnlfhmddjaaDoorRows
import GoSem.ClaimSeven
namespace Go.Proofs.YtjmalnlfhmddjaaDoor
namespace Rows

/-- THE TIED CARD OF 'phosphorlaw09.BlockTells'. -/
def blockTellsCard : Claim7 := { stood := { row := blockTellsRow, standIns := [], harness := (true, "226d930e239870412cef5cbfd11501ef4a2598172ed79a96949de5c2add574a4"), looks := false }, kinds := [], alts := [], laidByText := true, laidKinds := [.data, .data], laidTests := true, laidLooks := .later }
def BlockTellsCardSaid : Prop := Claim7.holds Tryd.pinned (.plain (OpenSpec.ofChange blockTellsSpec)) blockTellsCard

/-- THE TIED CARD OF 'phosphorlaw09.BlockSides'. -/
def blockSidesCard : Claim7 := { stood := { row := blockSidesRow, standIns := [], harness := (true, "226d930e239870412cef5cbfd11501ef4a2598172ed79a96949de5c2add574a4"), looks := false }, kinds := [], alts := [], laidByText := true, laidKinds := [.data], laidTests := true, laidLooks := .later }
def BlockSidesCardSaid : Prop := Claim7.holds Tryd.pinned (.plain (OpenSpec.ofChange blockSidesSpec)) blockSidesCard

/-- THE TIED CARD OF 'phosphorlaw09.BlockCovers'. -/
def blockCoversCard : Claim7 := { stood := { row := blockCoversRow, standIns := [], harness := (true, "226d930e239870412cef5cbfd11501ef4a2598172ed79a96949de5c2add574a4"), looks := false }, kinds := [], alts := [], laidByText := true, laidKinds := [.data], laidTests := true, laidLooks := .later }
def BlockCoversCardSaid : Prop := Claim7.holds Tryd.pinned (.plain (OpenSpec.ofChange blockCoversSpec)) blockCoversCard

/-- THE SECOND FORM's CARD OF 'phosphorlaw09.BlockTells'. -/
def blockTellsUptoCard : Claim7 := { stood := { row := blockTellsUptoRow, standIns := [], harness := (true, "226d930e239870412cef5cbfd11501ef4a2598172ed79a96949de5c2add574a4"), looks := false }, kinds := [], alts := [], laidByText := true, laidKinds := [.data, .data], laidTests := true, laidLooks := .later }
def BlockTellsUptoCardSaid : Prop := Claim7.holds Tryd.pinned (.plain (OpenSpec.upto blockTellsSpec)) blockTellsUptoCard

/-- THE SECOND FORM's CARD OF 'phosphorlaw09.BlockSides'. -/
def blockSidesUptoCard : Claim7 := { stood := { row := blockSidesUptoRow, standIns := [], harness := (true, "226d930e239870412cef5cbfd11501ef4a2598172ed79a96949de5c2add574a4"), looks := false }, kinds := [], alts := [], laidByText := true, laidKinds := [.data], laidTests := true, laidLooks := .later }
def BlockSidesUptoCardSaid : Prop := Claim7.holds Tryd.pinned (.plain (OpenSpec.upto blockSidesSpec)) blockSidesUptoCard

/-- THE SECOND FORM's CARD OF 'phosphorlaw09.BlockCovers'. -/
def blockCoversUptoCard : Claim7 := { stood := { row := blockCoversUptoRow, standIns := [], harness := (true, "226d930e239870412cef5cbfd11501ef4a2598172ed79a96949de5c2add574a4"), looks := false }, kinds := [], alts := [], laidByText := true, laidKinds := [.data], laidTests := true, laidLooks := .later }
def BlockCoversUptoCardSaid : Prop := Claim7.holds Tryd.pinned (.plain (OpenSpec.upto blockCoversSpec)) blockCoversUptoCard
end Rows
end Go.Proofs.YtjmalnlfhmddjaaDoor
