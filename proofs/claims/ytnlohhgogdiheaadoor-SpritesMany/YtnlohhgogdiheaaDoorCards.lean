/-
  DERIVED. GIVEN WITH THE SEED: THE CARDS: each row of YtnlohhgogdiheaaDoorRows.lean that lists a variable, with what it lists TIED to the program's text (the seventh form; the later family's looks); each row that meets fmt, with fmt's text TOLD by the authors' own Lean function (tested against real Go, not proved from fmt's source: count such statements apart). THE CARD IS WHAT COUNTS. Prove the row's statement (the work); the ties are given (YtnlohhgogdiheaaDoorTie.lean); close each card by the builder's one call (the guide's Derived/Test/ToyasCard.lean, 'card_holds'). Laid BY PROGRAM, IN A SANDBOX (cutbox-door.mjs). By AI agents, Wed Nov 11 2026. No macro, syntax, notation, axiom, sorry.
-/
import Derived.Test.YtnlohhgogdiheaaDoorRows
import GoSem.ClaimSeven
namespace Go.Proofs.YtnlohhgogdiheaaDoor
namespace Rows

/-- THE TIED CARD OF 'phosphorlaw18.SpritesOf'. -/
def spritesOfCard : Claim7 := { stood := { row := spritesOfRow, standIns := [], harness := (true, "0a37a5a4315790cd1c1c663d3aa689065fbd0f428761630f5de7b36c5ae14ed1"), looks := false }, kinds := [], alts := [], laidByText := true, laidKinds := [.data], laidTests := true, laidLooks := .later }
def SpritesOfCardSaid : Prop := Claim7.holds Tryd.pinned (.plain (OpenSpec.ofChange spritesOfSpec)) spritesOfCard

/-- THE TIED CARD OF 'phosphorlaw18.SpritesLine'. -/
def spritesLineCard : Claim7 := { stood := { row := spritesLineRow, standIns := [], harness := (true, "0a37a5a4315790cd1c1c663d3aa689065fbd0f428761630f5de7b36c5ae14ed1"), looks := false }, kinds := [], alts := [], laidByText := true, laidKinds := [.data], laidTests := true, laidLooks := .later }
def SpritesLineCardSaid : Prop := Claim7.holds Tryd.pinned (.plain (OpenSpec.ofChange spritesLineSpec)) spritesLineCard

/-- THE TIED CARD OF 'phosphorlaw18.SpritesAhead'. -/
def spritesAheadCard : Claim7 := { stood := { row := spritesAheadRow, standIns := [], harness := (true, "0a37a5a4315790cd1c1c663d3aa689065fbd0f428761630f5de7b36c5ae14ed1"), looks := false }, kinds := [], alts := [], laidByText := true, laidKinds := [.data], laidTests := true, laidLooks := .later }
def SpritesAheadCardSaid : Prop := Claim7.holds Tryd.pinned (.plain (OpenSpec.ofChange spritesAheadSpec)) spritesAheadCard

/-- THE TIED CARD OF 'phosphorlaw18.SpritesFlip'. -/
def spritesFlipCard : Claim7 := { stood := { row := spritesFlipRow, standIns := [], harness := (true, "0a37a5a4315790cd1c1c663d3aa689065fbd0f428761630f5de7b36c5ae14ed1"), looks := false }, kinds := [], alts := [], laidByText := true, laidKinds := [.data], laidTests := true, laidLooks := .later }
def SpritesFlipCardSaid : Prop := Claim7.holds Tryd.pinned (.plain (OpenSpec.ofChange spritesFlipSpec)) spritesFlipCard

/-- THE TIED CARD OF 'phosphorlaw18.SpritesMany'. -/
def spritesManyCard : Claim7 := { stood := { row := spritesManyRow, standIns := [], harness := (true, "0a37a5a4315790cd1c1c663d3aa689065fbd0f428761630f5de7b36c5ae14ed1"), looks := false }, kinds := [], alts := [], laidByText := true, laidKinds := [.data], laidTests := true, laidLooks := .later }
def SpritesManyCardSaid : Prop := Claim7.holds Tryd.pinned (.plain (OpenSpec.ofChange spritesManySpec)) spritesManyCard

/-- THE TIED CARD OF 'phosphorlaw18.SpritesAway'. -/
def spritesAwayCard : Claim7 := { stood := { row := spritesAwayRow, standIns := [], harness := (true, "0a37a5a4315790cd1c1c663d3aa689065fbd0f428761630f5de7b36c5ae14ed1"), looks := false }, kinds := [], alts := [], laidByText := true, laidKinds := [.data], laidTests := true, laidLooks := .later }
def SpritesAwayCardSaid : Prop := Claim7.holds Tryd.pinned (.plain (OpenSpec.ofChange spritesAwaySpec)) spritesAwayCard

/-- THE SECOND FORM's CARD OF 'phosphorlaw18.SpritesOf'. -/
def spritesOfUptoCard : Claim7 := { stood := { row := spritesOfUptoRow, standIns := [], harness := (true, "0a37a5a4315790cd1c1c663d3aa689065fbd0f428761630f5de7b36c5ae14ed1"), looks := false }, kinds := [], alts := [], laidByText := true, laidKinds := [.data], laidTests := true, laidLooks := .later }
def SpritesOfUptoCardSaid : Prop := Claim7.holds Tryd.pinned (.plain (OpenSpec.upto spritesOfSpec)) spritesOfUptoCard

/-- THE SECOND FORM's CARD OF 'phosphorlaw18.SpritesLine'. -/
def spritesLineUptoCard : Claim7 := { stood := { row := spritesLineUptoRow, standIns := [], harness := (true, "0a37a5a4315790cd1c1c663d3aa689065fbd0f428761630f5de7b36c5ae14ed1"), looks := false }, kinds := [], alts := [], laidByText := true, laidKinds := [.data], laidTests := true, laidLooks := .later }
def SpritesLineUptoCardSaid : Prop := Claim7.holds Tryd.pinned (.plain (OpenSpec.upto spritesLineSpec)) spritesLineUptoCard

/-- THE SECOND FORM's CARD OF 'phosphorlaw18.SpritesAhead'. -/
def spritesAheadUptoCard : Claim7 := { stood := { row := spritesAheadUptoRow, standIns := [], harness := (true, "0a37a5a4315790cd1c1c663d3aa689065fbd0f428761630f5de7b36c5ae14ed1"), looks := false }, kinds := [], alts := [], laidByText := true, laidKinds := [.data], laidTests := true, laidLooks := .later }
def SpritesAheadUptoCardSaid : Prop := Claim7.holds Tryd.pinned (.plain (OpenSpec.upto spritesAheadSpec)) spritesAheadUptoCard

/-- THE SECOND FORM's CARD OF 'phosphorlaw18.SpritesFlip'. -/
def spritesFlipUptoCard : Claim7 := { stood := { row := spritesFlipUptoRow, standIns := [], harness := (true, "0a37a5a4315790cd1c1c663d3aa689065fbd0f428761630f5de7b36c5ae14ed1"), looks := false }, kinds := [], alts := [], laidByText := true, laidKinds := [.data], laidTests := true, laidLooks := .later }
def SpritesFlipUptoCardSaid : Prop := Claim7.holds Tryd.pinned (.plain (OpenSpec.upto spritesFlipSpec)) spritesFlipUptoCard

/-- THE SECOND FORM's CARD OF 'phosphorlaw18.SpritesMany'. -/
def spritesManyUptoCard : Claim7 := { stood := { row := spritesManyUptoRow, standIns := [], harness := (true, "0a37a5a4315790cd1c1c663d3aa689065fbd0f428761630f5de7b36c5ae14ed1"), looks := false }, kinds := [], alts := [], laidByText := true, laidKinds := [.data], laidTests := true, laidLooks := .later }
def SpritesManyUptoCardSaid : Prop := Claim7.holds Tryd.pinned (.plain (OpenSpec.upto spritesManySpec)) spritesManyUptoCard

/-- THE SECOND FORM's CARD OF 'phosphorlaw18.SpritesAway'. -/
def spritesAwayUptoCard : Claim7 := { stood := { row := spritesAwayUptoRow, standIns := [], harness := (true, "0a37a5a4315790cd1c1c663d3aa689065fbd0f428761630f5de7b36c5ae14ed1"), looks := false }, kinds := [], alts := [], laidByText := true, laidKinds := [.data], laidTests := true, laidLooks := .later }
def SpritesAwayUptoCardSaid : Prop := Claim7.holds Tryd.pinned (.plain (OpenSpec.upto spritesAwaySpec)) spritesAwayUptoCard
end Rows
end Go.Proofs.YtnlohhgogdiheaaDoor
