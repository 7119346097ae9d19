/-
  DERIVED. GIVEN WITH THE SEED: THE CARDS: each row of YtnmdifgoimoecaaDoorRows.lean that lists a variable, with what it lists TIED to the program's text (the seventh form; the later family's looks); each row that meets fmt, with fmt's text TOLD by the authors' own Lean function (tested against real Go, not proved from fmt's source: count such statements apart). THE CARD IS WHAT COUNTS. Prove the row's statement (the work); the ties are given (YtnmdifgoimoecaaDoorTie.lean); close each card by the builder's one call (the guide's Derived/Test/ToyasCard.lean, 'card_holds'). Laid BY PROGRAM, IN A SANDBOX (cutbox-door.mjs). By AI agents, Wed Nov 11 2026. No macro, syntax, notation, axiom, sorry.
-/
import Derived.Test.YtnmdifgoimoecaaDoorRows
import GoSem.ClaimSeven
namespace Go.Proofs.YtnmdifgoimoecaaDoor
namespace Rows

/-- THE TIED CARD OF 'phosphorlaw11.IrqTells'. -/
def irqTellsCard : Claim7 := { stood := { row := irqTellsRow, standIns := [], harness := (true, "78ad1e735248eb38a804c6456b8bde51014ba853f9410e9aca81f7525bcfab48"), looks := false }, kinds := [], alts := [], laidByText := true, laidKinds := [.data], laidTests := true, laidLooks := .later }
def IrqTellsCardSaid : Prop := Claim7.holds Tryd.pinned (.plain (OpenSpec.ofChange irqTellsSpec)) irqTellsCard

/-- THE TIED CARD OF 'phosphorlaw11.IrqMore'. -/
def irqMoreCard : Claim7 := { stood := { row := irqMoreRow, standIns := [], harness := (true, "78ad1e735248eb38a804c6456b8bde51014ba853f9410e9aca81f7525bcfab48"), looks := false }, kinds := [], alts := [], laidByText := true, laidKinds := [.data], laidTests := true, laidLooks := .later }
def IrqMoreCardSaid : Prop := Claim7.holds Tryd.pinned (.plain (OpenSpec.ofChange irqMoreSpec)) irqMoreCard

/-- THE TIED CARD OF 'phosphorlaw11.IrqFirst'. -/
def irqFirstCard : Claim7 := { stood := { row := irqFirstRow, standIns := [], harness := (true, "78ad1e735248eb38a804c6456b8bde51014ba853f9410e9aca81f7525bcfab48"), looks := false }, kinds := [], alts := [], laidByText := true, laidKinds := [.data], laidTests := true, laidLooks := .later }
def IrqFirstCardSaid : Prop := Claim7.holds Tryd.pinned (.plain (OpenSpec.ofChange irqFirstSpec)) irqFirstCard

/-- THE SECOND FORM's CARD OF 'phosphorlaw11.IrqTells'. -/
def irqTellsUptoCard : Claim7 := { stood := { row := irqTellsUptoRow, standIns := [], harness := (true, "78ad1e735248eb38a804c6456b8bde51014ba853f9410e9aca81f7525bcfab48"), looks := false }, kinds := [], alts := [], laidByText := true, laidKinds := [.data], laidTests := true, laidLooks := .later }
def IrqTellsUptoCardSaid : Prop := Claim7.holds Tryd.pinned (.plain (OpenSpec.upto irqTellsSpec)) irqTellsUptoCard

/-- THE SECOND FORM's CARD OF 'phosphorlaw11.IrqMore'. -/
def irqMoreUptoCard : Claim7 := { stood := { row := irqMoreUptoRow, standIns := [], harness := (true, "78ad1e735248eb38a804c6456b8bde51014ba853f9410e9aca81f7525bcfab48"), looks := false }, kinds := [], alts := [], laidByText := true, laidKinds := [.data], laidTests := true, laidLooks := .later }
def IrqMoreUptoCardSaid : Prop := Claim7.holds Tryd.pinned (.plain (OpenSpec.upto irqMoreSpec)) irqMoreUptoCard

/-- THE SECOND FORM's CARD OF 'phosphorlaw11.IrqFirst'. -/
def irqFirstUptoCard : Claim7 := { stood := { row := irqFirstUptoRow, standIns := [], harness := (true, "78ad1e735248eb38a804c6456b8bde51014ba853f9410e9aca81f7525bcfab48"), looks := false }, kinds := [], alts := [], laidByText := true, laidKinds := [.data], laidTests := true, laidLooks := .later }
def IrqFirstUptoCardSaid : Prop := Claim7.holds Tryd.pinned (.plain (OpenSpec.upto irqFirstSpec)) irqFirstUptoCard
end Rows
end Go.Proofs.YtnmdifgoimoecaaDoor
