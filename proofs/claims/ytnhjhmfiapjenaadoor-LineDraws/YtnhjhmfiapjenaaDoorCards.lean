/-
  DERIVED. GIVEN WITH THE SEED: THE CARDS: each row of YtnhjhmfiapjenaaDoorRows.lean that lists a variable, with what it lists TIED to the program's text (the seventh form; the later family's looks); each row that meets fmt, with fmt's text TOLD by the authors' own Lean function (tested against real Go, not proved from fmt's source: count such statements apart). THE CARD IS WHAT COUNTS. Prove the row's statement (the work); the ties are given (YtnhjhmfiapjenaaDoorTie.lean); close each card by the builder's one call (the guide's Derived/Test/ToyasCard.lean, 'card_holds'). Laid BY PROGRAM, IN A SANDBOX (cutbox-door.mjs). By AI agents, Wed Nov 11 2026. No macro, syntax, notation, axiom, sorry.
-/
import Derived.Test.YtnhjhmfiapjenaaDoorRows
import GoSem.ClaimSeven
namespace Go.Proofs.YtnhjhmfiapjenaaDoor
namespace Rows

/-- THE TIED CARD OF 'phosphorlaw19.LineDraws'. -/
def lineDrawsCard : Claim7 := { stood := { row := lineDrawsRow, standIns := [], harness := (true, "455e56977c035b47274077aa74f753e05550de80d597e40b46e3a249bcdfd607"), looks := false }, kinds := [], alts := [], laidByText := true, laidKinds := [.data], laidTests := true, laidLooks := .later }
def LineDrawsCardSaid : Prop := Claim7.holds Tryd.pinned (.plain (OpenSpec.ofChange lineDrawsSpec)) lineDrawsCard

/-- THE TIED CARD OF 'phosphorlaw19.LinePlain'. -/
def linePlainCard : Claim7 := { stood := { row := linePlainRow, standIns := [], harness := (true, "455e56977c035b47274077aa74f753e05550de80d597e40b46e3a249bcdfd607"), looks := false }, kinds := [], alts := [], laidByText := true, laidKinds := [.data], laidTests := true, laidLooks := .later }
def LinePlainCardSaid : Prop := Claim7.holds Tryd.pinned (.plain (OpenSpec.ofChange linePlainSpec)) linePlainCard

/-- THE TIED CARD OF 'phosphorlaw19.LineWide'. -/
def lineWideCard : Claim7 := { stood := { row := lineWideRow, standIns := [], harness := (true, "455e56977c035b47274077aa74f753e05550de80d597e40b46e3a249bcdfd607"), looks := false }, kinds := [], alts := [], laidByText := true, laidKinds := [.data], laidTests := true, laidLooks := .later }
def LineWideCardSaid : Prop := Claim7.holds Tryd.pinned (.plain (OpenSpec.ofChange lineWideSpec)) lineWideCard

/-- THE SECOND FORM's CARD OF 'phosphorlaw19.LineDraws'. -/
def lineDrawsUptoCard : Claim7 := { stood := { row := lineDrawsUptoRow, standIns := [], harness := (true, "455e56977c035b47274077aa74f753e05550de80d597e40b46e3a249bcdfd607"), looks := false }, kinds := [], alts := [], laidByText := true, laidKinds := [.data], laidTests := true, laidLooks := .later }
def LineDrawsUptoCardSaid : Prop := Claim7.holds Tryd.pinned (.plain (OpenSpec.upto lineDrawsSpec)) lineDrawsUptoCard

/-- THE SECOND FORM's CARD OF 'phosphorlaw19.LinePlain'. -/
def linePlainUptoCard : Claim7 := { stood := { row := linePlainUptoRow, standIns := [], harness := (true, "455e56977c035b47274077aa74f753e05550de80d597e40b46e3a249bcdfd607"), looks := false }, kinds := [], alts := [], laidByText := true, laidKinds := [.data], laidTests := true, laidLooks := .later }
def LinePlainUptoCardSaid : Prop := Claim7.holds Tryd.pinned (.plain (OpenSpec.upto linePlainSpec)) linePlainUptoCard

/-- THE SECOND FORM's CARD OF 'phosphorlaw19.LineWide'. -/
def lineWideUptoCard : Claim7 := { stood := { row := lineWideUptoRow, standIns := [], harness := (true, "455e56977c035b47274077aa74f753e05550de80d597e40b46e3a249bcdfd607"), looks := false }, kinds := [], alts := [], laidByText := true, laidKinds := [.data], laidTests := true, laidLooks := .later }
def LineWideUptoCardSaid : Prop := Claim7.holds Tryd.pinned (.plain (OpenSpec.upto lineWideSpec)) lineWideUptoCard
end Rows
end Go.Proofs.YtnhjhmfiapjenaaDoor
