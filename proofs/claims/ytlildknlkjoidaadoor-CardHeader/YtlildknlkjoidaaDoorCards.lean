/-
  DERIVED. GIVEN WITH THE SEED: THE CARDS: each row of YtlildknlkjoidaaDoorRows.lean that lists a variable, with what it lists TIED to the program's text (the seventh form; the later family's looks); each row that meets fmt, with fmt's text TOLD by the authors' own Lean function (tested against real Go, not proved from fmt's source: count such statements apart). THE CARD IS WHAT COUNTS. Prove the row's statement (the work); the ties are given (YtlildknlkjoidaaDoorTie.lean); close each card by the builder's one call (the guide's Derived/Test/ToyasCard.lean, 'card_holds'). Laid BY PROGRAM, IN A SANDBOX (cutbox-door.mjs). By AI agents, Wed Nov 11 2026. No macro, syntax, notation, axiom, sorry.
-/
import Derived.Test.YtlildknlkjoidaaDoorRows
import GoSem.ClaimSeven
namespace Go.Proofs.YtlildknlkjoidaaDoor
namespace Rows

/-- THE TIED CARD OF 'phosphorlaw03.CardLoads'. -/
def cardLoadsCard : Claim7 := { stood := { row := cardLoadsRow, standIns := [], harness := (true, "fa813e7ee2e711e421d121c85e3db63a12c0d559205366ec6eb0bff58998939a"), looks := true }, kinds := [], alts := [], laidByText := true, laidKinds := [.handle, .data], laidTests := true, laidLooks := .later }
def CardLoadsCardSaid : Prop := Claim7.holds Tryd.pinned (.plain (OpenSpec.ofChange cardLoadsSpec)) cardLoadsCard

/-- THE TIED CARD OF 'phosphorlaw03.CardNobody'. -/
def cardNobodyCard : Claim7 := { stood := { row := cardNobodyRow, standIns := [], harness := (true, "fa813e7ee2e711e421d121c85e3db63a12c0d559205366ec6eb0bff58998939a"), looks := true }, kinds := [], alts := [], laidByText := true, laidKinds := [.data], laidTests := true, laidLooks := .later }
def CardNobodyCardSaid : Prop := Claim7.holds Tryd.pinned (.plain (OpenSpec.ofChange cardNobodySpec)) cardNobodyCard

/-- THE TIED CARD OF 'phosphorlaw03.CardHeader'. -/
def cardHeaderCard : Claim7 := { stood := { row := cardHeaderRow, standIns := [], harness := (true, "fa813e7ee2e711e421d121c85e3db63a12c0d559205366ec6eb0bff58998939a"), looks := true }, kinds := [], alts := [], laidByText := true, laidKinds := [.handle, .data], laidTests := true, laidLooks := .later }
def CardHeaderCardSaid : Prop := Claim7.holds Tryd.pinned (.plain (OpenSpec.ofChange cardHeaderSpec)) cardHeaderCard

/-- THE TIED CARD OF 'phosphorlaw03.CardClasses'. -/
def cardClassesCard : Claim7 := { stood := { row := cardClassesRow, standIns := [], harness := (true, "fa813e7ee2e711e421d121c85e3db63a12c0d559205366ec6eb0bff58998939a"), looks := true }, kinds := [], alts := [], laidByText := true, laidKinds := [.data], laidTests := true, laidLooks := .later }
def CardClassesCardSaid : Prop := Claim7.holds Tryd.pinned (.plain (OpenSpec.ofChange cardClassesSpec)) cardClassesCard

/-- THE TIED CARD OF 'phosphorlaw03.CardTells'. -/
def cardTellsCard : Claim7 := { stood := { row := cardTellsRow, standIns := [], harness := (true, "fa813e7ee2e711e421d121c85e3db63a12c0d559205366ec6eb0bff58998939a"), looks := true }, kinds := [], alts := [], laidByText := true, laidKinds := [.handle, .data], laidTests := true, laidLooks := .later }
def CardTellsCardSaid : Prop := Claim7.holds Tryd.pinned (.plain (OpenSpec.ofChange cardTellsSpec)) cardTellsCard

/-- THE SECOND FORM's CARD OF 'phosphorlaw03.CardLoads'. -/
def cardLoadsUptoCard : Claim7 := { stood := { row := cardLoadsUptoRow, standIns := [], harness := (true, "fa813e7ee2e711e421d121c85e3db63a12c0d559205366ec6eb0bff58998939a"), looks := true }, kinds := [], alts := [], laidByText := true, laidKinds := [.handle, .data], laidTests := true, laidLooks := .later }
def CardLoadsUptoCardSaid : Prop := Claim7.holds Tryd.pinned (.plain (OpenSpec.upto cardLoadsSpec)) cardLoadsUptoCard

/-- THE SECOND FORM's CARD OF 'phosphorlaw03.CardNobody'. -/
def cardNobodyUptoCard : Claim7 := { stood := { row := cardNobodyUptoRow, standIns := [], harness := (true, "fa813e7ee2e711e421d121c85e3db63a12c0d559205366ec6eb0bff58998939a"), looks := true }, kinds := [], alts := [], laidByText := true, laidKinds := [.data], laidTests := true, laidLooks := .later }
def CardNobodyUptoCardSaid : Prop := Claim7.holds Tryd.pinned (.plain (OpenSpec.upto cardNobodySpec)) cardNobodyUptoCard

/-- THE SECOND FORM's CARD OF 'phosphorlaw03.CardHeader'. -/
def cardHeaderUptoCard : Claim7 := { stood := { row := cardHeaderUptoRow, standIns := [], harness := (true, "fa813e7ee2e711e421d121c85e3db63a12c0d559205366ec6eb0bff58998939a"), looks := true }, kinds := [], alts := [], laidByText := true, laidKinds := [.handle, .data], laidTests := true, laidLooks := .later }
def CardHeaderUptoCardSaid : Prop := Claim7.holds Tryd.pinned (.plain (OpenSpec.upto cardHeaderSpec)) cardHeaderUptoCard

/-- THE SECOND FORM's CARD OF 'phosphorlaw03.CardClasses'. -/
def cardClassesUptoCard : Claim7 := { stood := { row := cardClassesUptoRow, standIns := [], harness := (true, "fa813e7ee2e711e421d121c85e3db63a12c0d559205366ec6eb0bff58998939a"), looks := true }, kinds := [], alts := [], laidByText := true, laidKinds := [.data], laidTests := true, laidLooks := .later }
def CardClassesUptoCardSaid : Prop := Claim7.holds Tryd.pinned (.plain (OpenSpec.upto cardClassesSpec)) cardClassesUptoCard

/-- THE SECOND FORM's CARD OF 'phosphorlaw03.CardTells'. -/
def cardTellsUptoCard : Claim7 := { stood := { row := cardTellsUptoRow, standIns := [], harness := (true, "fa813e7ee2e711e421d121c85e3db63a12c0d559205366ec6eb0bff58998939a"), looks := true }, kinds := [], alts := [], laidByText := true, laidKinds := [.handle, .data], laidTests := true, laidLooks := .later }
def CardTellsUptoCardSaid : Prop := Claim7.holds Tryd.pinned (.plain (OpenSpec.upto cardTellsSpec)) cardTellsUptoCard
end Rows
end Go.Proofs.YtlildknlkjoidaaDoor
