/-
  DERIVED. GIVEN WITH THE SEED: THE CARDS: each row of YtijidlhfaifbfaaDoorRows.lean that lists a variable, with what it lists TIED to the program's text (the seventh form; the later family's looks); each row that meets fmt, with fmt's text TOLD by the authors' own Lean function (tested against real Go, not proved from fmt's source: count such statements apart). THE CARD IS WHAT COUNTS. Prove the row's statement (the work); the ties are given (YtijidlhfaifbfaaDoorTie.lean); close each card by the builder's one call (the guide's Derived/Test/ToyasCard.lean, 'card_holds'). Laid BY PROGRAM, IN A SANDBOX (cutbox-door.mjs). By AI agents, Wed Nov 11 2026. No macro, syntax, notation, axiom, sorry.
-/
import Derived.Test.YtijidlhfaifbfaaDoorRows
import GoSem.ClaimSeven
namespace Go.Proofs.YtijidlhfaifbfaaDoor
namespace Rows

/-- THE TIED CARD OF 'phosphorlaw06.RegionTells'. -/
def regionTellsCard : Claim7 := { stood := { row := regionTellsRow, standIns := [], harness := (true, "65727b1b36d0c9c5ed185f47aec5976cd43f872a9dff037c22ecfb625d67ab03"), looks := false }, kinds := [], alts := [], laidByText := true, laidKinds := [.data], laidTests := true, laidLooks := .later }
def RegionTellsCardSaid : Prop := Claim7.holds Tryd.pinned (.plain (OpenSpec.ofChange regionTellsSpec)) regionTellsCard

/-- THE TIED CARD OF 'phosphorlaw06.RegionApart'. -/
def regionApartCard : Claim7 := { stood := { row := regionApartRow, standIns := [], harness := (true, "65727b1b36d0c9c5ed185f47aec5976cd43f872a9dff037c22ecfb625d67ab03"), looks := false }, kinds := [], alts := [], laidByText := true, laidKinds := [.data], laidTests := true, laidLooks := .later }
def RegionApartCardSaid : Prop := Claim7.holds Tryd.pinned (.plain (OpenSpec.ofChange regionApartSpec)) regionApartCard

/-- THE TIED CARD OF 'phosphorlaw06.RegionPorts'. -/
def regionPortsCard : Claim7 := { stood := { row := regionPortsRow, standIns := [], harness := (true, "65727b1b36d0c9c5ed185f47aec5976cd43f872a9dff037c22ecfb625d67ab03"), looks := false }, kinds := [], alts := [], laidByText := true, laidKinds := [.data], laidTests := true, laidLooks := .later }
def RegionPortsCardSaid : Prop := Claim7.holds Tryd.pinned (.plain (OpenSpec.ofChange regionPortsSpec)) regionPortsCard

/-- THE TIED CARD OF 'phosphorlaw06.RegionOpen'. -/
def regionOpenCard : Claim7 := { stood := { row := regionOpenRow, standIns := [], harness := (true, "65727b1b36d0c9c5ed185f47aec5976cd43f872a9dff037c22ecfb625d67ab03"), looks := false }, kinds := [], alts := [], laidByText := true, laidKinds := [.data], laidTests := true, laidLooks := .later }
def RegionOpenCardSaid : Prop := Claim7.holds Tryd.pinned (.plain (OpenSpec.ofChange regionOpenSpec)) regionOpenCard

/-- THE SECOND FORM's CARD OF 'phosphorlaw06.RegionTells'. -/
def regionTellsUptoCard : Claim7 := { stood := { row := regionTellsUptoRow, standIns := [], harness := (true, "65727b1b36d0c9c5ed185f47aec5976cd43f872a9dff037c22ecfb625d67ab03"), looks := false }, kinds := [], alts := [], laidByText := true, laidKinds := [.data], laidTests := true, laidLooks := .later }
def RegionTellsUptoCardSaid : Prop := Claim7.holds Tryd.pinned (.plain (OpenSpec.upto regionTellsSpec)) regionTellsUptoCard

/-- THE SECOND FORM's CARD OF 'phosphorlaw06.RegionApart'. -/
def regionApartUptoCard : Claim7 := { stood := { row := regionApartUptoRow, standIns := [], harness := (true, "65727b1b36d0c9c5ed185f47aec5976cd43f872a9dff037c22ecfb625d67ab03"), looks := false }, kinds := [], alts := [], laidByText := true, laidKinds := [.data], laidTests := true, laidLooks := .later }
def RegionApartUptoCardSaid : Prop := Claim7.holds Tryd.pinned (.plain (OpenSpec.upto regionApartSpec)) regionApartUptoCard

/-- THE SECOND FORM's CARD OF 'phosphorlaw06.RegionPorts'. -/
def regionPortsUptoCard : Claim7 := { stood := { row := regionPortsUptoRow, standIns := [], harness := (true, "65727b1b36d0c9c5ed185f47aec5976cd43f872a9dff037c22ecfb625d67ab03"), looks := false }, kinds := [], alts := [], laidByText := true, laidKinds := [.data], laidTests := true, laidLooks := .later }
def RegionPortsUptoCardSaid : Prop := Claim7.holds Tryd.pinned (.plain (OpenSpec.upto regionPortsSpec)) regionPortsUptoCard

/-- THE SECOND FORM's CARD OF 'phosphorlaw06.RegionOpen'. -/
def regionOpenUptoCard : Claim7 := { stood := { row := regionOpenUptoRow, standIns := [], harness := (true, "65727b1b36d0c9c5ed185f47aec5976cd43f872a9dff037c22ecfb625d67ab03"), looks := false }, kinds := [], alts := [], laidByText := true, laidKinds := [.data], laidTests := true, laidLooks := .later }
def RegionOpenUptoCardSaid : Prop := Claim7.holds Tryd.pinned (.plain (OpenSpec.upto regionOpenSpec)) regionOpenUptoCard
end Rows
end Go.Proofs.YtijidlhfaifbfaaDoor
