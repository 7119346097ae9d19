/-
  DERIVED. GIVEN WITH THE SEED: THE CARDS: each row of YtbgbedkmggefpaaDoorRows.lean that lists a variable, with what it lists TIED to the program's text (the seventh form; the later family's looks); each row that meets fmt, with fmt's text TOLD by the authors' own Lean function (tested against real Go, not proved from fmt's source: count such statements apart). THE CARD IS WHAT COUNTS. Prove the row's statement (the work); the ties are given (YtbgbedkmggefpaaDoorTie.lean); close each card by the builder's one call (the guide's Derived/Test/ToyasCard.lean, 'card_holds'). Laid BY PROGRAM, IN A SANDBOX (cutbox-door.mjs). By AI agents, Wed Nov 11 2026. No macro, syntax, notation, axiom, sorry.
-/
import Derived.Test.YtbgbedkmggefpaaDoorRows
import GoSem.ClaimSeven
namespace Go.Proofs.YtbgbedkmggefpaaDoor
namespace Rows

/-- THE TIED CARD OF 'phosphorlaw15.RegsTells'. -/
def regsTellsCard : Claim7 := { stood := { row := regsTellsRow, standIns := [], harness := (true, "59ef52cc746e8c26c16d4abe50a86ce5d85f02911841ee7c261a6b4b0c85cb8b"), looks := false }, kinds := [], alts := [], laidByText := true, laidKinds := [.data], laidTests := true, laidLooks := .later }
def RegsTellsCardSaid : Prop := Claim7.holds Tryd.pinned (.plain (OpenSpec.ofChange regsTellsSpec)) regsTellsCard

/-- THE TIED CARD OF 'phosphorlaw15.RegsStays'. -/
def regsStaysCard : Claim7 := { stood := { row := regsStaysRow, standIns := [], harness := (true, "59ef52cc746e8c26c16d4abe50a86ce5d85f02911841ee7c261a6b4b0c85cb8b"), looks := false }, kinds := [], alts := [], laidByText := true, laidKinds := [.data], laidTests := true, laidLooks := .later }
def RegsStaysCardSaid : Prop := Claim7.holds Tryd.pinned (.plain (OpenSpec.ofChange regsStaysSpec)) regsStaysCard

/-- THE TIED CARD OF 'phosphorlaw15.RegsBack'. -/
def regsBackCard : Claim7 := { stood := { row := regsBackRow, standIns := [], harness := (true, "59ef52cc746e8c26c16d4abe50a86ce5d85f02911841ee7c261a6b4b0c85cb8b"), looks := false }, kinds := [], alts := [], laidByText := true, laidKinds := [.data], laidTests := true, laidLooks := .later }
def RegsBackCardSaid : Prop := Claim7.holds Tryd.pinned (.plain (OpenSpec.ofChange regsBackSpec)) regsBackCard

/-- THE TIED CARD OF 'phosphorlaw15.RegsOther'. -/
def regsOtherCard : Claim7 := { stood := { row := regsOtherRow, standIns := [], harness := (true, "59ef52cc746e8c26c16d4abe50a86ce5d85f02911841ee7c261a6b4b0c85cb8b"), looks := false }, kinds := [], alts := [], laidByText := true, laidKinds := [.data], laidTests := true, laidLooks := .later }
def RegsOtherCardSaid : Prop := Claim7.holds Tryd.pinned (.plain (OpenSpec.ofChange regsOtherSpec)) regsOtherCard

/-- THE SECOND FORM's CARD OF 'phosphorlaw15.RegsTells'. -/
def regsTellsUptoCard : Claim7 := { stood := { row := regsTellsUptoRow, standIns := [], harness := (true, "59ef52cc746e8c26c16d4abe50a86ce5d85f02911841ee7c261a6b4b0c85cb8b"), looks := false }, kinds := [], alts := [], laidByText := true, laidKinds := [.data], laidTests := true, laidLooks := .later }
def RegsTellsUptoCardSaid : Prop := Claim7.holds Tryd.pinned (.plain (OpenSpec.upto regsTellsSpec)) regsTellsUptoCard

/-- THE SECOND FORM's CARD OF 'phosphorlaw15.RegsStays'. -/
def regsStaysUptoCard : Claim7 := { stood := { row := regsStaysUptoRow, standIns := [], harness := (true, "59ef52cc746e8c26c16d4abe50a86ce5d85f02911841ee7c261a6b4b0c85cb8b"), looks := false }, kinds := [], alts := [], laidByText := true, laidKinds := [.data], laidTests := true, laidLooks := .later }
def RegsStaysUptoCardSaid : Prop := Claim7.holds Tryd.pinned (.plain (OpenSpec.upto regsStaysSpec)) regsStaysUptoCard

/-- THE SECOND FORM's CARD OF 'phosphorlaw15.RegsBack'. -/
def regsBackUptoCard : Claim7 := { stood := { row := regsBackUptoRow, standIns := [], harness := (true, "59ef52cc746e8c26c16d4abe50a86ce5d85f02911841ee7c261a6b4b0c85cb8b"), looks := false }, kinds := [], alts := [], laidByText := true, laidKinds := [.data], laidTests := true, laidLooks := .later }
def RegsBackUptoCardSaid : Prop := Claim7.holds Tryd.pinned (.plain (OpenSpec.upto regsBackSpec)) regsBackUptoCard

/-- THE SECOND FORM's CARD OF 'phosphorlaw15.RegsOther'. -/
def regsOtherUptoCard : Claim7 := { stood := { row := regsOtherUptoRow, standIns := [], harness := (true, "59ef52cc746e8c26c16d4abe50a86ce5d85f02911841ee7c261a6b4b0c85cb8b"), looks := false }, kinds := [], alts := [], laidByText := true, laidKinds := [.data], laidTests := true, laidLooks := .later }
def RegsOtherUptoCardSaid : Prop := Claim7.holds Tryd.pinned (.plain (OpenSpec.upto regsOtherSpec)) regsOtherUptoCard
end Rows
end Go.Proofs.YtbgbedkmggefpaaDoor
