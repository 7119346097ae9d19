/-
  DERIVED. GIVEN WITH THE SEED: THE CARDS: each row of YtemljklgjhnibaaDoorRows.lean that lists a variable, with what it lists TIED to the program's text (the seventh form; the later family's looks); each row that meets fmt, with fmt's text TOLD by the authors' own Lean function (tested against real Go, not proved from fmt's source: count such statements apart). THE CARD IS WHAT COUNTS. Prove the row's statement (the work); the ties are given (YtemljklgjhnibaaDoorTie.lean); close each card by the builder's one call (the guide's Derived/Test/ToyasCard.lean, 'card_holds'). Laid BY PROGRAM, IN A SANDBOX (cutbox-door.mjs). By AI agents, Wed Nov 11 2026. No macro, syntax, notation, axiom, sorry.
-/
import Derived.Test.YtemljklgjhnibaaDoorRows
import GoSem.ClaimSeven
namespace Go.Proofs.YtemljklgjhnibaaDoor
namespace Rows

/-- THE TIED CARD OF 'phosphorlaw04.BanksTells'. -/
def banksTellsCard : Claim7 := { stood := { row := banksTellsRow, standIns := [], harness := (true, "09638623dd0b79a456352dfdc5209dee7d5c6a873dd66b07b91f0fc533326a88"), looks := false }, kinds := [], alts := [], laidByText := true, laidKinds := [.data], laidTests := true, laidLooks := .later }
def BanksTellsCardSaid : Prop := Claim7.holds Tryd.pinned (.plain (OpenSpec.ofChange banksTellsSpec)) banksTellsCard

/-- THE TIED CARD OF 'phosphorlaw04.BanksAll'. -/
def banksAllCard : Claim7 := { stood := { row := banksAllRow, standIns := [], harness := (true, "09638623dd0b79a456352dfdc5209dee7d5c6a873dd66b07b91f0fc533326a88"), looks := false }, kinds := [], alts := [], laidByText := true, laidKinds := [.data], laidTests := true, laidLooks := .later }
def BanksAllCardSaid : Prop := Claim7.holds Tryd.pinned (.plain (OpenSpec.ofChange banksAllSpec)) banksAllCard

/-- THE TIED CARD OF 'phosphorlaw04.BanksShows'. -/
def banksShowsCard : Claim7 := { stood := { row := banksShowsRow, standIns := [], harness := (true, "09638623dd0b79a456352dfdc5209dee7d5c6a873dd66b07b91f0fc533326a88"), looks := false }, kinds := [], alts := [], laidByText := true, laidKinds := [.data], laidTests := true, laidLooks := .later }
def BanksShowsCardSaid : Prop := Claim7.holds Tryd.pinned (.plain (OpenSpec.ofChange banksShowsSpec)) banksShowsCard

/-- THE TIED CARD OF 'phosphorlaw04.BanksRound'. -/
def banksRoundCard : Claim7 := { stood := { row := banksRoundRow, standIns := [], harness := (true, "09638623dd0b79a456352dfdc5209dee7d5c6a873dd66b07b91f0fc533326a88"), looks := false }, kinds := [], alts := [], laidByText := true, laidKinds := [.data], laidTests := true, laidLooks := .later }
def BanksRoundCardSaid : Prop := Claim7.holds Tryd.pinned (.plain (OpenSpec.ofChange banksRoundSpec)) banksRoundCard

/-- THE TIED CARD OF 'phosphorlaw04.BanksLatches'. -/
def banksLatchesCard : Claim7 := { stood := { row := banksLatchesRow, standIns := [], harness := (true, "09638623dd0b79a456352dfdc5209dee7d5c6a873dd66b07b91f0fc533326a88"), looks := false }, kinds := [], alts := [], laidByText := true, laidKinds := [.data], laidTests := true, laidLooks := .later }
def BanksLatchesCardSaid : Prop := Claim7.holds Tryd.pinned (.plain (OpenSpec.ofChange banksLatchesSpec)) banksLatchesCard

/-- THE SECOND FORM's CARD OF 'phosphorlaw04.BanksTells'. -/
def banksTellsUptoCard : Claim7 := { stood := { row := banksTellsUptoRow, standIns := [], harness := (true, "09638623dd0b79a456352dfdc5209dee7d5c6a873dd66b07b91f0fc533326a88"), looks := false }, kinds := [], alts := [], laidByText := true, laidKinds := [.data], laidTests := true, laidLooks := .later }
def BanksTellsUptoCardSaid : Prop := Claim7.holds Tryd.pinned (.plain (OpenSpec.upto banksTellsSpec)) banksTellsUptoCard

/-- THE SECOND FORM's CARD OF 'phosphorlaw04.BanksAll'. -/
def banksAllUptoCard : Claim7 := { stood := { row := banksAllUptoRow, standIns := [], harness := (true, "09638623dd0b79a456352dfdc5209dee7d5c6a873dd66b07b91f0fc533326a88"), looks := false }, kinds := [], alts := [], laidByText := true, laidKinds := [.data], laidTests := true, laidLooks := .later }
def BanksAllUptoCardSaid : Prop := Claim7.holds Tryd.pinned (.plain (OpenSpec.upto banksAllSpec)) banksAllUptoCard

/-- THE SECOND FORM's CARD OF 'phosphorlaw04.BanksShows'. -/
def banksShowsUptoCard : Claim7 := { stood := { row := banksShowsUptoRow, standIns := [], harness := (true, "09638623dd0b79a456352dfdc5209dee7d5c6a873dd66b07b91f0fc533326a88"), looks := false }, kinds := [], alts := [], laidByText := true, laidKinds := [.data], laidTests := true, laidLooks := .later }
def BanksShowsUptoCardSaid : Prop := Claim7.holds Tryd.pinned (.plain (OpenSpec.upto banksShowsSpec)) banksShowsUptoCard

/-- THE SECOND FORM's CARD OF 'phosphorlaw04.BanksRound'. -/
def banksRoundUptoCard : Claim7 := { stood := { row := banksRoundUptoRow, standIns := [], harness := (true, "09638623dd0b79a456352dfdc5209dee7d5c6a873dd66b07b91f0fc533326a88"), looks := false }, kinds := [], alts := [], laidByText := true, laidKinds := [.data], laidTests := true, laidLooks := .later }
def BanksRoundUptoCardSaid : Prop := Claim7.holds Tryd.pinned (.plain (OpenSpec.upto banksRoundSpec)) banksRoundUptoCard

/-- THE SECOND FORM's CARD OF 'phosphorlaw04.BanksLatches'. -/
def banksLatchesUptoCard : Claim7 := { stood := { row := banksLatchesUptoRow, standIns := [], harness := (true, "09638623dd0b79a456352dfdc5209dee7d5c6a873dd66b07b91f0fc533326a88"), looks := false }, kinds := [], alts := [], laidByText := true, laidKinds := [.data], laidTests := true, laidLooks := .later }
def BanksLatchesUptoCardSaid : Prop := Claim7.holds Tryd.pinned (.plain (OpenSpec.upto banksLatchesSpec)) banksLatchesUptoCard
end Rows
end Go.Proofs.YtemljklgjhnibaaDoor
