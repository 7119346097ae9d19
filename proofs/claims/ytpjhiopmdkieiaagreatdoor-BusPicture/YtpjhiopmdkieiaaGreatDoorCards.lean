/-
  DERIVED. GIVEN WITH THE SEED: THE CARDS: each row of YtpjhiopmdkieiaaGreatDoorRows.lean that lists a variable, with what it lists TIED to the program's text (the seventh form; the later family's looks); each row that meets fmt, with fmt's text TOLD by the authors' own Lean function (tested against real Go, not proved from fmt's source: count such statements apart). THE CARD IS WHAT COUNTS. Prove the row's statement (the work); the ties are given (YtpjhiopmdkieiaaGreatDoorTie.lean); close each card by the builder's one call (the guide's Derived/Test/ToyasCard.lean, 'card_holds'). Laid BY PROGRAM, IN A SANDBOX (cutbox-door.mjs). By AI agents, Wed Nov 11 2026. No macro, syntax, notation, axiom, sorry.
-/
import Derived.Test.YtpjhiopmdkieiaaGreatDoorRows
import GoSem.ClaimSeven
namespace Go.Proofs.YtpjhiopmdkieiaaGreatDoor
namespace Rows

/-- THE TIED CARD OF 'phosphorlaw24.BusPlays'. -/
def busPlaysCard : Claim7 := { stood := { row := busPlaysRow, standIns := [], harness := (true, "d2f85ad93c61b20f64febda44d501f95b07be1433304591e2ecdefdf363e8d4b"), looks := true }, kinds := [], alts := [], laidByText := true, laidKinds := [.data, .data, .handle, .data], laidTests := true, laidLooks := .later }
def BusPlaysCardSaid : Prop := Claim7.holds Tryz.pinned (.plain (OpenSpec.ofChange busPlaysSpec)) busPlaysCard

/-- THE TIED CARD OF 'phosphorlaw24.BusNobody'. -/
def busNobodyCard : Claim7 := { stood := { row := busNobodyRow, standIns := [], harness := (true, "d2f85ad93c61b20f64febda44d501f95b07be1433304591e2ecdefdf363e8d4b"), looks := true }, kinds := [], alts := [], laidByText := true, laidKinds := [.data, .data, .handle, .data], laidTests := true, laidLooks := .later }
def BusNobodyCardSaid : Prop := Claim7.holds Tryz.pinned (.plain (OpenSpec.ofChange busNobodySpec)) busNobodyCard

/-- THE TIED CARD OF 'phosphorlaw24.BusRam'. -/
def busRamCard : Claim7 := { stood := { row := busRamRow, standIns := [], harness := (true, "d2f85ad93c61b20f64febda44d501f95b07be1433304591e2ecdefdf363e8d4b"), looks := true }, kinds := [], alts := [], laidByText := true, laidKinds := [.data, .data, .handle, .data], laidTests := true, laidLooks := .later }
def BusRamCardSaid : Prop := Claim7.holds Tryz.pinned (.plain (OpenSpec.ofChange busRamSpec)) busRamCard

/-- THE TIED CARD OF 'phosphorlaw24.BusStatus'. -/
def busStatusCard : Claim7 := { stood := { row := busStatusRow, standIns := [], harness := (true, "d2f85ad93c61b20f64febda44d501f95b07be1433304591e2ecdefdf363e8d4b"), looks := true }, kinds := [], alts := [], laidByText := true, laidKinds := [.data, .data, .handle, .data], laidTests := true, laidLooks := .later }
def BusStatusCardSaid : Prop := Claim7.holds Tryz.pinned (.plain (OpenSpec.ofChange busStatusSpec)) busStatusCard

/-- THE TIED CARD OF 'phosphorlaw24.BusPicture'. -/
def busPictureCard : Claim7 := { stood := { row := busPictureRow, standIns := [], harness := (true, "d2f85ad93c61b20f64febda44d501f95b07be1433304591e2ecdefdf363e8d4b"), looks := true }, kinds := [], alts := [], laidByText := true, laidKinds := [.data, .data, .handle, .data], laidTests := true, laidLooks := .later }
def BusPictureCardSaid : Prop := Claim7.holds Tryz.pinned (.plain (OpenSpec.ofChange busPictureSpec)) busPictureCard

/-- THE TIED CARD OF 'phosphorlaw24.BusHolds'. -/
def busHoldsCard : Claim7 := { stood := { row := busHoldsRow, standIns := [], harness := (true, "d2f85ad93c61b20f64febda44d501f95b07be1433304591e2ecdefdf363e8d4b"), looks := true }, kinds := [], alts := [], laidByText := true, laidKinds := [.data, .data, .handle, .data], laidTests := true, laidLooks := .later }
def BusHoldsCardSaid : Prop := Claim7.holds Tryz.pinned (.plain (OpenSpec.ofChange busHoldsSpec)) busHoldsCard

/-- THE SECOND FORM's CARD OF 'phosphorlaw24.BusPlays'. -/
def busPlaysUptoCard : Claim7 := { stood := { row := busPlaysUptoRow, standIns := [], harness := (true, "d2f85ad93c61b20f64febda44d501f95b07be1433304591e2ecdefdf363e8d4b"), looks := true }, kinds := [], alts := [], laidByText := true, laidKinds := [.data, .data, .handle, .data], laidTests := true, laidLooks := .later }
def BusPlaysUptoCardSaid : Prop := Claim7.holds Tryz.pinned (.plain (OpenSpec.upto busPlaysSpec)) busPlaysUptoCard

/-- THE SECOND FORM's CARD OF 'phosphorlaw24.BusNobody'. -/
def busNobodyUptoCard : Claim7 := { stood := { row := busNobodyUptoRow, standIns := [], harness := (true, "d2f85ad93c61b20f64febda44d501f95b07be1433304591e2ecdefdf363e8d4b"), looks := true }, kinds := [], alts := [], laidByText := true, laidKinds := [.data, .data, .handle, .data], laidTests := true, laidLooks := .later }
def BusNobodyUptoCardSaid : Prop := Claim7.holds Tryz.pinned (.plain (OpenSpec.upto busNobodySpec)) busNobodyUptoCard

/-- THE SECOND FORM's CARD OF 'phosphorlaw24.BusRam'. -/
def busRamUptoCard : Claim7 := { stood := { row := busRamUptoRow, standIns := [], harness := (true, "d2f85ad93c61b20f64febda44d501f95b07be1433304591e2ecdefdf363e8d4b"), looks := true }, kinds := [], alts := [], laidByText := true, laidKinds := [.data, .data, .handle, .data], laidTests := true, laidLooks := .later }
def BusRamUptoCardSaid : Prop := Claim7.holds Tryz.pinned (.plain (OpenSpec.upto busRamSpec)) busRamUptoCard

/-- THE SECOND FORM's CARD OF 'phosphorlaw24.BusStatus'. -/
def busStatusUptoCard : Claim7 := { stood := { row := busStatusUptoRow, standIns := [], harness := (true, "d2f85ad93c61b20f64febda44d501f95b07be1433304591e2ecdefdf363e8d4b"), looks := true }, kinds := [], alts := [], laidByText := true, laidKinds := [.data, .data, .handle, .data], laidTests := true, laidLooks := .later }
def BusStatusUptoCardSaid : Prop := Claim7.holds Tryz.pinned (.plain (OpenSpec.upto busStatusSpec)) busStatusUptoCard

/-- THE SECOND FORM's CARD OF 'phosphorlaw24.BusPicture'. -/
def busPictureUptoCard : Claim7 := { stood := { row := busPictureUptoRow, standIns := [], harness := (true, "d2f85ad93c61b20f64febda44d501f95b07be1433304591e2ecdefdf363e8d4b"), looks := true }, kinds := [], alts := [], laidByText := true, laidKinds := [.data, .data, .handle, .data], laidTests := true, laidLooks := .later }
def BusPictureUptoCardSaid : Prop := Claim7.holds Tryz.pinned (.plain (OpenSpec.upto busPictureSpec)) busPictureUptoCard

/-- THE SECOND FORM's CARD OF 'phosphorlaw24.BusHolds'. -/
def busHoldsUptoCard : Claim7 := { stood := { row := busHoldsUptoRow, standIns := [], harness := (true, "d2f85ad93c61b20f64febda44d501f95b07be1433304591e2ecdefdf363e8d4b"), looks := true }, kinds := [], alts := [], laidByText := true, laidKinds := [.data, .data, .handle, .data], laidTests := true, laidLooks := .later }
def BusHoldsUptoCardSaid : Prop := Claim7.holds Tryz.pinned (.plain (OpenSpec.upto busHoldsSpec)) busHoldsUptoCard
end Rows
end Go.Proofs.YtpjhiopmdkieiaaGreatDoor
