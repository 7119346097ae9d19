/-
  DERIVED. GIVEN WITH THE SEED: THE CARDS: each row of YtoijhhbiknhlnaaGreatDoorRows.lean that lists a variable, with what it lists TIED to the program's text (the seventh form; the later family's looks); each row that meets fmt, with fmt's text TOLD by the authors' own Lean function (tested against real Go, not proved from fmt's source: count such statements apart). THE CARD IS WHAT COUNTS. Prove the row's statement (the work); the ties are given (YtoijhhbiknhlnaaGreatDoorTie.lean); close each card by the builder's one call (the guide's Derived/Test/ToyasCard.lean, 'card_holds'). Laid BY PROGRAM, IN A SANDBOX (cutbox-door.mjs). By AI agents, Wed Nov 11 2026. No macro, syntax, notation, axiom, sorry.
-/
import Derived.Test.YtoijhhbiknhlnaaGreatDoorRows
import GoSem.ClaimSeven
namespace Go.Proofs.YtoijhhbiknhlnaaGreatDoor
namespace Rows

/-- THE TIED CARD OF 'phosphorlaw25.CpuNobody'. -/
def cpuNobodyCard : Claim7 := { stood := { row := cpuNobodyRow, standIns := [], harness := (true, "e26201405555bb61aab2f185cd13dd007649450404d4b0e783a3e288a56358ff"), looks := true }, kinds := [], alts := [], laidByText := true, laidKinds := [.data, .data, .data, .data, .data, .data, .data], laidTests := true, laidLooks := .later }
def CpuNobodyCardSaid : Prop := Claim7.holds Tryz.pinned (.plain (OpenSpec.ofChange cpuNobodySpec)) cpuNobodyCard

/-- THE TIED CARD OF 'phosphorlaw25.CpuSums'. -/
def cpuSumsCard : Claim7 := { stood := { row := cpuSumsRow, standIns := [], harness := (true, "e26201405555bb61aab2f185cd13dd007649450404d4b0e783a3e288a56358ff"), looks := true }, kinds := [], alts := [], laidByText := true, laidKinds := [.data, .data, .data, .data, .handle, .data, .data, .data], laidTests := true, laidLooks := .later }
def CpuSumsCardSaid : Prop := Claim7.holds Tryz.pinned (.plain (OpenSpec.ofChange cpuSumsSpec)) cpuSumsCard

/-- THE TIED CARD OF 'phosphorlaw25.CpuCalls'. -/
def cpuCallsCard : Claim7 := { stood := { row := cpuCallsRow, standIns := [], harness := (true, "e26201405555bb61aab2f185cd13dd007649450404d4b0e783a3e288a56358ff"), looks := true }, kinds := [], alts := [], laidByText := true, laidKinds := [.data, .data, .data, .data, .handle, .data, .data, .data], laidTests := true, laidLooks := .later }
def CpuCallsCardSaid : Prop := Claim7.holds Tryz.pinned (.plain (OpenSpec.ofChange cpuCallsSpec)) cpuCallsCard

/-- THE TIED CARD OF 'phosphorlaw25.CpuMoves'. -/
def cpuMovesCard : Claim7 := { stood := { row := cpuMovesRow, standIns := [], harness := (true, "e26201405555bb61aab2f185cd13dd007649450404d4b0e783a3e288a56358ff"), looks := true }, kinds := [], alts := [], laidByText := true, laidKinds := [.data, .data, .data, .data, .handle, .data, .data, .data], laidTests := true, laidLooks := .later }
def CpuMovesCardSaid : Prop := Claim7.holds Tryz.pinned (.plain (OpenSpec.ofChange cpuMovesSpec)) cpuMovesCard

/-- THE TIED CARD OF 'phosphorlaw25.CpuTakes'. -/
def cpuTakesCard : Claim7 := { stood := { row := cpuTakesRow, standIns := [], harness := (true, "e26201405555bb61aab2f185cd13dd007649450404d4b0e783a3e288a56358ff"), looks := true }, kinds := [], alts := [], laidByText := true, laidKinds := [.data, .data, .data, .data, .handle, .data, .data, .data], laidTests := true, laidLooks := .later }
def CpuTakesCardSaid : Prop := Claim7.holds Tryz.pinned (.plain (OpenSpec.ofChange cpuTakesSpec)) cpuTakesCard

/-- THE TIED CARD OF 'phosphorlaw25.CpuBranches'. -/
def cpuBranchesCard : Claim7 := { stood := { row := cpuBranchesRow, standIns := [], harness := (true, "e26201405555bb61aab2f185cd13dd007649450404d4b0e783a3e288a56358ff"), looks := true }, kinds := [], alts := [], laidByText := true, laidKinds := [.data, .data, .data, .data, .handle, .data, .data, .data], laidTests := true, laidLooks := .later }
def CpuBranchesCardSaid : Prop := Claim7.holds Tryz.pinned (.plain (OpenSpec.ofChange cpuBranchesSpec)) cpuBranchesCard

/-- THE TIED CARD OF 'phosphorlaw25.CpuBits'. -/
def cpuBitsCard : Claim7 := { stood := { row := cpuBitsRow, standIns := [], harness := (true, "e26201405555bb61aab2f185cd13dd007649450404d4b0e783a3e288a56358ff"), looks := true }, kinds := [], alts := [], laidByText := true, laidKinds := [.data, .data, .data, .data, .handle, .data, .data, .data], laidTests := true, laidLooks := .later }
def CpuBitsCardSaid : Prop := Claim7.holds Tryz.pinned (.plain (OpenSpec.ofChange cpuBitsSpec)) cpuBitsCard

/-- THE TIED CARD OF 'phosphorlaw25.CpuCounts'. -/
def cpuCountsCard : Claim7 := { stood := { row := cpuCountsRow, standIns := [], harness := (true, "e26201405555bb61aab2f185cd13dd007649450404d4b0e783a3e288a56358ff"), looks := true }, kinds := [], alts := [], laidByText := true, laidKinds := [.data, .data, .data, .data, .handle, .data, .data, .data], laidTests := true, laidLooks := .later }
def CpuCountsCardSaid : Prop := Claim7.holds Tryz.pinned (.plain (OpenSpec.ofChange cpuCountsSpec)) cpuCountsCard

/-- THE TIED CARD OF 'phosphorlaw25.CpuSpeeds'. -/
def cpuSpeedsCard : Claim7 := { stood := { row := cpuSpeedsRow, standIns := [], harness := (true, "e26201405555bb61aab2f185cd13dd007649450404d4b0e783a3e288a56358ff"), looks := true }, kinds := [], alts := [], laidByText := true, laidKinds := [.data, .data, .data, .data, .handle, .data, .data, .data], laidTests := true, laidLooks := .later }
def CpuSpeedsCardSaid : Prop := Claim7.holds Tryz.pinned (.plain (OpenSpec.ofChange cpuSpeedsSpec)) cpuSpeedsCard

/-- THE TIED CARD OF 'phosphorlaw25.CpuPicture'. -/
def cpuPictureCard : Claim7 := { stood := { row := cpuPictureRow, standIns := [], harness := (true, "e26201405555bb61aab2f185cd13dd007649450404d4b0e783a3e288a56358ff"), looks := true }, kinds := [], alts := [], laidByText := true, laidKinds := [.data, .data, .data, .data, .handle, .data, .data, .data], laidTests := true, laidLooks := .later }
def CpuPictureCardSaid : Prop := Claim7.holds Tryz.pinned (.plain (OpenSpec.ofChange cpuPictureSpec)) cpuPictureCard

/-- THE SECOND FORM's CARD OF 'phosphorlaw25.CpuNobody'. -/
def cpuNobodyUptoCard : Claim7 := { stood := { row := cpuNobodyUptoRow, standIns := [], harness := (true, "e26201405555bb61aab2f185cd13dd007649450404d4b0e783a3e288a56358ff"), looks := true }, kinds := [], alts := [], laidByText := true, laidKinds := [.data, .data, .data, .data, .data, .data, .data], laidTests := true, laidLooks := .later }
def CpuNobodyUptoCardSaid : Prop := Claim7.holds Tryz.pinned (.plain (OpenSpec.upto cpuNobodySpec)) cpuNobodyUptoCard

/-- THE SECOND FORM's CARD OF 'phosphorlaw25.CpuSums'. -/
def cpuSumsUptoCard : Claim7 := { stood := { row := cpuSumsUptoRow, standIns := [], harness := (true, "e26201405555bb61aab2f185cd13dd007649450404d4b0e783a3e288a56358ff"), looks := true }, kinds := [], alts := [], laidByText := true, laidKinds := [.data, .data, .data, .data, .handle, .data, .data, .data], laidTests := true, laidLooks := .later }
def CpuSumsUptoCardSaid : Prop := Claim7.holds Tryz.pinned (.plain (OpenSpec.upto cpuSumsSpec)) cpuSumsUptoCard

/-- THE SECOND FORM's CARD OF 'phosphorlaw25.CpuCalls'. -/
def cpuCallsUptoCard : Claim7 := { stood := { row := cpuCallsUptoRow, standIns := [], harness := (true, "e26201405555bb61aab2f185cd13dd007649450404d4b0e783a3e288a56358ff"), looks := true }, kinds := [], alts := [], laidByText := true, laidKinds := [.data, .data, .data, .data, .handle, .data, .data, .data], laidTests := true, laidLooks := .later }
def CpuCallsUptoCardSaid : Prop := Claim7.holds Tryz.pinned (.plain (OpenSpec.upto cpuCallsSpec)) cpuCallsUptoCard

/-- THE SECOND FORM's CARD OF 'phosphorlaw25.CpuMoves'. -/
def cpuMovesUptoCard : Claim7 := { stood := { row := cpuMovesUptoRow, standIns := [], harness := (true, "e26201405555bb61aab2f185cd13dd007649450404d4b0e783a3e288a56358ff"), looks := true }, kinds := [], alts := [], laidByText := true, laidKinds := [.data, .data, .data, .data, .handle, .data, .data, .data], laidTests := true, laidLooks := .later }
def CpuMovesUptoCardSaid : Prop := Claim7.holds Tryz.pinned (.plain (OpenSpec.upto cpuMovesSpec)) cpuMovesUptoCard

/-- THE SECOND FORM's CARD OF 'phosphorlaw25.CpuTakes'. -/
def cpuTakesUptoCard : Claim7 := { stood := { row := cpuTakesUptoRow, standIns := [], harness := (true, "e26201405555bb61aab2f185cd13dd007649450404d4b0e783a3e288a56358ff"), looks := true }, kinds := [], alts := [], laidByText := true, laidKinds := [.data, .data, .data, .data, .handle, .data, .data, .data], laidTests := true, laidLooks := .later }
def CpuTakesUptoCardSaid : Prop := Claim7.holds Tryz.pinned (.plain (OpenSpec.upto cpuTakesSpec)) cpuTakesUptoCard

/-- THE SECOND FORM's CARD OF 'phosphorlaw25.CpuBranches'. -/
def cpuBranchesUptoCard : Claim7 := { stood := { row := cpuBranchesUptoRow, standIns := [], harness := (true, "e26201405555bb61aab2f185cd13dd007649450404d4b0e783a3e288a56358ff"), looks := true }, kinds := [], alts := [], laidByText := true, laidKinds := [.data, .data, .data, .data, .handle, .data, .data, .data], laidTests := true, laidLooks := .later }
def CpuBranchesUptoCardSaid : Prop := Claim7.holds Tryz.pinned (.plain (OpenSpec.upto cpuBranchesSpec)) cpuBranchesUptoCard

/-- THE SECOND FORM's CARD OF 'phosphorlaw25.CpuBits'. -/
def cpuBitsUptoCard : Claim7 := { stood := { row := cpuBitsUptoRow, standIns := [], harness := (true, "e26201405555bb61aab2f185cd13dd007649450404d4b0e783a3e288a56358ff"), looks := true }, kinds := [], alts := [], laidByText := true, laidKinds := [.data, .data, .data, .data, .handle, .data, .data, .data], laidTests := true, laidLooks := .later }
def CpuBitsUptoCardSaid : Prop := Claim7.holds Tryz.pinned (.plain (OpenSpec.upto cpuBitsSpec)) cpuBitsUptoCard

/-- THE SECOND FORM's CARD OF 'phosphorlaw25.CpuCounts'. -/
def cpuCountsUptoCard : Claim7 := { stood := { row := cpuCountsUptoRow, standIns := [], harness := (true, "e26201405555bb61aab2f185cd13dd007649450404d4b0e783a3e288a56358ff"), looks := true }, kinds := [], alts := [], laidByText := true, laidKinds := [.data, .data, .data, .data, .handle, .data, .data, .data], laidTests := true, laidLooks := .later }
def CpuCountsUptoCardSaid : Prop := Claim7.holds Tryz.pinned (.plain (OpenSpec.upto cpuCountsSpec)) cpuCountsUptoCard

/-- THE SECOND FORM's CARD OF 'phosphorlaw25.CpuSpeeds'. -/
def cpuSpeedsUptoCard : Claim7 := { stood := { row := cpuSpeedsUptoRow, standIns := [], harness := (true, "e26201405555bb61aab2f185cd13dd007649450404d4b0e783a3e288a56358ff"), looks := true }, kinds := [], alts := [], laidByText := true, laidKinds := [.data, .data, .data, .data, .handle, .data, .data, .data], laidTests := true, laidLooks := .later }
def CpuSpeedsUptoCardSaid : Prop := Claim7.holds Tryz.pinned (.plain (OpenSpec.upto cpuSpeedsSpec)) cpuSpeedsUptoCard

/-- THE SECOND FORM's CARD OF 'phosphorlaw25.CpuPicture'. -/
def cpuPictureUptoCard : Claim7 := { stood := { row := cpuPictureUptoRow, standIns := [], harness := (true, "e26201405555bb61aab2f185cd13dd007649450404d4b0e783a3e288a56358ff"), looks := true }, kinds := [], alts := [], laidByText := true, laidKinds := [.data, .data, .data, .data, .handle, .data, .data, .data], laidTests := true, laidLooks := .later }
def CpuPictureUptoCardSaid : Prop := Claim7.holds Tryz.pinned (.plain (OpenSpec.upto cpuPictureSpec)) cpuPictureUptoCard
end Rows
end Go.Proofs.YtoijhhbiknhlnaaGreatDoor
