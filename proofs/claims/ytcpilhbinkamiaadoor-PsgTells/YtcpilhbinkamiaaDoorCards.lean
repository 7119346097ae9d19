/-
  DERIVED. GIVEN WITH THE SEED: THE CARDS: each row of YtcpilhbinkamiaaDoorRows.lean that lists a variable, with what it lists TIED to the program's text (the seventh form; the later family's looks); each row that meets fmt, with fmt's text TOLD by the authors' own Lean function (tested against real Go, not proved from fmt's source: count such statements apart). THE CARD IS WHAT COUNTS. Prove the row's statement (the work); the ties are given (YtcpilhbinkamiaaDoorTie.lean); close each card by the builder's one call (the guide's Derived/Test/ToyasCard.lean, 'card_holds'). Laid BY PROGRAM, IN A SANDBOX (cutbox-door.mjs). By AI agents, Wed Nov 11 2026. No macro, syntax, notation, axiom, sorry.
-/
import Derived.Test.YtcpilhbinkamiaaDoorRows
import GoSem.ClaimSeven
namespace Go.Proofs.YtcpilhbinkamiaaDoor
namespace Rows

/-- THE TIED CARD OF 'phosphorlaw22.PsgTells'. -/
def psgTellsCard : Claim7 := { stood := { row := psgTellsRow, standIns := [], harness := (true, "44e93f02091fb777b829c2094e8ff427b31d8bf2f2d5906b7fee23afb9181329"), looks := false }, kinds := [], alts := [], laidByText := true, laidKinds := [.data], laidTests := true, laidLooks := .later }
def PsgTellsCardSaid : Prop := Claim7.holds Tryd.pinned (.plain (OpenSpec.ofChange psgTellsSpec)) psgTellsCard

/-- THE TIED CARD OF 'phosphorlaw22.PsgParts'. -/
def psgPartsCard : Claim7 := { stood := { row := psgPartsRow, standIns := [], harness := (true, "44e93f02091fb777b829c2094e8ff427b31d8bf2f2d5906b7fee23afb9181329"), looks := false }, kinds := [], alts := [], laidByText := true, laidKinds := [.data], laidTests := true, laidLooks := .later }
def PsgPartsCardSaid : Prop := Claim7.holds Tryd.pinned (.plain (OpenSpec.ofChange psgPartsSpec)) psgPartsCard

/-- THE TIED CARD OF 'phosphorlaw22.PsgWaves'. -/
def psgWavesCard : Claim7 := { stood := { row := psgWavesRow, standIns := [], harness := (true, "44e93f02091fb777b829c2094e8ff427b31d8bf2f2d5906b7fee23afb9181329"), looks := false }, kinds := [], alts := [], laidByText := true, laidKinds := [.data], laidTests := true, laidLooks := .later }
def PsgWavesCardSaid : Prop := Claim7.holds Tryd.pinned (.plain (OpenSpec.ofChange psgWavesSpec)) psgWavesCard

/-- THE TIED CARD OF 'phosphorlaw22.PsgSilent'. -/
def psgSilentCard : Claim7 := { stood := { row := psgSilentRow, standIns := [], harness := (true, "44e93f02091fb777b829c2094e8ff427b31d8bf2f2d5906b7fee23afb9181329"), looks := false }, kinds := [], alts := [], laidByText := true, laidKinds := [.data], laidTests := true, laidLooks := .later }
def PsgSilentCardSaid : Prop := Claim7.holds Tryd.pinned (.plain (OpenSpec.ofChange psgSilentSpec)) psgSilentCard

/-- THE TIED CARD OF 'phosphorlaw22.PsgDirect'. -/
def psgDirectCard : Claim7 := { stood := { row := psgDirectRow, standIns := [], harness := (true, "44e93f02091fb777b829c2094e8ff427b31d8bf2f2d5906b7fee23afb9181329"), looks := false }, kinds := [], alts := [], laidByText := true, laidKinds := [.data], laidTests := true, laidLooks := .later }
def PsgDirectCardSaid : Prop := Claim7.holds Tryd.pinned (.plain (OpenSpec.ofChange psgDirectSpec)) psgDirectCard

/-- THE SECOND FORM's CARD OF 'phosphorlaw22.PsgTells'. -/
def psgTellsUptoCard : Claim7 := { stood := { row := psgTellsUptoRow, standIns := [], harness := (true, "44e93f02091fb777b829c2094e8ff427b31d8bf2f2d5906b7fee23afb9181329"), looks := false }, kinds := [], alts := [], laidByText := true, laidKinds := [.data], laidTests := true, laidLooks := .later }
def PsgTellsUptoCardSaid : Prop := Claim7.holds Tryd.pinned (.plain (OpenSpec.upto psgTellsSpec)) psgTellsUptoCard

/-- THE SECOND FORM's CARD OF 'phosphorlaw22.PsgParts'. -/
def psgPartsUptoCard : Claim7 := { stood := { row := psgPartsUptoRow, standIns := [], harness := (true, "44e93f02091fb777b829c2094e8ff427b31d8bf2f2d5906b7fee23afb9181329"), looks := false }, kinds := [], alts := [], laidByText := true, laidKinds := [.data], laidTests := true, laidLooks := .later }
def PsgPartsUptoCardSaid : Prop := Claim7.holds Tryd.pinned (.plain (OpenSpec.upto psgPartsSpec)) psgPartsUptoCard

/-- THE SECOND FORM's CARD OF 'phosphorlaw22.PsgWaves'. -/
def psgWavesUptoCard : Claim7 := { stood := { row := psgWavesUptoRow, standIns := [], harness := (true, "44e93f02091fb777b829c2094e8ff427b31d8bf2f2d5906b7fee23afb9181329"), looks := false }, kinds := [], alts := [], laidByText := true, laidKinds := [.data], laidTests := true, laidLooks := .later }
def PsgWavesUptoCardSaid : Prop := Claim7.holds Tryd.pinned (.plain (OpenSpec.upto psgWavesSpec)) psgWavesUptoCard

/-- THE SECOND FORM's CARD OF 'phosphorlaw22.PsgSilent'. -/
def psgSilentUptoCard : Claim7 := { stood := { row := psgSilentUptoRow, standIns := [], harness := (true, "44e93f02091fb777b829c2094e8ff427b31d8bf2f2d5906b7fee23afb9181329"), looks := false }, kinds := [], alts := [], laidByText := true, laidKinds := [.data], laidTests := true, laidLooks := .later }
def PsgSilentUptoCardSaid : Prop := Claim7.holds Tryd.pinned (.plain (OpenSpec.upto psgSilentSpec)) psgSilentUptoCard

/-- THE SECOND FORM's CARD OF 'phosphorlaw22.PsgDirect'. -/
def psgDirectUptoCard : Claim7 := { stood := { row := psgDirectUptoRow, standIns := [], harness := (true, "44e93f02091fb777b829c2094e8ff427b31d8bf2f2d5906b7fee23afb9181329"), looks := false }, kinds := [], alts := [], laidByText := true, laidKinds := [.data], laidTests := true, laidLooks := .later }
def PsgDirectUptoCardSaid : Prop := Claim7.holds Tryd.pinned (.plain (OpenSpec.upto psgDirectSpec)) psgDirectUptoCard
end Rows
end Go.Proofs.YtcpilhbinkamiaaDoor
