/-
  DERIVED. GIVEN WITH THE SEED: THE CARDS: each row of YtdnmamfglfhboaaDoorRows.lean that lists a variable, with what it lists TIED to the program's text (the seventh form; the later family's looks); each row that meets fmt, with fmt's text TOLD by the authors' own Lean function (tested against real Go, not proved from fmt's source: count such statements apart). THE CARD IS WHAT COUNTS. Prove the row's statement (the work); the ties are given (YtdnmamfglfhboaaDoorTie.lean); close each card by the builder's one call (the guide's Derived/Test/ToyasCard.lean, 'card_holds'). Laid BY PROGRAM, IN A SANDBOX (cutbox-door.mjs). By AI agents, Wed Nov 11 2026. No macro, syntax, notation, axiom, sorry.
-/
import Derived.Test.YtdnmamfglfhboaaDoorRows
import GoSem.ClaimSeven
namespace Go.Proofs.YtdnmamfglfhboaaDoor
namespace Rows

/-- THE TIED CARD OF 'phosphorlaw20.VolumeTells'. -/
def volumeTellsCard : Claim7 := { stood := { row := volumeTellsRow, standIns := [], harness := (true, "7d6a7dd12b8796ad1bf6b83b9e77345f4a5b8493b29a3d6ae523c26583a2ed21"), looks := false }, kinds := [], alts := [], laidByText := true, laidKinds := [.data], laidTests := true, laidLooks := .later }
def VolumeTellsCardSaid : Prop := Claim7.holds Tryd.pinned (.plain (OpenSpec.ofChange volumeTellsSpec)) volumeTellsCard

/-- THE TIED CARD OF 'phosphorlaw20.VolumeFalls'. -/
def volumeFallsCard : Claim7 := { stood := { row := volumeFallsRow, standIns := [], harness := (true, "7d6a7dd12b8796ad1bf6b83b9e77345f4a5b8493b29a3d6ae523c26583a2ed21"), looks := false }, kinds := [], alts := [], laidByText := true, laidKinds := [.data], laidTests := true, laidLooks := .later }
def VolumeFallsCardSaid : Prop := Claim7.holds Tryd.pinned (.plain (OpenSpec.ofChange volumeFallsSpec)) volumeFallsCard

/-- THE TIED CARD OF 'phosphorlaw20.VolumeHalves'. -/
def volumeHalvesCard : Claim7 := { stood := { row := volumeHalvesRow, standIns := [], harness := (true, "7d6a7dd12b8796ad1bf6b83b9e77345f4a5b8493b29a3d6ae523c26583a2ed21"), looks := false }, kinds := [], alts := [], laidByText := true, laidKinds := [.data], laidTests := true, laidLooks := .later }
def VolumeHalvesCardSaid : Prop := Claim7.holds Tryd.pinned (.plain (OpenSpec.ofChange volumeHalvesSpec)) volumeHalvesCard

/-- THE SECOND FORM's CARD OF 'phosphorlaw20.VolumeTells'. -/
def volumeTellsUptoCard : Claim7 := { stood := { row := volumeTellsUptoRow, standIns := [], harness := (true, "7d6a7dd12b8796ad1bf6b83b9e77345f4a5b8493b29a3d6ae523c26583a2ed21"), looks := false }, kinds := [], alts := [], laidByText := true, laidKinds := [.data], laidTests := true, laidLooks := .later }
def VolumeTellsUptoCardSaid : Prop := Claim7.holds Tryd.pinned (.plain (OpenSpec.upto volumeTellsSpec)) volumeTellsUptoCard

/-- THE SECOND FORM's CARD OF 'phosphorlaw20.VolumeFalls'. -/
def volumeFallsUptoCard : Claim7 := { stood := { row := volumeFallsUptoRow, standIns := [], harness := (true, "7d6a7dd12b8796ad1bf6b83b9e77345f4a5b8493b29a3d6ae523c26583a2ed21"), looks := false }, kinds := [], alts := [], laidByText := true, laidKinds := [.data], laidTests := true, laidLooks := .later }
def VolumeFallsUptoCardSaid : Prop := Claim7.holds Tryd.pinned (.plain (OpenSpec.upto volumeFallsSpec)) volumeFallsUptoCard

/-- THE SECOND FORM's CARD OF 'phosphorlaw20.VolumeHalves'. -/
def volumeHalvesUptoCard : Claim7 := { stood := { row := volumeHalvesUptoRow, standIns := [], harness := (true, "7d6a7dd12b8796ad1bf6b83b9e77345f4a5b8493b29a3d6ae523c26583a2ed21"), looks := false }, kinds := [], alts := [], laidByText := true, laidKinds := [.data], laidTests := true, laidLooks := .later }
def VolumeHalvesUptoCardSaid : Prop := Claim7.holds Tryd.pinned (.plain (OpenSpec.upto volumeHalvesSpec)) volumeHalvesUptoCard
end Rows
end Go.Proofs.YtdnmamfglfhboaaDoor
