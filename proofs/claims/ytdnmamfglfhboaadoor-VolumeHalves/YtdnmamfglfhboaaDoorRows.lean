/-
  NARROWER THAN 'FOR EVERY INPUT', by the rows' own cells (each row's printed sentence says how): VolumeTells: laid · VolumeFalls: laid · VolumeHalves: laid.
  DERIVED. THE GIVEN ROWS OF THIS SEAT. 3 by the template 'for every input the law returns true; each argument reads behind the call as it read before'; 0 by the template 'total and deterministic' (their statements: YtdnmamfglfhboaaDoorTotals.lean).
  GIVEN WITH THE SEED: the statements are not yours to turn. If you find one false, say at which input.
  Laid BY PROGRAM, IN A SANDBOX (cutbox-rows.mjs): the forced cells as the released guide's own fill.sh prints them over the translation f2edba55b3d7158f… (all of the seat's roots in one cut). By AI agents, Wed Nov 11 2026. No macro, syntax, notation, axiom, sorry.
-/
import Derived.Test.YtdnmamfglfhboaaDoorChecked
import GoSem.Claim
import GoSem.ClaimJoined
import GoSem.ClaimMapViews
import Derived.JoinedTies
import Derived.KernelRfl
namespace Go.Proofs.YtdnmamfglfhboaaDoor
/- THE CELL 'sum', in the pinned program and in every row, IS THE sha256 OF THE DUMP (.gsa) THAT YtdnmamfglfhboaaDoorProg.lean LOADS. Nothing in Lean hashes anything: it is a label: what it is worth is what the hold of that sum in a sandbox is worth. -/
noncomputable def Tryd.pinned : Pinned := { name := "ytdnmamfglfhboaadoor", sum := "f2edba55b3d7158f1e4a38d91f548039a77a26c2e715f360d465d92596f2111b", checked := Tryd.checked }
namespace Rows
def none {H : Type} : Left H := { results := [], args := [] }

/- WHAT THE LISTED PACKAGE-LEVEL VARIABLES READ AS WHEN THE CALL BEGINS. Each datum BY PROGRAM (the guide's laid-datum.mjs) off the statement by which the dump's own 'gosem.cut.vars' lays the variable. In a bare row this is a premise. The card (YtdnmamfglfhboaaDoorCards.lean) ties it to the program's text. -/
def laid_phosphor_volume_levels {H : Type} : DataW H := .agg [.lit (.int .i64 1024), .lit (.int .i64 862), .lit (.int .i64 725), .lit (.int .i64 610), .lit (.int .i64 513), .lit (.int .i64 432), .lit (.int .i64 363), .lit (.int .i64 306), .lit (.int .i64 257), .lit (.int .i64 216), .lit (.int .i64 182), .lit (.int .i64 153), .lit (.int .i64 129), .lit (.int .i64 108), .lit (.int .i64 91), .lit (.int .i64 77), .lit (.int .i64 65), .lit (.int .i64 54), .lit (.int .i64 46), .lit (.int .i64 38), .lit (.int .i64 32), .lit (.int .i64 27), .lit (.int .i64 23), .lit (.int .i64 19), .lit (.int .i64 16), .lit (.int .i64 14), .lit (.int .i64 11), .lit (.int .i64 10), .lit (.int .i64 8), .lit (.int .i64 7), .lit (.int .i64 6), .lit (.int .i64 0)]

/-- 'phosphorlaw20.VolumeTells': WHATEVER THE INPUT: true; the input reads as it did. -/
def volumeTellsSpec : ChangeSpec := { name := "volumeTells", fn := fun _ => fun
  | [d1, d2] => { results := [.lit (.bool true)], args := [d1, d2] }
  | _ => none }
def volumeTellsRow : OpenClaim := { program := "ytdnmamfglfhboaadoor", sum := "f2edba55b3d7158f1e4a38d91f548039a77a26c2e715f360d465d92596f2111b", func := "phosphor/phosphorlaw20.VolumeTells", spec := "volumeTells", named := ["phosphor/volume.levels"], apart := false, laid := [("phosphor/volume.levels", laid_phosphor_volume_levels)] }
def VolumeTellsSaid : Prop := volumeTellsRow.holds Tryd.pinned (OpenSpec.ofChange volumeTellsSpec)

/-- ITS FALSE NEIGHBOUR: 'it returns false'. Refute it at one input. -/
def volumeTellsWrong : ChangeSpec := { name := "volumeTells", fn := fun _ => fun
  | [d1, d2] => { results := [.lit (.bool false)], args := [d1, d2] }
  | _ => none }
def VolumeTellsWrongFalsely : Prop := volumeTellsRow.holds Tryd.pinned (OpenSpec.ofChange volumeTellsWrong)

/-- 'phosphorlaw20.VolumeFalls': WHATEVER THE INPUT: true; the input reads as it did. -/
def volumeFallsSpec : ChangeSpec := { name := "volumeFalls", fn := fun _ => fun
  | [d1, d2] => { results := [.lit (.bool true)], args := [d1, d2] }
  | _ => none }
def volumeFallsRow : OpenClaim := { program := "ytdnmamfglfhboaadoor", sum := "f2edba55b3d7158f1e4a38d91f548039a77a26c2e715f360d465d92596f2111b", func := "phosphor/phosphorlaw20.VolumeFalls", spec := "volumeFalls", named := ["phosphor/volume.levels"], apart := false, laid := [("phosphor/volume.levels", laid_phosphor_volume_levels)] }
def VolumeFallsSaid : Prop := volumeFallsRow.holds Tryd.pinned (OpenSpec.ofChange volumeFallsSpec)

/-- ITS FALSE NEIGHBOUR: 'it returns false'. Refute it at one input. -/
def volumeFallsWrong : ChangeSpec := { name := "volumeFalls", fn := fun _ => fun
  | [d1, d2] => { results := [.lit (.bool false)], args := [d1, d2] }
  | _ => none }
def VolumeFallsWrongFalsely : Prop := volumeFallsRow.holds Tryd.pinned (OpenSpec.ofChange volumeFallsWrong)

/-- 'phosphorlaw20.VolumeHalves': WHATEVER THE INPUT: true; the input reads as it did. -/
def volumeHalvesSpec : ChangeSpec := { name := "volumeHalves", fn := fun _ => fun
  | [d1, d2, d3] => { results := [.lit (.bool true)], args := [d1, d2, d3] }
  | _ => none }
def volumeHalvesRow : OpenClaim := { program := "ytdnmamfglfhboaadoor", sum := "f2edba55b3d7158f1e4a38d91f548039a77a26c2e715f360d465d92596f2111b", func := "phosphor/phosphorlaw20.VolumeHalves", spec := "volumeHalves", named := ["phosphor/volume.levels"], apart := false, laid := [("phosphor/volume.levels", laid_phosphor_volume_levels)] }
def VolumeHalvesSaid : Prop := volumeHalvesRow.holds Tryd.pinned (OpenSpec.ofChange volumeHalvesSpec)

/-- ITS FALSE NEIGHBOUR: 'it returns false'. Refute it at one input. -/
def volumeHalvesWrong : ChangeSpec := { name := "volumeHalves", fn := fun _ => fun
  | [d1, d2, d3] => { results := [.lit (.bool false)], args := [d1, d2, d3] }
  | _ => none }
def VolumeHalvesWrongFalsely : Prop := volumeHalvesRow.holds Tryd.pinned (OpenSpec.ofChange volumeHalvesWrong)

/- THE SECOND FORM. 'bulk': how many values and letters a reading holds, each counted each time it is reached (what is shared counts as often as it is met; a slice's spare places count too). A statement '..UptoSaid' is the law's where the arguments, and the package variables that the reading takes, are together of bulk at most 1048576: NARROWER than '..Said'. Prove '..Said' where nothing that the law and all that it calls make is longer than what came in: it says more and counts as full. Else prove '..UptoSaid'. A law counts once. -/
mutual
def uptoBulk {H : Type} : DataW H → Nat
  | .lit (.string bytes) => bytes.length + 1
  | .lit _ => 1
  | .nil => 1
  | .ptr d => uptoBulk d + 1
  | .slice elems spare => uptoBulkAll elems + uptoBulkAll spare + 1
  | .agg parts => uptoBulkAll parts + 1
  | .iface _ d => uptoBulk d + 1
  | .map entries => uptoBulkEntries entries + 1
  | .held _ => 1
def uptoBulkAll {H : Type} : List (DataW H) → Nat
  | [] => 0
  | d :: r => uptoBulk d + uptoBulkAll r
def uptoBulkEntries {H : Type} : List (Lit × DataW H) → Nat
  | [] => 0
  | x :: r => uptoBulkEntry x + uptoBulkEntries r
def uptoBulkEntry {H : Type} : Lit × DataW H → Nat
  | (.string bytes, d) => bytes.length + uptoBulk d + 1
  | (_, d) => uptoBulk d + 1
 end
def uptoSmall : (H : Type) → List (DataW H) → Bool := fun _ ds => decide (uptoBulkAll ds ≤ 1048576)
def OpenSpec.upto (s : _root_.Go.ChangeSpec) : _root_.Go.OpenSpec := { _root_.Go.OpenSpec.ofChange s with cond := some uptoSmall }

/-- 'phosphorlaw20.VolumeTells', WHERE WHAT IT READS IS OF BULK AT MOST 1048576: true; the input reads as it did. -/
def volumeTellsUptoRow : OpenClaim := { program := "ytdnmamfglfhboaadoor", sum := "f2edba55b3d7158f1e4a38d91f548039a77a26c2e715f360d465d92596f2111b", func := "phosphor/phosphorlaw20.VolumeTells", spec := "volumeTells", named := ["phosphor/volume.levels"], apart := false, laid := [("phosphor/volume.levels", laid_phosphor_volume_levels)], narrowed := true }
def VolumeTellsUptoSaid : Prop := volumeTellsUptoRow.holds Tryd.pinned (OpenSpec.upto volumeTellsSpec)

/-- 'phosphorlaw20.VolumeFalls', WHERE WHAT IT READS IS OF BULK AT MOST 1048576: true; the input reads as it did. -/
def volumeFallsUptoRow : OpenClaim := { program := "ytdnmamfglfhboaadoor", sum := "f2edba55b3d7158f1e4a38d91f548039a77a26c2e715f360d465d92596f2111b", func := "phosphor/phosphorlaw20.VolumeFalls", spec := "volumeFalls", named := ["phosphor/volume.levels"], apart := false, laid := [("phosphor/volume.levels", laid_phosphor_volume_levels)], narrowed := true }
def VolumeFallsUptoSaid : Prop := volumeFallsUptoRow.holds Tryd.pinned (OpenSpec.upto volumeFallsSpec)

/-- 'phosphorlaw20.VolumeHalves', WHERE WHAT IT READS IS OF BULK AT MOST 1048576: true; the input reads as it did. -/
def volumeHalvesUptoRow : OpenClaim := { program := "ytdnmamfglfhboaadoor", sum := "f2edba55b3d7158f1e4a38d91f548039a77a26c2e715f360d465d92596f2111b", func := "phosphor/phosphorlaw20.VolumeHalves", spec := "volumeHalves", named := ["phosphor/volume.levels"], apart := false, laid := [("phosphor/volume.levels", laid_phosphor_volume_levels)], narrowed := true }
def VolumeHalvesUptoSaid : Prop := volumeHalvesUptoRow.holds Tryd.pinned (OpenSpec.upto volumeHalvesSpec)

end Rows
end Go.Proofs.YtdnmamfglfhboaaDoor
