/-
  NARROWER THAN 'FOR EVERY INPUT', by the rows' own cells (each row's printed sentence says how): PsgTells: laid · PsgParts: laid · PsgWaves: laid · PsgSilent: laid · PsgDirect: laid.
  DERIVED. THE GIVEN ROWS OF THIS SEAT. 5 by the template 'for every input the law returns true; each argument reads behind the call as it read before'; 0 by the template 'total and deterministic' (their statements: YtcpilhbinkamiaaDoorTotals.lean).
  GIVEN WITH THE SEED: the statements are not yours to turn. If you find one false, say at which input.
  Laid BY PROGRAM, IN A SANDBOX (cutbox-rows.mjs): the forced cells as the released guide's own fill.sh prints them over the translation 3b483e8ccaf7f888… (all of the seat's roots in one cut). By AI agents, Wed Nov 11 2026. No macro, syntax, notation, axiom, sorry.
-/
import Derived.Test.YtcpilhbinkamiaaDoorChecked
import GoSem.Claim
import GoSem.ClaimJoined
import GoSem.ClaimMapViews
import Derived.JoinedTies
import Derived.KernelRfl
namespace Go.Proofs.YtcpilhbinkamiaaDoor
/- THE CELL 'sum', in the pinned program and in every row, IS THE sha256 OF THE DUMP (.gsa) THAT YtcpilhbinkamiaaDoorProg.lean LOADS. Nothing in Lean hashes anything: it is a label: what it is worth is what the hold of that sum in a sandbox is worth. -/
noncomputable def Tryd.pinned : Pinned := { name := "ytcpilhbinkamiaadoor", sum := "3b483e8ccaf7f888011f8802c192417820f5fd3a081b3a0e347b0b8172b5c2cc", checked := Tryd.checked }
namespace Rows
def none {H : Type} : Left H := { results := [], args := [] }

/- WHAT THE LISTED PACKAGE-LEVEL VARIABLES READ AS WHEN THE CALL BEGINS. Each datum BY PROGRAM (the guide's laid-datum.mjs) off the statement by which the dump's own 'gosem.cut.vars' lays the variable. In a bare row this is a premise. The card (YtcpilhbinkamiaaDoorCards.lean) ties it to the program's text. -/
def laid_phosphor_volume_levels {H : Type} : DataW H := .agg [.lit (.int .i64 1024), .lit (.int .i64 862), .lit (.int .i64 725), .lit (.int .i64 610), .lit (.int .i64 513), .lit (.int .i64 432), .lit (.int .i64 363), .lit (.int .i64 306), .lit (.int .i64 257), .lit (.int .i64 216), .lit (.int .i64 182), .lit (.int .i64 153), .lit (.int .i64 129), .lit (.int .i64 108), .lit (.int .i64 91), .lit (.int .i64 77), .lit (.int .i64 65), .lit (.int .i64 54), .lit (.int .i64 46), .lit (.int .i64 38), .lit (.int .i64 32), .lit (.int .i64 27), .lit (.int .i64 23), .lit (.int .i64 19), .lit (.int .i64 16), .lit (.int .i64 14), .lit (.int .i64 11), .lit (.int .i64 10), .lit (.int .i64 8), .lit (.int .i64 7), .lit (.int .i64 6), .lit (.int .i64 0)]

/-- 'phosphorlaw22.PsgTells': WHATEVER THE INPUT: true; the input reads as it did. -/
def psgTellsSpec : ChangeSpec := { name := "psgTells", fn := fun _ => fun
  | [d1, d2] => { results := [.lit (.bool true)], args := [d1, d2] }
  | _ => none }
def psgTellsRow : OpenClaim := { program := "ytcpilhbinkamiaadoor", sum := "3b483e8ccaf7f888011f8802c192417820f5fd3a081b3a0e347b0b8172b5c2cc", func := "phosphor/phosphorlaw22.PsgTells", spec := "psgTells", unfollowed := true, recurses := true, named := ["phosphor/volume.levels"], apart := false, laid := [("phosphor/volume.levels", laid_phosphor_volume_levels)] }
def PsgTellsSaid : Prop := psgTellsRow.holds Tryd.pinned (OpenSpec.ofChange psgTellsSpec)

/-- ITS FALSE NEIGHBOUR: 'it returns false'. Refute it at one input. -/
def psgTellsWrong : ChangeSpec := { name := "psgTells", fn := fun _ => fun
  | [d1, d2] => { results := [.lit (.bool false)], args := [d1, d2] }
  | _ => none }
def PsgTellsWrongFalsely : Prop := psgTellsRow.holds Tryd.pinned (OpenSpec.ofChange psgTellsWrong)

/-- 'phosphorlaw22.PsgParts': WHATEVER THE INPUT: true; the input reads as it did. -/
def psgPartsSpec : ChangeSpec := { name := "psgParts", fn := fun _ => fun
  | [d1, d2, d3] => { results := [.lit (.bool true)], args := [d1, d2, d3] }
  | _ => none }
def psgPartsRow : OpenClaim := { program := "ytcpilhbinkamiaadoor", sum := "3b483e8ccaf7f888011f8802c192417820f5fd3a081b3a0e347b0b8172b5c2cc", func := "phosphor/phosphorlaw22.PsgParts", spec := "psgParts", unfollowed := true, recurses := true, named := ["phosphor/volume.levels"], apart := false, laid := [("phosphor/volume.levels", laid_phosphor_volume_levels)] }
def PsgPartsSaid : Prop := psgPartsRow.holds Tryd.pinned (OpenSpec.ofChange psgPartsSpec)

/-- ITS FALSE NEIGHBOUR: 'it returns false'. Refute it at one input. -/
def psgPartsWrong : ChangeSpec := { name := "psgParts", fn := fun _ => fun
  | [d1, d2, d3] => { results := [.lit (.bool false)], args := [d1, d2, d3] }
  | _ => none }
def PsgPartsWrongFalsely : Prop := psgPartsRow.holds Tryd.pinned (OpenSpec.ofChange psgPartsWrong)

/-- 'phosphorlaw22.PsgWaves': WHATEVER THE INPUT: true; the input reads as it did. -/
def psgWavesSpec : ChangeSpec := { name := "psgWaves", fn := fun _ => fun
  | [d1, d2, d3] => { results := [.lit (.bool true)], args := [d1, d2, d3] }
  | _ => none }
def psgWavesRow : OpenClaim := { program := "ytcpilhbinkamiaadoor", sum := "3b483e8ccaf7f888011f8802c192417820f5fd3a081b3a0e347b0b8172b5c2cc", func := "phosphor/phosphorlaw22.PsgWaves", spec := "psgWaves", unfollowed := true, recurses := true, named := ["phosphor/volume.levels"], apart := false, laid := [("phosphor/volume.levels", laid_phosphor_volume_levels)] }
def PsgWavesSaid : Prop := psgWavesRow.holds Tryd.pinned (OpenSpec.ofChange psgWavesSpec)

/-- ITS FALSE NEIGHBOUR: 'it returns false'. Refute it at one input. -/
def psgWavesWrong : ChangeSpec := { name := "psgWaves", fn := fun _ => fun
  | [d1, d2, d3] => { results := [.lit (.bool false)], args := [d1, d2, d3] }
  | _ => none }
def PsgWavesWrongFalsely : Prop := psgWavesRow.holds Tryd.pinned (OpenSpec.ofChange psgWavesWrong)

/-- 'phosphorlaw22.PsgSilent': WHATEVER THE INPUT: true; the input reads as it did. -/
def psgSilentSpec : ChangeSpec := { name := "psgSilent", fn := fun _ => fun
  | [d1, d2] => { results := [.lit (.bool true)], args := [d1, d2] }
  | _ => none }
def psgSilentRow : OpenClaim := { program := "ytcpilhbinkamiaadoor", sum := "3b483e8ccaf7f888011f8802c192417820f5fd3a081b3a0e347b0b8172b5c2cc", func := "phosphor/phosphorlaw22.PsgSilent", spec := "psgSilent", unfollowed := true, recurses := true, named := ["phosphor/volume.levels"], apart := false, laid := [("phosphor/volume.levels", laid_phosphor_volume_levels)] }
def PsgSilentSaid : Prop := psgSilentRow.holds Tryd.pinned (OpenSpec.ofChange psgSilentSpec)

/-- ITS FALSE NEIGHBOUR: 'it returns false'. Refute it at one input. -/
def psgSilentWrong : ChangeSpec := { name := "psgSilent", fn := fun _ => fun
  | [d1, d2] => { results := [.lit (.bool false)], args := [d1, d2] }
  | _ => none }
def PsgSilentWrongFalsely : Prop := psgSilentRow.holds Tryd.pinned (OpenSpec.ofChange psgSilentWrong)

/-- 'phosphorlaw22.PsgDirect': WHATEVER THE INPUT: true; the input reads as it did. -/
def psgDirectSpec : ChangeSpec := { name := "psgDirect", fn := fun _ => fun
  | [d1, d2, d3] => { results := [.lit (.bool true)], args := [d1, d2, d3] }
  | _ => none }
def psgDirectRow : OpenClaim := { program := "ytcpilhbinkamiaadoor", sum := "3b483e8ccaf7f888011f8802c192417820f5fd3a081b3a0e347b0b8172b5c2cc", func := "phosphor/phosphorlaw22.PsgDirect", spec := "psgDirect", unfollowed := true, recurses := true, named := ["phosphor/volume.levels"], apart := false, laid := [("phosphor/volume.levels", laid_phosphor_volume_levels)] }
def PsgDirectSaid : Prop := psgDirectRow.holds Tryd.pinned (OpenSpec.ofChange psgDirectSpec)

/-- ITS FALSE NEIGHBOUR: 'it returns false'. Refute it at one input. -/
def psgDirectWrong : ChangeSpec := { name := "psgDirect", fn := fun _ => fun
  | [d1, d2, d3] => { results := [.lit (.bool false)], args := [d1, d2, d3] }
  | _ => none }
def PsgDirectWrongFalsely : Prop := psgDirectRow.holds Tryd.pinned (OpenSpec.ofChange psgDirectWrong)

/- THE SECOND FORM. 'bulk': how many values and letters a reading holds, each counted each time it is reached (what is shared counts as often as it is met; a slice's spare places count too). A statement '..UptoSaid' is the law's where the arguments, and the package variables that the reading takes, are together of bulk at most 1048576: NARROWER than '..Said'. Prove '..Said' where nothing that the law and all that it calls make is longer than what came in: it says more and counts as full. Else prove '..UptoSaid'. A law counts once. -/
mutual
def uptoBulk {H : Type} : DataW H → Nat
  | .lit (.string bytes) => bytes.length + 1
  | .lit _ => 1
  | .nil => 1
  | .ptr d => uptoBulk d + 1
  | .slice elems spare => uptoBulkAll elems + uptoBulkAll spare + 1
  | .agg parts => uptoBulkAll parts + 1
  | .iface _ d => uptoBulk d + 1
  | .map entries => uptoBulkEntries entries + 1
  | .held _ => 1
def uptoBulkAll {H : Type} : List (DataW H) → Nat
  | [] => 0
  | d :: r => uptoBulk d + uptoBulkAll r
def uptoBulkEntries {H : Type} : List (Lit × DataW H) → Nat
  | [] => 0
  | x :: r => uptoBulkEntry x + uptoBulkEntries r
def uptoBulkEntry {H : Type} : Lit × DataW H → Nat
  | (.string bytes, d) => bytes.length + uptoBulk d + 1
  | (_, d) => uptoBulk d + 1
 end
def uptoSmall : (H : Type) → List (DataW H) → Bool := fun _ ds => decide (uptoBulkAll ds ≤ 1048576)
def OpenSpec.upto (s : _root_.Go.ChangeSpec) : _root_.Go.OpenSpec := { _root_.Go.OpenSpec.ofChange s with cond := some uptoSmall }

/-- 'phosphorlaw22.PsgTells', WHERE WHAT IT READS IS OF BULK AT MOST 1048576: true; the input reads as it did. -/
def psgTellsUptoRow : OpenClaim := { program := "ytcpilhbinkamiaadoor", sum := "3b483e8ccaf7f888011f8802c192417820f5fd3a081b3a0e347b0b8172b5c2cc", func := "phosphor/phosphorlaw22.PsgTells", spec := "psgTells", unfollowed := true, recurses := true, named := ["phosphor/volume.levels"], apart := false, laid := [("phosphor/volume.levels", laid_phosphor_volume_levels)], narrowed := true }
def PsgTellsUptoSaid : Prop := psgTellsUptoRow.holds Tryd.pinned (OpenSpec.upto psgTellsSpec)

/-- 'phosphorlaw22.PsgParts', WHERE WHAT IT READS IS OF BULK AT MOST 1048576: true; the input reads as it did. -/
def psgPartsUptoRow : OpenClaim := { program := "ytcpilhbinkamiaadoor", sum := "3b483e8ccaf7f888011f8802c192417820f5fd3a081b3a0e347b0b8172b5c2cc", func := "phosphor/phosphorlaw22.PsgParts", spec := "psgParts", unfollowed := true, recurses := true, named := ["phosphor/volume.levels"], apart := false, laid := [("phosphor/volume.levels", laid_phosphor_volume_levels)], narrowed := true }
def PsgPartsUptoSaid : Prop := psgPartsUptoRow.holds Tryd.pinned (OpenSpec.upto psgPartsSpec)

/-- 'phosphorlaw22.PsgWaves', WHERE WHAT IT READS IS OF BULK AT MOST 1048576: true; the input reads as it did. -/
def psgWavesUptoRow : OpenClaim := { program := "ytcpilhbinkamiaadoor", sum := "3b483e8ccaf7f888011f8802c192417820f5fd3a081b3a0e347b0b8172b5c2cc", func := "phosphor/phosphorlaw22.PsgWaves", spec := "psgWaves", unfollowed := true, recurses := true, named := ["phosphor/volume.levels"], apart := false, laid := [("phosphor/volume.levels", laid_phosphor_volume_levels)], narrowed := true }
def PsgWavesUptoSaid : Prop := psgWavesUptoRow.holds Tryd.pinned (OpenSpec.upto psgWavesSpec)

/-- 'phosphorlaw22.PsgSilent', WHERE WHAT IT READS IS OF BULK AT MOST 1048576: true; the input reads as it did. -/
def psgSilentUptoRow : OpenClaim := { program := "ytcpilhbinkamiaadoor", sum := "3b483e8ccaf7f888011f8802c192417820f5fd3a081b3a0e347b0b8172b5c2cc", func := "phosphor/phosphorlaw22.PsgSilent", spec := "psgSilent", unfollowed := true, recurses := true, named := ["phosphor/volume.levels"], apart := false, laid := [("phosphor/volume.levels", laid_phosphor_volume_levels)], narrowed := true }
def PsgSilentUptoSaid : Prop := psgSilentUptoRow.holds Tryd.pinned (OpenSpec.upto psgSilentSpec)

/-- 'phosphorlaw22.PsgDirect', WHERE WHAT IT READS IS OF BULK AT MOST 1048576: true; the input reads as it did. -/
def psgDirectUptoRow : OpenClaim := { program := "ytcpilhbinkamiaadoor", sum := "3b483e8ccaf7f888011f8802c192417820f5fd3a081b3a0e347b0b8172b5c2cc", func := "phosphor/phosphorlaw22.PsgDirect", spec := "psgDirect", unfollowed := true, recurses := true, named := ["phosphor/volume.levels"], apart := false, laid := [("phosphor/volume.levels", laid_phosphor_volume_levels)], narrowed := true }
def PsgDirectUptoSaid : Prop := psgDirectUptoRow.holds Tryd.pinned (OpenSpec.upto psgDirectSpec)

end Rows
end Go.Proofs.YtcpilhbinkamiaaDoor
