/-
  NARROWER THAN 'FOR EVERY INPUT', by the rows' own cells (each row's printed sentence says how): RegionTells: laid · RegionApart: laid · RegionPorts: laid · RegionOpen: laid.
  DERIVED. THE GIVEN ROWS OF THIS SEAT. 4 by the template 'for every input the law returns true; each argument reads behind the call as it read before'; 0 by the template 'total and deterministic' (their statements: YtijidlhfaifbfaaDoorTotals.lean).
  GIVEN WITH THE SEED: the statements are not yours to turn. If you find one false, say at which input.
  Laid BY PROGRAM, IN A SANDBOX (cutbox-rows.mjs): the forced cells as the released guide's own fill.sh prints them over the translation 70481896da3590d3… (all of the seat's roots in one cut). By AI agents, Wed Nov 11 2026. No macro, syntax, notation, axiom, sorry.
-/
import Derived.Test.YtijidlhfaifbfaaDoorChecked
import GoSem.Claim
import GoSem.ClaimJoined
import GoSem.ClaimMapViews
import Derived.JoinedTies
import Derived.KernelRfl
namespace Go.Proofs.YtijidlhfaifbfaaDoor
/- THE CELL 'sum', in the pinned program and in every row, IS THE sha256 OF THE DUMP (.gsa) THAT YtijidlhfaifbfaaDoorProg.lean LOADS. Nothing in Lean hashes anything: it is a label: what it is worth is what the hold of that sum in a sandbox is worth. -/
noncomputable def Tryd.pinned : Pinned := { name := "ytijidlhfaifbfaadoor", sum := "70481896da3590d3e0efa43438e8503610ca97f42c09d5f410b403fbc9d729aa", checked := Tryd.checked }
namespace Rows
def none {H : Type} : Left H := { results := [], args := [] }

/- WHAT THE LISTED PACKAGE-LEVEL VARIABLES READ AS WHEN THE CALL BEGINS. Each datum BY PROGRAM (the guide's laid-datum.mjs) off the statement by which the dump's own 'gosem.cut.vars' lays the variable. In a bare row this is a premise. The card (YtijidlhfaifbfaaDoorCards.lean) ties it to the program's text. -/
def laid_phosphor_region_portPlaces {H : Type} : DataW H := .agg [.lit (.int .i64 0), .lit (.int .i64 0), .lit (.int .i64 4), .lit (.int .i64 8), .lit (.int .i64 16), .lit (.int .i64 2), .lit (.int .i64 1), .lit (.int .i64 4)]

/-- 'phosphorlaw06.RegionTells': WHATEVER THE INPUT: true; the input reads as it did. -/
def regionTellsSpec : ChangeSpec := { name := "regionTells", fn := fun _ => fun
  | [d1, d2] => { results := [.lit (.bool true)], args := [d1, d2] }
  | _ => none }
def regionTellsRow : OpenClaim := { program := "ytijidlhfaifbfaadoor", sum := "70481896da3590d3e0efa43438e8503610ca97f42c09d5f410b403fbc9d729aa", func := "phosphor/phosphorlaw06.RegionTells", spec := "regionTells", named := ["phosphor/region.portPlaces"], apart := false, laid := [("phosphor/region.portPlaces", laid_phosphor_region_portPlaces)] }
def RegionTellsSaid : Prop := regionTellsRow.holds Tryd.pinned (OpenSpec.ofChange regionTellsSpec)

/-- ITS FALSE NEIGHBOUR: 'it returns false'. Refute it at one input. -/
def regionTellsWrong : ChangeSpec := { name := "regionTells", fn := fun _ => fun
  | [d1, d2] => { results := [.lit (.bool false)], args := [d1, d2] }
  | _ => none }
def RegionTellsWrongFalsely : Prop := regionTellsRow.holds Tryd.pinned (OpenSpec.ofChange regionTellsWrong)

/-- 'phosphorlaw06.RegionApart': WHATEVER THE INPUT: true; the input reads as it did. -/
def regionApartSpec : ChangeSpec := { name := "regionApart", fn := fun _ => fun
  | [d1, d2] => { results := [.lit (.bool true)], args := [d1, d2] }
  | _ => none }
def regionApartRow : OpenClaim := { program := "ytijidlhfaifbfaadoor", sum := "70481896da3590d3e0efa43438e8503610ca97f42c09d5f410b403fbc9d729aa", func := "phosphor/phosphorlaw06.RegionApart", spec := "regionApart", named := ["phosphor/region.portPlaces"], apart := false, laid := [("phosphor/region.portPlaces", laid_phosphor_region_portPlaces)] }
def RegionApartSaid : Prop := regionApartRow.holds Tryd.pinned (OpenSpec.ofChange regionApartSpec)

/-- ITS FALSE NEIGHBOUR: 'it returns false'. Refute it at one input. -/
def regionApartWrong : ChangeSpec := { name := "regionApart", fn := fun _ => fun
  | [d1, d2] => { results := [.lit (.bool false)], args := [d1, d2] }
  | _ => none }
def RegionApartWrongFalsely : Prop := regionApartRow.holds Tryd.pinned (OpenSpec.ofChange regionApartWrong)

/-- 'phosphorlaw06.RegionPorts': WHATEVER THE INPUT: true; the input reads as it did. -/
def regionPortsSpec : ChangeSpec := { name := "regionPorts", fn := fun _ => fun
  | [d1, d2] => { results := [.lit (.bool true)], args := [d1, d2] }
  | _ => none }
def regionPortsRow : OpenClaim := { program := "ytijidlhfaifbfaadoor", sum := "70481896da3590d3e0efa43438e8503610ca97f42c09d5f410b403fbc9d729aa", func := "phosphor/phosphorlaw06.RegionPorts", spec := "regionPorts", named := ["phosphor/region.portPlaces"], apart := false, laid := [("phosphor/region.portPlaces", laid_phosphor_region_portPlaces)] }
def RegionPortsSaid : Prop := regionPortsRow.holds Tryd.pinned (OpenSpec.ofChange regionPortsSpec)

/-- ITS FALSE NEIGHBOUR: 'it returns false'. Refute it at one input. -/
def regionPortsWrong : ChangeSpec := { name := "regionPorts", fn := fun _ => fun
  | [d1, d2] => { results := [.lit (.bool false)], args := [d1, d2] }
  | _ => none }
def RegionPortsWrongFalsely : Prop := regionPortsRow.holds Tryd.pinned (OpenSpec.ofChange regionPortsWrong)

/-- 'phosphorlaw06.RegionOpen': WHATEVER THE INPUT: true; the input reads as it did. -/
def regionOpenSpec : ChangeSpec := { name := "regionOpen", fn := fun _ => fun
  | [d1, d2] => { results := [.lit (.bool true)], args := [d1, d2] }
  | _ => none }
def regionOpenRow : OpenClaim := { program := "ytijidlhfaifbfaadoor", sum := "70481896da3590d3e0efa43438e8503610ca97f42c09d5f410b403fbc9d729aa", func := "phosphor/phosphorlaw06.RegionOpen", spec := "regionOpen", named := ["phosphor/region.portPlaces"], apart := false, laid := [("phosphor/region.portPlaces", laid_phosphor_region_portPlaces)] }
def RegionOpenSaid : Prop := regionOpenRow.holds Tryd.pinned (OpenSpec.ofChange regionOpenSpec)

/-- ITS FALSE NEIGHBOUR: 'it returns false'. Refute it at one input. -/
def regionOpenWrong : ChangeSpec := { name := "regionOpen", fn := fun _ => fun
  | [d1, d2] => { results := [.lit (.bool false)], args := [d1, d2] }
  | _ => none }
def RegionOpenWrongFalsely : Prop := regionOpenRow.holds Tryd.pinned (OpenSpec.ofChange regionOpenWrong)

/- THE SECOND FORM. 'bulk': how many values and letters a reading holds, each counted each time it is reached (what is shared counts as often as it is met; a slice's spare places count too). A statement '..UptoSaid' is the law's where the arguments, and the package variables that the reading takes, are together of bulk at most 1048576: NARROWER than '..Said'. Prove '..Said' where nothing that the law and all that it calls make is longer than what came in: it says more and counts as full. Else prove '..UptoSaid'. A law counts once. -/
mutual
def uptoBulk {H : Type} : DataW H → Nat
  | .lit (.string bytes) => bytes.length + 1
  | .lit _ => 1
  | .nil => 1
  | .ptr d => uptoBulk d + 1
  | .slice elems spare => uptoBulkAll elems + uptoBulkAll spare + 1
  | .agg parts => uptoBulkAll parts + 1
  | .iface _ d => uptoBulk d + 1
  | .map entries => uptoBulkEntries entries + 1
  | .held _ => 1
def uptoBulkAll {H : Type} : List (DataW H) → Nat
  | [] => 0
  | d :: r => uptoBulk d + uptoBulkAll r
def uptoBulkEntries {H : Type} : List (Lit × DataW H) → Nat
  | [] => 0
  | x :: r => uptoBulkEntry x + uptoBulkEntries r
def uptoBulkEntry {H : Type} : Lit × DataW H → Nat
  | (.string bytes, d) => bytes.length + uptoBulk d + 1
  | (_, d) => uptoBulk d + 1
 end
def uptoSmall : (H : Type) → List (DataW H) → Bool := fun _ ds => decide (uptoBulkAll ds ≤ 1048576)
def OpenSpec.upto (s : _root_.Go.ChangeSpec) : _root_.Go.OpenSpec := { _root_.Go.OpenSpec.ofChange s with cond := some uptoSmall }

/-- 'phosphorlaw06.RegionTells', WHERE WHAT IT READS IS OF BULK AT MOST 1048576: true; the input reads as it did. -/
def regionTellsUptoRow : OpenClaim := { program := "ytijidlhfaifbfaadoor", sum := "70481896da3590d3e0efa43438e8503610ca97f42c09d5f410b403fbc9d729aa", func := "phosphor/phosphorlaw06.RegionTells", spec := "regionTells", named := ["phosphor/region.portPlaces"], apart := false, laid := [("phosphor/region.portPlaces", laid_phosphor_region_portPlaces)], narrowed := true }
def RegionTellsUptoSaid : Prop := regionTellsUptoRow.holds Tryd.pinned (OpenSpec.upto regionTellsSpec)

/-- 'phosphorlaw06.RegionApart', WHERE WHAT IT READS IS OF BULK AT MOST 1048576: true; the input reads as it did. -/
def regionApartUptoRow : OpenClaim := { program := "ytijidlhfaifbfaadoor", sum := "70481896da3590d3e0efa43438e8503610ca97f42c09d5f410b403fbc9d729aa", func := "phosphor/phosphorlaw06.RegionApart", spec := "regionApart", named := ["phosphor/region.portPlaces"], apart := false, laid := [("phosphor/region.portPlaces", laid_phosphor_region_portPlaces)], narrowed := true }
def RegionApartUptoSaid : Prop := regionApartUptoRow.holds Tryd.pinned (OpenSpec.upto regionApartSpec)

/-- 'phosphorlaw06.RegionPorts', WHERE WHAT IT READS IS OF BULK AT MOST 1048576: true; the input reads as it did. -/
def regionPortsUptoRow : OpenClaim := { program := "ytijidlhfaifbfaadoor", sum := "70481896da3590d3e0efa43438e8503610ca97f42c09d5f410b403fbc9d729aa", func := "phosphor/phosphorlaw06.RegionPorts", spec := "regionPorts", named := ["phosphor/region.portPlaces"], apart := false, laid := [("phosphor/region.portPlaces", laid_phosphor_region_portPlaces)], narrowed := true }
def RegionPortsUptoSaid : Prop := regionPortsUptoRow.holds Tryd.pinned (OpenSpec.upto regionPortsSpec)

/-- 'phosphorlaw06.RegionOpen', WHERE WHAT IT READS IS OF BULK AT MOST 1048576: true; the input reads as it did. -/
def regionOpenUptoRow : OpenClaim := { program := "ytijidlhfaifbfaadoor", sum := "70481896da3590d3e0efa43438e8503610ca97f42c09d5f410b403fbc9d729aa", func := "phosphor/phosphorlaw06.RegionOpen", spec := "regionOpen", named := ["phosphor/region.portPlaces"], apart := false, laid := [("phosphor/region.portPlaces", laid_phosphor_region_portPlaces)], narrowed := true }
def RegionOpenUptoSaid : Prop := regionOpenUptoRow.holds Tryd.pinned (OpenSpec.upto regionOpenSpec)

end Rows
end Go.Proofs.YtijidlhfaifbfaaDoor
