/-
  NARROWER THAN 'FOR EVERY INPUT', by the rows' own cells (each row's printed sentence says how): BlockTells: laid · BlockSides: laid · BlockCovers: laid.
  DERIVED. THE GIVEN ROWS OF THIS SEAT. 3 by the template 'for every input the law returns true; each argument reads behind the call as it read before'; 0 by the template 'total and deterministic' (their statements: YtjmalnlfhmddjaaDoorTotals.lean).
  GIVEN WITH THE SEED: the statements are not yours to turn. If you find one false, say at which input.
  Laid BY PROGRAM, IN A SANDBOX (cutbox-rows.mjs): the forced cells as the released guide's own fill.sh prints them over the translation 6160ff14f10f4e5b… (all of the seat's roots in one cut). By AI agents, Wed Nov 11 2026. No macro, syntax, notation, axiom, sorry.
-/
import Derived.Test.YtjmalnlfhmddjaaDoorChecked
import GoSem.Claim
import GoSem.ClaimJoined
import GoSem.ClaimMapViews
import Derived.JoinedTies
import Derived.KernelRfl
namespace Go.Proofs.YtjmalnlfhmddjaaDoor
/- THE CELL 'sum', in the pinned program and in every row, IS THE sha256 OF THE DUMP (.gsa) THAT YtjmalnlfhmddjaaDoorProg.lean LOADS. Nothing in Lean hashes anything: it is a label: what it is worth is what the hold of that sum in a sandbox is worth. -/
noncomputable def Tryd.pinned : Pinned := { name := "ytjmalnlfhmddjaadoor", sum := "6160ff14f10f4e5bc922e696c00c7b59774249dcfbfc0dd77cc96a41268b8e8e", checked := Tryd.checked }
namespace Rows
def none {H : Type} : Left H := { results := [], args := [] }

/- WHAT THE LISTED PACKAGE-LEVEL VARIABLES READ AS WHEN THE CALL BEGINS. Each datum BY PROGRAM (the guide's laid-datum.mjs) off the statement by which the dump's own 'gosem.cut.vars' lays the variable. In a bare row this is a premise. The card (YtjmalnlfhmddjaaDoorCards.lean) ties it to the program's text. -/
def laid_phosphor_block_names {H : Type} : DataW H := .agg [.lit (.string [84, 73, 73]), .lit (.string [84, 68, 68]), .lit (.string [84, 73, 78]), .lit (.string [84, 73, 65]), .lit (.string [84, 65, 73])]
def laid_phosphor_block_paths {H : Type} : DataW H := .agg [.agg [.lit (.int .i64 0), .lit (.int .i64 0)], .agg [.lit (.int .i64 1), .lit (.int .i64 1)], .agg [.lit (.int .i64 0), .lit (.int .i64 2)], .agg [.lit (.int .i64 0), .lit (.int .i64 3)], .agg [.lit (.int .i64 3), .lit (.int .i64 0)]]

/-- 'phosphorlaw09.BlockTells': WHATEVER THE INPUT: true; the input reads as it did. -/
def blockTellsSpec : ChangeSpec := { name := "blockTells", fn := fun _ => fun
  | [d1, d2, d3] => { results := [.lit (.bool true)], args := [d1, d2, d3] }
  | _ => none }
def blockTellsRow : OpenClaim := { program := "ytjmalnlfhmddjaadoor", sum := "6160ff14f10f4e5bc922e696c00c7b59774249dcfbfc0dd77cc96a41268b8e8e", func := "phosphor/phosphorlaw09.BlockTells", spec := "blockTells", named := ["phosphor/block.paths", "phosphor/block.names"], apart := false, laid := [("phosphor/block.names", laid_phosphor_block_names), ("phosphor/block.paths", laid_phosphor_block_paths)] }
def BlockTellsSaid : Prop := blockTellsRow.holds Tryd.pinned (OpenSpec.ofChange blockTellsSpec)

/-- ITS FALSE NEIGHBOUR: 'it returns false'. Refute it at one input. -/
def blockTellsWrong : ChangeSpec := { name := "blockTells", fn := fun _ => fun
  | [d1, d2, d3] => { results := [.lit (.bool false)], args := [d1, d2, d3] }
  | _ => none }
def BlockTellsWrongFalsely : Prop := blockTellsRow.holds Tryd.pinned (OpenSpec.ofChange blockTellsWrong)

/-- 'phosphorlaw09.BlockSides': WHATEVER THE INPUT: true; the input reads as it did. -/
def blockSidesSpec : ChangeSpec := { name := "blockSides", fn := fun _ => fun
  | [d1, d2] => { results := [.lit (.bool true)], args := [d1, d2] }
  | _ => none }
def blockSidesRow : OpenClaim := { program := "ytjmalnlfhmddjaadoor", sum := "6160ff14f10f4e5bc922e696c00c7b59774249dcfbfc0dd77cc96a41268b8e8e", func := "phosphor/phosphorlaw09.BlockSides", spec := "blockSides", named := ["phosphor/block.paths"], apart := false, laid := [("phosphor/block.paths", laid_phosphor_block_paths)] }
def BlockSidesSaid : Prop := blockSidesRow.holds Tryd.pinned (OpenSpec.ofChange blockSidesSpec)

/-- ITS FALSE NEIGHBOUR: 'it returns false'. Refute it at one input. -/
def blockSidesWrong : ChangeSpec := { name := "blockSides", fn := fun _ => fun
  | [d1, d2] => { results := [.lit (.bool false)], args := [d1, d2] }
  | _ => none }
def BlockSidesWrongFalsely : Prop := blockSidesRow.holds Tryd.pinned (OpenSpec.ofChange blockSidesWrong)

/-- 'phosphorlaw09.BlockCovers': WHATEVER THE INPUT: true; the input reads as it did. -/
def blockCoversSpec : ChangeSpec := { name := "blockCovers", fn := fun _ => fun
  | [d1, d2, d3] => { results := [.lit (.bool true)], args := [d1, d2, d3] }
  | _ => none }
def blockCoversRow : OpenClaim := { program := "ytjmalnlfhmddjaadoor", sum := "6160ff14f10f4e5bc922e696c00c7b59774249dcfbfc0dd77cc96a41268b8e8e", func := "phosphor/phosphorlaw09.BlockCovers", spec := "blockCovers", named := ["phosphor/block.paths"], apart := false, laid := [("phosphor/block.paths", laid_phosphor_block_paths)] }
def BlockCoversSaid : Prop := blockCoversRow.holds Tryd.pinned (OpenSpec.ofChange blockCoversSpec)

/-- ITS FALSE NEIGHBOUR: 'it returns false'. Refute it at one input. -/
def blockCoversWrong : ChangeSpec := { name := "blockCovers", fn := fun _ => fun
  | [d1, d2, d3] => { results := [.lit (.bool false)], args := [d1, d2, d3] }
  | _ => none }
def BlockCoversWrongFalsely : Prop := blockCoversRow.holds Tryd.pinned (OpenSpec.ofChange blockCoversWrong)

/- THE SECOND FORM. 'bulk': how many values and letters a reading holds, each counted each time it is reached (what is shared counts as often as it is met; a slice's spare places count too). A statement '..UptoSaid' is the law's where the arguments, and the package variables that the reading takes, are together of bulk at most 1048576: NARROWER than '..Said'. Prove '..Said' where nothing that the law and all that it calls make is longer than what came in: it says more and counts as full. Else prove '..UptoSaid'. A law counts once. -/
mutual
def uptoBulk {H : Type} : DataW H → Nat
  | .lit (.string bytes) => bytes.length + 1
  | .lit _ => 1
  | .nil => 1
  | .ptr d => uptoBulk d + 1
  | .slice elems spare => uptoBulkAll elems + uptoBulkAll spare + 1
  | .agg parts => uptoBulkAll parts + 1
  | .iface _ d => uptoBulk d + 1
  | .map entries => uptoBulkEntries entries + 1
  | .held _ => 1
def uptoBulkAll {H : Type} : List (DataW H) → Nat
  | [] => 0
  | d :: r => uptoBulk d + uptoBulkAll r
def uptoBulkEntries {H : Type} : List (Lit × DataW H) → Nat
  | [] => 0
  | x :: r => uptoBulkEntry x + uptoBulkEntries r
def uptoBulkEntry {H : Type} : Lit × DataW H → Nat
  | (.string bytes, d) => bytes.length + uptoBulk d + 1
  | (_, d) => uptoBulk d + 1
 end
def uptoSmall : (H : Type) → List (DataW H) → Bool := fun _ ds => decide (uptoBulkAll ds ≤ 1048576)
def OpenSpec.upto (s : _root_.Go.ChangeSpec) : _root_.Go.OpenSpec := { _root_.Go.OpenSpec.ofChange s with cond := some uptoSmall }

/-- 'phosphorlaw09.BlockTells', WHERE WHAT IT READS IS OF BULK AT MOST 1048576: true; the input reads as it did. -/
def blockTellsUptoRow : OpenClaim := { program := "ytjmalnlfhmddjaadoor", sum := "6160ff14f10f4e5bc922e696c00c7b59774249dcfbfc0dd77cc96a41268b8e8e", func := "phosphor/phosphorlaw09.BlockTells", spec := "blockTells", named := ["phosphor/block.paths", "phosphor/block.names"], apart := false, laid := [("phosphor/block.names", laid_phosphor_block_names), ("phosphor/block.paths", laid_phosphor_block_paths)], narrowed := true }
def BlockTellsUptoSaid : Prop := blockTellsUptoRow.holds Tryd.pinned (OpenSpec.upto blockTellsSpec)

/-- 'phosphorlaw09.BlockSides', WHERE WHAT IT READS IS OF BULK AT MOST 1048576: true; the input reads as it did. -/
def blockSidesUptoRow : OpenClaim := { program := "ytjmalnlfhmddjaadoor", sum := "6160ff14f10f4e5bc922e696c00c7b59774249dcfbfc0dd77cc96a41268b8e8e", func := "phosphor/phosphorlaw09.BlockSides", spec := "blockSides", named := ["phosphor/block.paths"], apart := false, laid := [("phosphor/block.paths", laid_phosphor_block_paths)], narrowed := true }
def BlockSidesUptoSaid : Prop := blockSidesUptoRow.holds Tryd.pinned (OpenSpec.upto blockSidesSpec)

/-- 'phosphorlaw09.BlockCovers', WHERE WHAT IT READS IS OF BULK AT MOST 1048576: true; the input reads as it did. -/
def blockCoversUptoRow : OpenClaim := { program := "ytjmalnlfhmddjaadoor", sum := "6160ff14f10f4e5bc922e696c00c7b59774249dcfbfc0dd77cc96a41268b8e8e", func := "phosphor/phosphorlaw09.BlockCovers", spec := "blockCovers", named := ["phosphor/block.paths"], apart := false, laid := [("phosphor/block.paths", laid_phosphor_block_paths)], narrowed := true }
def BlockCoversUptoSaid : Prop := blockCoversUptoRow.holds Tryd.pinned (OpenSpec.upto blockCoversSpec)

end Rows
end Go.Proofs.YtjmalnlfhmddjaaDoor
