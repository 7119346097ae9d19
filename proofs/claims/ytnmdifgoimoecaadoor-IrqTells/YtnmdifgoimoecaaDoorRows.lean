/-
  NARROWER THAN 'FOR EVERY INPUT', by the rows' own cells (each row's printed sentence says how): IrqTells: laid · IrqMore: laid · IrqFirst: laid.
  DERIVED. THE GIVEN ROWS OF THIS SEAT. 3 by the template 'for every input the law returns true; each argument reads behind the call as it read before'; 0 by the template 'total and deterministic' (their statements: YtnmdifgoimoecaaDoorTotals.lean).
  GIVEN WITH THE SEED: the statements are not yours to turn. If you find one false, say at which input.
  Laid BY PROGRAM, IN A SANDBOX (cutbox-rows.mjs): the forced cells as the released guide's own fill.sh prints them over the translation ac91fb0c5816a04b… (all of the seat's roots in one cut). By AI agents, Wed Nov 11 2026. No macro, syntax, notation, axiom, sorry.
-/
import Derived.Test.YtnmdifgoimoecaaDoorChecked
import GoSem.Claim
import GoSem.ClaimJoined
import GoSem.ClaimMapViews
import Derived.JoinedTies
import Derived.KernelRfl
namespace Go.Proofs.YtnmdifgoimoecaaDoor
/- THE CELL 'sum', in the pinned program and in every row, IS THE sha256 OF THE DUMP (.gsa) THAT YtnmdifgoimoecaaDoorProg.lean LOADS. Nothing in Lean hashes anything: it is a label: what it is worth is what the hold of that sum in a sandbox is worth. -/
noncomputable def Tryd.pinned : Pinned := { name := "ytnmdifgoimoecaadoor", sum := "ac91fb0c5816a04ba9c185ebb8a7b8594c26b189846d12e5ef1397eb6a728bef", checked := Tryd.checked }
namespace Rows
def none {H : Type} : Left H := { results := [], args := [] }

/- WHAT THE LISTED PACKAGE-LEVEL VARIABLES READ AS WHEN THE CALL BEGINS. Each datum BY PROGRAM (the guide's laid-datum.mjs) off the statement by which the dump's own 'gosem.cut.vars' lays the variable. In a bare row this is a premise. The card (YtnmdifgoimoecaaDoorCards.lean) ties it to the program's text. -/
def laid_phosphor_irq_vectors {H : Type} : DataW H := .agg [.agg [.lit (.int .i64 4), .lit (.int .i64 65530)], .agg [.lit (.int .i64 2), .lit (.int .i64 65528)], .agg [.lit (.int .i64 1), .lit (.int .i64 65526)]]

/-- 'phosphorlaw11.IrqTells': WHATEVER THE INPUT: true; the input reads as it did. -/
def irqTellsSpec : ChangeSpec := { name := "irqTells", fn := fun _ => fun
  | [d1, d2, d3] => { results := [.lit (.bool true)], args := [d1, d2, d3] }
  | _ => none }
def irqTellsRow : OpenClaim := { program := "ytnmdifgoimoecaadoor", sum := "ac91fb0c5816a04ba9c185ebb8a7b8594c26b189846d12e5ef1397eb6a728bef", func := "phosphor/phosphorlaw11.IrqTells", spec := "irqTells", unfollowed := true, recurses := true, named := ["phosphor/irq.vectors"], apart := false, laid := [("phosphor/irq.vectors", laid_phosphor_irq_vectors)] }
def IrqTellsSaid : Prop := irqTellsRow.holds Tryd.pinned (OpenSpec.ofChange irqTellsSpec)

/-- ITS FALSE NEIGHBOUR: 'it returns false'. Refute it at one input. -/
def irqTellsWrong : ChangeSpec := { name := "irqTells", fn := fun _ => fun
  | [d1, d2, d3] => { results := [.lit (.bool false)], args := [d1, d2, d3] }
  | _ => none }
def IrqTellsWrongFalsely : Prop := irqTellsRow.holds Tryd.pinned (OpenSpec.ofChange irqTellsWrong)

/-- 'phosphorlaw11.IrqMore': WHATEVER THE INPUT: true; the input reads as it did. -/
def irqMoreSpec : ChangeSpec := { name := "irqMore", fn := fun _ => fun
  | [d1, d2, d3] => { results := [.lit (.bool true)], args := [d1, d2, d3] }
  | _ => none }
def irqMoreRow : OpenClaim := { program := "ytnmdifgoimoecaadoor", sum := "ac91fb0c5816a04ba9c185ebb8a7b8594c26b189846d12e5ef1397eb6a728bef", func := "phosphor/phosphorlaw11.IrqMore", spec := "irqMore", unfollowed := true, recurses := true, named := ["phosphor/irq.vectors"], apart := false, laid := [("phosphor/irq.vectors", laid_phosphor_irq_vectors)] }
def IrqMoreSaid : Prop := irqMoreRow.holds Tryd.pinned (OpenSpec.ofChange irqMoreSpec)

/-- ITS FALSE NEIGHBOUR: 'it returns false'. Refute it at one input. -/
def irqMoreWrong : ChangeSpec := { name := "irqMore", fn := fun _ => fun
  | [d1, d2, d3] => { results := [.lit (.bool false)], args := [d1, d2, d3] }
  | _ => none }
def IrqMoreWrongFalsely : Prop := irqMoreRow.holds Tryd.pinned (OpenSpec.ofChange irqMoreWrong)

/-- 'phosphorlaw11.IrqFirst': WHATEVER THE INPUT: true; the input reads as it did. -/
def irqFirstSpec : ChangeSpec := { name := "irqFirst", fn := fun _ => fun
  | [d1, d2] => { results := [.lit (.bool true)], args := [d1, d2] }
  | _ => none }
def irqFirstRow : OpenClaim := { program := "ytnmdifgoimoecaadoor", sum := "ac91fb0c5816a04ba9c185ebb8a7b8594c26b189846d12e5ef1397eb6a728bef", func := "phosphor/phosphorlaw11.IrqFirst", spec := "irqFirst", unfollowed := true, recurses := true, named := ["phosphor/irq.vectors"], apart := false, laid := [("phosphor/irq.vectors", laid_phosphor_irq_vectors)] }
def IrqFirstSaid : Prop := irqFirstRow.holds Tryd.pinned (OpenSpec.ofChange irqFirstSpec)

/-- ITS FALSE NEIGHBOUR: 'it returns false'. Refute it at one input. -/
def irqFirstWrong : ChangeSpec := { name := "irqFirst", fn := fun _ => fun
  | [d1, d2] => { results := [.lit (.bool false)], args := [d1, d2] }
  | _ => none }
def IrqFirstWrongFalsely : Prop := irqFirstRow.holds Tryd.pinned (OpenSpec.ofChange irqFirstWrong)

/- THE SECOND FORM. 'bulk': how many values and letters a reading holds, each counted each time it is reached (what is shared counts as often as it is met; a slice's spare places count too). A statement '..UptoSaid' is the law's where the arguments, and the package variables that the reading takes, are together of bulk at most 1048576: NARROWER than '..Said'. Prove '..Said' where nothing that the law and all that it calls make is longer than what came in: it says more and counts as full. Else prove '..UptoSaid'. A law counts once. -/
mutual
def uptoBulk {H : Type} : DataW H → Nat
  | .lit (.string bytes) => bytes.length + 1
  | .lit _ => 1
  | .nil => 1
  | .ptr d => uptoBulk d + 1
  | .slice elems spare => uptoBulkAll elems + uptoBulkAll spare + 1
  | .agg parts => uptoBulkAll parts + 1
  | .iface _ d => uptoBulk d + 1
  | .map entries => uptoBulkEntries entries + 1
  | .held _ => 1
def uptoBulkAll {H : Type} : List (DataW H) → Nat
  | [] => 0
  | d :: r => uptoBulk d + uptoBulkAll r
def uptoBulkEntries {H : Type} : List (Lit × DataW H) → Nat
  | [] => 0
  | x :: r => uptoBulkEntry x + uptoBulkEntries r
def uptoBulkEntry {H : Type} : Lit × DataW H → Nat
  | (.string bytes, d) => bytes.length + uptoBulk d + 1
  | (_, d) => uptoBulk d + 1
 end
def uptoSmall : (H : Type) → List (DataW H) → Bool := fun _ ds => decide (uptoBulkAll ds ≤ 1048576)
def OpenSpec.upto (s : _root_.Go.ChangeSpec) : _root_.Go.OpenSpec := { _root_.Go.OpenSpec.ofChange s with cond := some uptoSmall }

/-- 'phosphorlaw11.IrqTells', WHERE WHAT IT READS IS OF BULK AT MOST 1048576: true; the input reads as it did. -/
def irqTellsUptoRow : OpenClaim := { program := "ytnmdifgoimoecaadoor", sum := "ac91fb0c5816a04ba9c185ebb8a7b8594c26b189846d12e5ef1397eb6a728bef", func := "phosphor/phosphorlaw11.IrqTells", spec := "irqTells", unfollowed := true, recurses := true, named := ["phosphor/irq.vectors"], apart := false, laid := [("phosphor/irq.vectors", laid_phosphor_irq_vectors)], narrowed := true }
def IrqTellsUptoSaid : Prop := irqTellsUptoRow.holds Tryd.pinned (OpenSpec.upto irqTellsSpec)

/-- 'phosphorlaw11.IrqMore', WHERE WHAT IT READS IS OF BULK AT MOST 1048576: true; the input reads as it did. -/
def irqMoreUptoRow : OpenClaim := { program := "ytnmdifgoimoecaadoor", sum := "ac91fb0c5816a04ba9c185ebb8a7b8594c26b189846d12e5ef1397eb6a728bef", func := "phosphor/phosphorlaw11.IrqMore", spec := "irqMore", unfollowed := true, recurses := true, named := ["phosphor/irq.vectors"], apart := false, laid := [("phosphor/irq.vectors", laid_phosphor_irq_vectors)], narrowed := true }
def IrqMoreUptoSaid : Prop := irqMoreUptoRow.holds Tryd.pinned (OpenSpec.upto irqMoreSpec)

/-- 'phosphorlaw11.IrqFirst', WHERE WHAT IT READS IS OF BULK AT MOST 1048576: true; the input reads as it did. -/
def irqFirstUptoRow : OpenClaim := { program := "ytnmdifgoimoecaadoor", sum := "ac91fb0c5816a04ba9c185ebb8a7b8594c26b189846d12e5ef1397eb6a728bef", func := "phosphor/phosphorlaw11.IrqFirst", spec := "irqFirst", unfollowed := true, recurses := true, named := ["phosphor/irq.vectors"], apart := false, laid := [("phosphor/irq.vectors", laid_phosphor_irq_vectors)], narrowed := true }
def IrqFirstUptoSaid : Prop := irqFirstUptoRow.holds Tryd.pinned (OpenSpec.upto irqFirstSpec)

end Rows
end Go.Proofs.YtnmdifgoimoecaaDoor
