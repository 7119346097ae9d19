/-
  No cell of these rows narrows 'for every input' (looked for: loops, veiled, ifaces, maps, wideKeys, modest, calm, conditions, laid).
  DERIVED. THE GIVEN ROWS OF THIS SEAT. 5 by the template 'for every input the law returns true; each argument reads behind the call as it read before'; 0 by the template 'total and deterministic' (their statements: YtbeiphnlckflpaaTotals.lean).
  GIVEN WITH THE SEED: the statements are not yours to turn. If you find one false, say at which input.
  Laid BY PROGRAM, IN A SANDBOX (cutbox-rows.mjs): the forced cells as the released guide's own fill.sh prints them over the translation 810580a0d01da76f… (all of the seat's roots in one cut). By AI agents, Wed Nov 11 2026. No macro, syntax, notation, axiom, sorry.
-/
import Derived.Test.YtbeiphnlckflpaaChecked
import GoSem.Claim
import GoSem.ClaimJoined
import GoSem.ClaimMapViews
import Derived.JoinedTies
import Derived.KernelRfl
namespace Go.Proofs.Ytbeiphnlckflpaa
/- THE CELL 'sum', in the pinned program and in every row, IS THE sha256 OF THE DUMP (.gsa) THAT YtbeiphnlckflpaaProg.lean LOADS. Nothing in Lean hashes anything: it is a label: what it is worth is what the hold of that sum in a sandbox is worth. -/
noncomputable def Try.pinned : Pinned := { name := "ytbeiphnlckflpaa", sum := "810580a0d01da76f01bd175c56fcd1e39376f25ba6dde94e932a980a12e927b3", checked := Try.checked }
namespace Rows
def none {H : Type} : Left H := { results := [], args := [] }

/-- 'phosphorlaw13.VramPlays': WHATEVER THE INPUT: true; the input reads as it did. -/
def vramPlaysSpec : ChangeSpec := { name := "vramPlays", fn := fun _ => fun
  | [d1, d2, d3] => { results := [.lit (.bool true)], args := [d1, d2, d3] }
  | _ => none }
def vramPlaysRow : OpenClaim := { program := "ytbeiphnlckflpaa", sum := "810580a0d01da76f01bd175c56fcd1e39376f25ba6dde94e932a980a12e927b3", func := "phosphor/phosphorlaw13.VramPlays", spec := "vramPlays", apart := false }
def VramPlaysSaid : Prop := vramPlaysRow.holds Try.pinned (OpenSpec.ofChange vramPlaysSpec)

/-- ITS FALSE NEIGHBOUR: 'it returns false'. Refute it at one input. -/
def vramPlaysWrong : ChangeSpec := { name := "vramPlays", fn := fun _ => fun
  | [d1, d2, d3] => { results := [.lit (.bool false)], args := [d1, d2, d3] }
  | _ => none }
def VramPlaysWrongFalsely : Prop := vramPlaysRow.holds Try.pinned (OpenSpec.ofChange vramPlaysWrong)

/-- 'phosphorlaw13.VramLoads': WHATEVER THE INPUT: true; the input reads as it did. -/
def vramLoadsSpec : ChangeSpec := { name := "vramLoads", fn := fun _ => fun
  | [d1, d2, d3] => { results := [.lit (.bool true)], args := [d1, d2, d3] }
  | _ => none }
def vramLoadsRow : OpenClaim := { program := "ytbeiphnlckflpaa", sum := "810580a0d01da76f01bd175c56fcd1e39376f25ba6dde94e932a980a12e927b3", func := "phosphor/phosphorlaw13.VramLoads", spec := "vramLoads", unfollowed := true, recurses := true, apart := false }
def VramLoadsSaid : Prop := vramLoadsRow.holds Try.pinned (OpenSpec.ofChange vramLoadsSpec)

/-- ITS FALSE NEIGHBOUR: 'it returns false'. Refute it at one input. -/
def vramLoadsWrong : ChangeSpec := { name := "vramLoads", fn := fun _ => fun
  | [d1, d2, d3] => { results := [.lit (.bool false)], args := [d1, d2, d3] }
  | _ => none }
def VramLoadsWrongFalsely : Prop := vramLoadsRow.holds Try.pinned (OpenSpec.ofChange vramLoadsWrong)

/-- 'phosphorlaw13.VramNobody': WHATEVER THE INPUT: true; the input reads as it did. -/
def vramNobodySpec : ChangeSpec := { name := "vramNobody", fn := fun _ => fun
  | [d] => { results := [.lit (.bool true)], args := [d] }
  | _ => none }
def vramNobodyRow : OpenClaim := { program := "ytbeiphnlckflpaa", sum := "810580a0d01da76f01bd175c56fcd1e39376f25ba6dde94e932a980a12e927b3", func := "phosphor/phosphorlaw13.VramNobody", spec := "vramNobody", apart := false }
def VramNobodySaid : Prop := vramNobodyRow.holds Try.pinned (OpenSpec.ofChange vramNobodySpec)

/-- ITS FALSE NEIGHBOUR: 'it returns false'. Refute it at one input. -/
def vramNobodyWrong : ChangeSpec := { name := "vramNobody", fn := fun _ => fun
  | [d] => { results := [.lit (.bool false)], args := [d] }
  | _ => none }
def VramNobodyWrongFalsely : Prop := vramNobodyRow.holds Try.pinned (OpenSpec.ofChange vramNobodyWrong)

/-- 'phosphorlaw13.VramBack': WHATEVER THE INPUT: true; the input reads as it did. -/
def vramBackSpec : ChangeSpec := { name := "vramBack", fn := fun _ => fun
  | [d1, d2, d3] => { results := [.lit (.bool true)], args := [d1, d2, d3] }
  | _ => none }
def vramBackRow : OpenClaim := { program := "ytbeiphnlckflpaa", sum := "810580a0d01da76f01bd175c56fcd1e39376f25ba6dde94e932a980a12e927b3", func := "phosphor/phosphorlaw13.VramBack", spec := "vramBack", apart := false }
def VramBackSaid : Prop := vramBackRow.holds Try.pinned (OpenSpec.ofChange vramBackSpec)

/-- ITS FALSE NEIGHBOUR: 'it returns false'. Refute it at one input. -/
def vramBackWrong : ChangeSpec := { name := "vramBack", fn := fun _ => fun
  | [d1, d2, d3] => { results := [.lit (.bool false)], args := [d1, d2, d3] }
  | _ => none }
def VramBackWrongFalsely : Prop := vramBackRow.holds Try.pinned (OpenSpec.ofChange vramBackWrong)

/-- 'phosphorlaw13.VramSteps': WHATEVER THE INPUT: true; the input reads as it did. -/
def vramStepsSpec : ChangeSpec := { name := "vramSteps", fn := fun _ => fun
  | [d1, d2, d3] => { results := [.lit (.bool true)], args := [d1, d2, d3] }
  | _ => none }
def vramStepsRow : OpenClaim := { program := "ytbeiphnlckflpaa", sum := "810580a0d01da76f01bd175c56fcd1e39376f25ba6dde94e932a980a12e927b3", func := "phosphor/phosphorlaw13.VramSteps", spec := "vramSteps", apart := false }
def VramStepsSaid : Prop := vramStepsRow.holds Try.pinned (OpenSpec.ofChange vramStepsSpec)

/-- ITS FALSE NEIGHBOUR: 'it returns false'. Refute it at one input. -/
def vramStepsWrong : ChangeSpec := { name := "vramSteps", fn := fun _ => fun
  | [d1, d2, d3] => { results := [.lit (.bool false)], args := [d1, d2, d3] }
  | _ => none }
def VramStepsWrongFalsely : Prop := vramStepsRow.holds Try.pinned (OpenSpec.ofChange vramStepsWrong)

/- THE SECOND FORM. 'bulk': how many values and letters a reading holds, each counted each time it is reached (what is shared counts as often as it is met; a slice's spare places count too). A statement '..UptoSaid' is the law's where the arguments, and the package variables that the reading takes, are together of bulk at most 1048576: NARROWER than '..Said'. Prove '..Said' where nothing that the law and all that it calls make is longer than what came in: it says more and counts as full. Else prove '..UptoSaid'. A law counts once. -/
mutual
def uptoBulk {H : Type} : DataW H → Nat
  | .lit (.string bytes) => bytes.length + 1
  | .lit _ => 1
  | .nil => 1
  | .ptr d => uptoBulk d + 1
  | .slice elems spare => uptoBulkAll elems + uptoBulkAll spare + 1
  | .agg parts => uptoBulkAll parts + 1
  | .iface _ d => uptoBulk d + 1
  | .map entries => uptoBulkEntries entries + 1
  | .held _ => 1
def uptoBulkAll {H : Type} : List (DataW H) → Nat
  | [] => 0
  | d :: r => uptoBulk d + uptoBulkAll r
def uptoBulkEntries {H : Type} : List (Lit × DataW H) → Nat
  | [] => 0
  | x :: r => uptoBulkEntry x + uptoBulkEntries r
def uptoBulkEntry {H : Type} : Lit × DataW H → Nat
  | (.string bytes, d) => bytes.length + uptoBulk d + 1
  | (_, d) => uptoBulk d + 1
 end
def uptoSmall : (H : Type) → List (DataW H) → Bool := fun _ ds => decide (uptoBulkAll ds ≤ 1048576)
def OpenSpec.upto (s : _root_.Go.ChangeSpec) : _root_.Go.OpenSpec := { _root_.Go.OpenSpec.ofChange s with cond := some uptoSmall }

/-- 'phosphorlaw13.VramPlays', WHERE WHAT IT READS IS OF BULK AT MOST 1048576: true; the input reads as it did. -/
def vramPlaysUptoRow : OpenClaim := { program := "ytbeiphnlckflpaa", sum := "810580a0d01da76f01bd175c56fcd1e39376f25ba6dde94e932a980a12e927b3", func := "phosphor/phosphorlaw13.VramPlays", spec := "vramPlays", apart := false, narrowed := true }
def VramPlaysUptoSaid : Prop := vramPlaysUptoRow.holds Try.pinned (OpenSpec.upto vramPlaysSpec)

/-- 'phosphorlaw13.VramLoads', WHERE WHAT IT READS IS OF BULK AT MOST 1048576: true; the input reads as it did. -/
def vramLoadsUptoRow : OpenClaim := { program := "ytbeiphnlckflpaa", sum := "810580a0d01da76f01bd175c56fcd1e39376f25ba6dde94e932a980a12e927b3", func := "phosphor/phosphorlaw13.VramLoads", spec := "vramLoads", unfollowed := true, recurses := true, apart := false, narrowed := true }
def VramLoadsUptoSaid : Prop := vramLoadsUptoRow.holds Try.pinned (OpenSpec.upto vramLoadsSpec)

/-- 'phosphorlaw13.VramNobody', WHERE WHAT IT READS IS OF BULK AT MOST 1048576: true; the input reads as it did. -/
def vramNobodyUptoRow : OpenClaim := { program := "ytbeiphnlckflpaa", sum := "810580a0d01da76f01bd175c56fcd1e39376f25ba6dde94e932a980a12e927b3", func := "phosphor/phosphorlaw13.VramNobody", spec := "vramNobody", apart := false, narrowed := true }
def VramNobodyUptoSaid : Prop := vramNobodyUptoRow.holds Try.pinned (OpenSpec.upto vramNobodySpec)

/-- 'phosphorlaw13.VramBack', WHERE WHAT IT READS IS OF BULK AT MOST 1048576: true; the input reads as it did. -/
def vramBackUptoRow : OpenClaim := { program := "ytbeiphnlckflpaa", sum := "810580a0d01da76f01bd175c56fcd1e39376f25ba6dde94e932a980a12e927b3", func := "phosphor/phosphorlaw13.VramBack", spec := "vramBack", apart := false, narrowed := true }
def VramBackUptoSaid : Prop := vramBackUptoRow.holds Try.pinned (OpenSpec.upto vramBackSpec)

/-- 'phosphorlaw13.VramSteps', WHERE WHAT IT READS IS OF BULK AT MOST 1048576: true; the input reads as it did. -/
def vramStepsUptoRow : OpenClaim := { program := "ytbeiphnlckflpaa", sum := "810580a0d01da76f01bd175c56fcd1e39376f25ba6dde94e932a980a12e927b3", func := "phosphor/phosphorlaw13.VramSteps", spec := "vramSteps", apart := false, narrowed := true }
def VramStepsUptoSaid : Prop := vramStepsUptoRow.holds Try.pinned (OpenSpec.upto vramStepsSpec)

end Rows
end Go.Proofs.Ytbeiphnlckflpaa
