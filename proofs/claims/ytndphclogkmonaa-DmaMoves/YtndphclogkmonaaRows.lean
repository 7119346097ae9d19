/-
  No cell of these rows narrows 'for every input' (looked for: loops, veiled, ifaces, maps, wideKeys, modest, calm, conditions, laid).
  DERIVED. THE GIVEN ROWS OF THIS SEAT. 4 by the template 'for every input the law returns true; each argument reads behind the call as it read before'; 0 by the template 'total and deterministic' (their statements: YtndphclogkmonaaTotals.lean).
  GIVEN WITH THE SEED: the statements are not yours to turn. If you find one false, say at which input.
  Laid BY PROGRAM, IN A SANDBOX (cutbox-rows.mjs): the forced cells as the released guide's own fill.sh prints them over the translation c502565f3360eb12… (all of the seat's roots in one cut). By AI agents, Wed Nov 11 2026. No macro, syntax, notation, axiom, sorry.
-/
import Derived.Test.YtndphclogkmonaaChecked
import GoSem.Claim
import GoSem.ClaimJoined
import GoSem.ClaimMapViews
import Derived.JoinedTies
import Derived.KernelRfl
namespace Go.Proofs.Ytndphclogkmonaa
/- THE CELL 'sum', in the pinned program and in every row, IS THE sha256 OF THE DUMP (.gsa) THAT YtndphclogkmonaaProg.lean LOADS. Nothing in Lean hashes anything: it is a label: what it is worth is what the hold of that sum in a sandbox is worth. -/
noncomputable def Try.pinned : Pinned := { name := "ytndphclogkmonaa", sum := "c502565f3360eb12d1d4097ba9798fd94e6c8ef018524237003b0cc0c2830093", checked := Try.checked }
namespace Rows
def none {H : Type} : Left H := { results := [], args := [] }

/-- 'phosphorlaw16.DmaMoves': WHATEVER THE INPUT: true; the input reads as it did. -/
def dmaMovesSpec : ChangeSpec := { name := "dmaMoves", fn := fun _ => fun
  | [d1, d2, d3] => { results := [.lit (.bool true)], args := [d1, d2, d3] }
  | _ => none }
def dmaMovesRow : OpenClaim := { program := "ytndphclogkmonaa", sum := "c502565f3360eb12d1d4097ba9798fd94e6c8ef018524237003b0cc0c2830093", func := "phosphor/phosphorlaw16.DmaMoves", spec := "dmaMoves", unfollowed := true, recurses := true, apart := false }
def DmaMovesSaid : Prop := dmaMovesRow.holds Try.pinned (OpenSpec.ofChange dmaMovesSpec)

/-- ITS FALSE NEIGHBOUR: 'it returns false'. Refute it at one input. -/
def dmaMovesWrong : ChangeSpec := { name := "dmaMoves", fn := fun _ => fun
  | [d1, d2, d3] => { results := [.lit (.bool false)], args := [d1, d2, d3] }
  | _ => none }
def DmaMovesWrongFalsely : Prop := dmaMovesRow.holds Try.pinned (OpenSpec.ofChange dmaMovesWrong)

/-- 'phosphorlaw16.DmaTable': WHATEVER THE INPUT: true; the input reads as it did. -/
def dmaTableSpec : ChangeSpec := { name := "dmaTable", fn := fun _ => fun
  | [d1, d2, d3] => { results := [.lit (.bool true)], args := [d1, d2, d3] }
  | _ => none }
def dmaTableRow : OpenClaim := { program := "ytndphclogkmonaa", sum := "c502565f3360eb12d1d4097ba9798fd94e6c8ef018524237003b0cc0c2830093", func := "phosphor/phosphorlaw16.DmaTable", spec := "dmaTable", apart := false }
def DmaTableSaid : Prop := dmaTableRow.holds Try.pinned (OpenSpec.ofChange dmaTableSpec)

/-- ITS FALSE NEIGHBOUR: 'it returns false'. Refute it at one input. -/
def dmaTableWrong : ChangeSpec := { name := "dmaTable", fn := fun _ => fun
  | [d1, d2, d3] => { results := [.lit (.bool false)], args := [d1, d2, d3] }
  | _ => none }
def DmaTableWrongFalsely : Prop := dmaTableRow.holds Try.pinned (OpenSpec.ofChange dmaTableWrong)

/-- 'phosphorlaw16.DmaBack': WHATEVER THE INPUT: true; the input reads as it did. -/
def dmaBackSpec : ChangeSpec := { name := "dmaBack", fn := fun _ => fun
  | [d1, d2] => { results := [.lit (.bool true)], args := [d1, d2] }
  | _ => none }
def dmaBackRow : OpenClaim := { program := "ytndphclogkmonaa", sum := "c502565f3360eb12d1d4097ba9798fd94e6c8ef018524237003b0cc0c2830093", func := "phosphor/phosphorlaw16.DmaBack", spec := "dmaBack", unfollowed := true, recurses := true, apart := false }
def DmaBackSaid : Prop := dmaBackRow.holds Try.pinned (OpenSpec.ofChange dmaBackSpec)

/-- ITS FALSE NEIGHBOUR: 'it returns false'. Refute it at one input. -/
def dmaBackWrong : ChangeSpec := { name := "dmaBack", fn := fun _ => fun
  | [d1, d2] => { results := [.lit (.bool false)], args := [d1, d2] }
  | _ => none }
def DmaBackWrongFalsely : Prop := dmaBackRow.holds Try.pinned (OpenSpec.ofChange dmaBackWrong)

/-- 'phosphorlaw16.DmaFills': WHATEVER THE INPUT: true; the input reads as it did. -/
def dmaFillsSpec : ChangeSpec := { name := "dmaFills", fn := fun _ => fun
  | [d1, d2, d3] => { results := [.lit (.bool true)], args := [d1, d2, d3] }
  | _ => none }
def dmaFillsRow : OpenClaim := { program := "ytndphclogkmonaa", sum := "c502565f3360eb12d1d4097ba9798fd94e6c8ef018524237003b0cc0c2830093", func := "phosphor/phosphorlaw16.DmaFills", spec := "dmaFills", unfollowed := true, recurses := true, apart := false }
def DmaFillsSaid : Prop := dmaFillsRow.holds Try.pinned (OpenSpec.ofChange dmaFillsSpec)

/-- ITS FALSE NEIGHBOUR: 'it returns false'. Refute it at one input. -/
def dmaFillsWrong : ChangeSpec := { name := "dmaFills", fn := fun _ => fun
  | [d1, d2, d3] => { results := [.lit (.bool false)], args := [d1, d2, d3] }
  | _ => none }
def DmaFillsWrongFalsely : Prop := dmaFillsRow.holds Try.pinned (OpenSpec.ofChange dmaFillsWrong)

/- THE SECOND FORM. 'bulk': how many values and letters a reading holds, each counted each time it is reached (what is shared counts as often as it is met; a slice's spare places count too). A statement '..UptoSaid' is the law's where the arguments, and the package variables that the reading takes, are together of bulk at most 1048576: NARROWER than '..Said'. Prove '..Said' where nothing that the law and all that it calls make is longer than what came in: it says more and counts as full. Else prove '..UptoSaid'. A law counts once. -/
mutual
def uptoBulk {H : Type} : DataW H → Nat
  | .lit (.string bytes) => bytes.length + 1
  | .lit _ => 1
  | .nil => 1
  | .ptr d => uptoBulk d + 1
  | .slice elems spare => uptoBulkAll elems + uptoBulkAll spare + 1
  | .agg parts => uptoBulkAll parts + 1
  | .iface _ d => uptoBulk d + 1
  | .map entries => uptoBulkEntries entries + 1
  | .held _ => 1
def uptoBulkAll {H : Type} : List (DataW H) → Nat
  | [] => 0
  | d :: r => uptoBulk d + uptoBulkAll r
def uptoBulkEntries {H : Type} : List (Lit × DataW H) → Nat
  | [] => 0
  | x :: r => uptoBulkEntry x + uptoBulkEntries r
def uptoBulkEntry {H : Type} : Lit × DataW H → Nat
  | (.string bytes, d) => bytes.length + uptoBulk d + 1
  | (_, d) => uptoBulk d + 1
 end
def uptoSmall : (H : Type) → List (DataW H) → Bool := fun _ ds => decide (uptoBulkAll ds ≤ 1048576)
def OpenSpec.upto (s : _root_.Go.ChangeSpec) : _root_.Go.OpenSpec := { _root_.Go.OpenSpec.ofChange s with cond := some uptoSmall }

/-- 'phosphorlaw16.DmaMoves', WHERE WHAT IT READS IS OF BULK AT MOST 1048576: true; the input reads as it did. -/
def dmaMovesUptoRow : OpenClaim := { program := "ytndphclogkmonaa", sum := "c502565f3360eb12d1d4097ba9798fd94e6c8ef018524237003b0cc0c2830093", func := "phosphor/phosphorlaw16.DmaMoves", spec := "dmaMoves", unfollowed := true, recurses := true, apart := false, narrowed := true }
def DmaMovesUptoSaid : Prop := dmaMovesUptoRow.holds Try.pinned (OpenSpec.upto dmaMovesSpec)

/-- 'phosphorlaw16.DmaTable', WHERE WHAT IT READS IS OF BULK AT MOST 1048576: true; the input reads as it did. -/
def dmaTableUptoRow : OpenClaim := { program := "ytndphclogkmonaa", sum := "c502565f3360eb12d1d4097ba9798fd94e6c8ef018524237003b0cc0c2830093", func := "phosphor/phosphorlaw16.DmaTable", spec := "dmaTable", apart := false, narrowed := true }
def DmaTableUptoSaid : Prop := dmaTableUptoRow.holds Try.pinned (OpenSpec.upto dmaTableSpec)

/-- 'phosphorlaw16.DmaBack', WHERE WHAT IT READS IS OF BULK AT MOST 1048576: true; the input reads as it did. -/
def dmaBackUptoRow : OpenClaim := { program := "ytndphclogkmonaa", sum := "c502565f3360eb12d1d4097ba9798fd94e6c8ef018524237003b0cc0c2830093", func := "phosphor/phosphorlaw16.DmaBack", spec := "dmaBack", unfollowed := true, recurses := true, apart := false, narrowed := true }
def DmaBackUptoSaid : Prop := dmaBackUptoRow.holds Try.pinned (OpenSpec.upto dmaBackSpec)

/-- 'phosphorlaw16.DmaFills', WHERE WHAT IT READS IS OF BULK AT MOST 1048576: true; the input reads as it did. -/
def dmaFillsUptoRow : OpenClaim := { program := "ytndphclogkmonaa", sum := "c502565f3360eb12d1d4097ba9798fd94e6c8ef018524237003b0cc0c2830093", func := "phosphor/phosphorlaw16.DmaFills", spec := "dmaFills", unfollowed := true, recurses := true, apart := false, narrowed := true }
def DmaFillsUptoSaid : Prop := dmaFillsUptoRow.holds Try.pinned (OpenSpec.upto dmaFillsSpec)

end Rows
end Go.Proofs.Ytndphclogkmonaa
