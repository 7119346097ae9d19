/-
  NARROWER THAN 'FOR EVERY INPUT', by the rows' own cells (each row's printed sentence says how): LineDraws: laid · LinePlain: laid · LineWide: laid.
  DERIVED. THE GIVEN ROWS OF THIS SEAT. 3 by the template 'for every input the law returns true; each argument reads behind the call as it read before'; 0 by the template 'total and deterministic' (their statements: YtnhjhmfiapjenaaDoorTotals.lean).
  GIVEN WITH THE SEED: the statements are not yours to turn. If you find one false, say at which input.
  Laid BY PROGRAM, IN A SANDBOX (cutbox-rows.mjs): the forced cells as the released guide's own fill.sh prints them over the translation 4f13740de8137320… (all of the seat's roots in one cut). By AI agents, Wed Nov 11 2026. No macro, syntax, notation, axiom, sorry.
-/
import Derived.Test.YtnhjhmfiapjenaaDoorChecked
import GoSem.Claim
import GoSem.ClaimJoined
import GoSem.ClaimMapViews
import Derived.JoinedTies
import Derived.KernelRfl
namespace Go.Proofs.YtnhjhmfiapjenaaDoor
/- THE CELL 'sum', in the pinned program and in every row, IS THE sha256 OF THE DUMP (.gsa) THAT YtnhjhmfiapjenaaDoorProg.lean LOADS. Nothing in Lean hashes anything: it is a label: what it is worth is what the hold of that sum in a sandbox is worth. -/
noncomputable def Tryd.pinned : Pinned := { name := "ytnhjhmfiapjenaadoor", sum := "4f13740de8137320205401123c4674cebd92bca60b96e83968bb00ce292aac1c", checked := Tryd.checked }
namespace Rows
def none {H : Type} : Left H := { results := [], args := [] }

/- WHAT THE LISTED PACKAGE-LEVEL VARIABLES READ AS WHEN THE CALL BEGINS. Each datum BY PROGRAM (the guide's laid-datum.mjs) off the statement by which the dump's own 'gosem.cut.vars' lays the variable. In a bare row this is a premise. The card (YtnhjhmfiapjenaaDoorCards.lean) ties it to the program's text. -/
def laid_phosphor_sprites_heights {H : Type} : DataW H := .agg [.lit (.int .i64 16), .lit (.int .i64 32), .lit (.int .i64 64), .lit (.int .i64 64)]

/-- 'phosphorlaw19.LineDraws': WHATEVER THE INPUT: true; the input reads as it did. -/
def lineDrawsSpec : ChangeSpec := { name := "lineDraws", fn := fun _ => fun
  | [d] => { results := [.lit (.bool true)], args := [d] }
  | _ => none }
def lineDrawsRow : OpenClaim := { program := "ytnhjhmfiapjenaadoor", sum := "4f13740de8137320205401123c4674cebd92bca60b96e83968bb00ce292aac1c", func := "phosphor/phosphorlaw19.LineDraws", spec := "lineDraws", unfollowed := true, recurses := true, named := ["phosphor/sprites.heights"], apart := false, laid := [("phosphor/sprites.heights", laid_phosphor_sprites_heights)] }
def LineDrawsSaid : Prop := lineDrawsRow.holds Tryd.pinned (OpenSpec.ofChange lineDrawsSpec)

/-- ITS FALSE NEIGHBOUR: 'it returns false'. Refute it at one input. -/
def lineDrawsWrong : ChangeSpec := { name := "lineDraws", fn := fun _ => fun
  | [d] => { results := [.lit (.bool false)], args := [d] }
  | _ => none }
def LineDrawsWrongFalsely : Prop := lineDrawsRow.holds Tryd.pinned (OpenSpec.ofChange lineDrawsWrong)

/-- 'phosphorlaw19.LinePlain': WHATEVER THE INPUT: true; the input reads as it did. -/
def linePlainSpec : ChangeSpec := { name := "linePlain", fn := fun _ => fun
  | [d] => { results := [.lit (.bool true)], args := [d] }
  | _ => none }
def linePlainRow : OpenClaim := { program := "ytnhjhmfiapjenaadoor", sum := "4f13740de8137320205401123c4674cebd92bca60b96e83968bb00ce292aac1c", func := "phosphor/phosphorlaw19.LinePlain", spec := "linePlain", unfollowed := true, recurses := true, named := ["phosphor/sprites.heights"], apart := false, laid := [("phosphor/sprites.heights", laid_phosphor_sprites_heights)] }
def LinePlainSaid : Prop := linePlainRow.holds Tryd.pinned (OpenSpec.ofChange linePlainSpec)

/-- ITS FALSE NEIGHBOUR: 'it returns false'. Refute it at one input. -/
def linePlainWrong : ChangeSpec := { name := "linePlain", fn := fun _ => fun
  | [d] => { results := [.lit (.bool false)], args := [d] }
  | _ => none }
def LinePlainWrongFalsely : Prop := linePlainRow.holds Tryd.pinned (OpenSpec.ofChange linePlainWrong)

/-- 'phosphorlaw19.LineWide': WHATEVER THE INPUT: true; the input reads as it did. -/
def lineWideSpec : ChangeSpec := { name := "lineWide", fn := fun _ => fun
  | [d1, d2] => { results := [.lit (.bool true)], args := [d1, d2] }
  | _ => none }
def lineWideRow : OpenClaim := { program := "ytnhjhmfiapjenaadoor", sum := "4f13740de8137320205401123c4674cebd92bca60b96e83968bb00ce292aac1c", func := "phosphor/phosphorlaw19.LineWide", spec := "lineWide", unfollowed := true, recurses := true, named := ["phosphor/sprites.heights"], apart := false, laid := [("phosphor/sprites.heights", laid_phosphor_sprites_heights)] }
def LineWideSaid : Prop := lineWideRow.holds Tryd.pinned (OpenSpec.ofChange lineWideSpec)

/-- ITS FALSE NEIGHBOUR: 'it returns false'. Refute it at one input. -/
def lineWideWrong : ChangeSpec := { name := "lineWide", fn := fun _ => fun
  | [d1, d2] => { results := [.lit (.bool false)], args := [d1, d2] }
  | _ => none }
def LineWideWrongFalsely : Prop := lineWideRow.holds Tryd.pinned (OpenSpec.ofChange lineWideWrong)

/- THE SECOND FORM. 'bulk': how many values and letters a reading holds, each counted each time it is reached (what is shared counts as often as it is met; a slice's spare places count too). A statement '..UptoSaid' is the law's where the arguments, and the package variables that the reading takes, are together of bulk at most 1048576: NARROWER than '..Said'. Prove '..Said' where nothing that the law and all that it calls make is longer than what came in: it says more and counts as full. Else prove '..UptoSaid'. A law counts once. -/
mutual
def uptoBulk {H : Type} : DataW H → Nat
  | .lit (.string bytes) => bytes.length + 1
  | .lit _ => 1
  | .nil => 1
  | .ptr d => uptoBulk d + 1
  | .slice elems spare => uptoBulkAll elems + uptoBulkAll spare + 1
  | .agg parts => uptoBulkAll parts + 1
  | .iface _ d => uptoBulk d + 1
  | .map entries => uptoBulkEntries entries + 1
  | .held _ => 1
def uptoBulkAll {H : Type} : List (DataW H) → Nat
  | [] => 0
  | d :: r => uptoBulk d + uptoBulkAll r
def uptoBulkEntries {H : Type} : List (Lit × DataW H) → Nat
  | [] => 0
  | x :: r => uptoBulkEntry x + uptoBulkEntries r
def uptoBulkEntry {H : Type} : Lit × DataW H → Nat
  | (.string bytes, d) => bytes.length + uptoBulk d + 1
  | (_, d) => uptoBulk d + 1
 end
def uptoSmall : (H : Type) → List (DataW H) → Bool := fun _ ds => decide (uptoBulkAll ds ≤ 1048576)
def OpenSpec.upto (s : _root_.Go.ChangeSpec) : _root_.Go.OpenSpec := { _root_.Go.OpenSpec.ofChange s with cond := some uptoSmall }

/-- 'phosphorlaw19.LineDraws', WHERE WHAT IT READS IS OF BULK AT MOST 1048576: true; the input reads as it did. -/
def lineDrawsUptoRow : OpenClaim := { program := "ytnhjhmfiapjenaadoor", sum := "4f13740de8137320205401123c4674cebd92bca60b96e83968bb00ce292aac1c", func := "phosphor/phosphorlaw19.LineDraws", spec := "lineDraws", unfollowed := true, recurses := true, named := ["phosphor/sprites.heights"], apart := false, laid := [("phosphor/sprites.heights", laid_phosphor_sprites_heights)], narrowed := true }
def LineDrawsUptoSaid : Prop := lineDrawsUptoRow.holds Tryd.pinned (OpenSpec.upto lineDrawsSpec)

/-- 'phosphorlaw19.LinePlain', WHERE WHAT IT READS IS OF BULK AT MOST 1048576: true; the input reads as it did. -/
def linePlainUptoRow : OpenClaim := { program := "ytnhjhmfiapjenaadoor", sum := "4f13740de8137320205401123c4674cebd92bca60b96e83968bb00ce292aac1c", func := "phosphor/phosphorlaw19.LinePlain", spec := "linePlain", unfollowed := true, recurses := true, named := ["phosphor/sprites.heights"], apart := false, laid := [("phosphor/sprites.heights", laid_phosphor_sprites_heights)], narrowed := true }
def LinePlainUptoSaid : Prop := linePlainUptoRow.holds Tryd.pinned (OpenSpec.upto linePlainSpec)

/-- 'phosphorlaw19.LineWide', WHERE WHAT IT READS IS OF BULK AT MOST 1048576: true; the input reads as it did. -/
def lineWideUptoRow : OpenClaim := { program := "ytnhjhmfiapjenaadoor", sum := "4f13740de8137320205401123c4674cebd92bca60b96e83968bb00ce292aac1c", func := "phosphor/phosphorlaw19.LineWide", spec := "lineWide", unfollowed := true, recurses := true, named := ["phosphor/sprites.heights"], apart := false, laid := [("phosphor/sprites.heights", laid_phosphor_sprites_heights)], narrowed := true }
def LineWideUptoSaid : Prop := lineWideUptoRow.holds Tryd.pinned (OpenSpec.upto lineWideSpec)

end Rows
end Go.Proofs.YtnhjhmfiapjenaaDoor
