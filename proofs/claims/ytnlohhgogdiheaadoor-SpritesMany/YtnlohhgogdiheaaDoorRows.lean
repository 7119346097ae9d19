/-
  NARROWER THAN 'FOR EVERY INPUT', by the rows' own cells (each row's printed sentence says how): SpritesOf: laid · SpritesLine: laid · SpritesAhead: laid · SpritesFlip: laid · SpritesMany: laid · SpritesAway: laid.
  DERIVED. THE GIVEN ROWS OF THIS SEAT. 6 by the template 'for every input the law returns true; each argument reads behind the call as it read before'; 0 by the template 'total and deterministic' (their statements: YtnlohhgogdiheaaDoorTotals.lean).
  GIVEN WITH THE SEED: the statements are not yours to turn. If you find one false, say at which input.
  Laid BY PROGRAM, IN A SANDBOX (cutbox-rows.mjs): the forced cells as the released guide's own fill.sh prints them over the translation 8dd995a91459744e… (all of the seat's roots in one cut). By AI agents, Wed Nov 11 2026. No macro, syntax, notation, axiom, sorry.
-/
import Derived.Test.YtnlohhgogdiheaaDoorChecked
import GoSem.Claim
import GoSem.ClaimJoined
import GoSem.ClaimMapViews
import Derived.JoinedTies
import Derived.KernelRfl
namespace Go.Proofs.YtnlohhgogdiheaaDoor
/- THE CELL 'sum', in the pinned program and in every row, IS THE sha256 OF THE DUMP (.gsa) THAT YtnlohhgogdiheaaDoorProg.lean LOADS. Nothing in Lean hashes anything: it is a label: what it is worth is what the hold of that sum in a sandbox is worth. -/
noncomputable def Tryd.pinned : Pinned := { name := "ytnlohhgogdiheaadoor", sum := "8dd995a91459744e76aaea42feb9ea41953c6d900e40a039e39f31d905b22094", checked := Tryd.checked }
namespace Rows
def none {H : Type} : Left H := { results := [], args := [] }

/- WHAT THE LISTED PACKAGE-LEVEL VARIABLES READ AS WHEN THE CALL BEGINS. Each datum BY PROGRAM (the guide's laid-datum.mjs) off the statement by which the dump's own 'gosem.cut.vars' lays the variable. In a bare row this is a premise. The card (YtnlohhgogdiheaaDoorCards.lean) ties it to the program's text. -/
def laid_phosphor_sprites_heights {H : Type} : DataW H := .agg [.lit (.int .i64 16), .lit (.int .i64 32), .lit (.int .i64 64), .lit (.int .i64 64)]

/-- 'phosphorlaw18.SpritesOf': WHATEVER THE INPUT: true; the input reads as it did. -/
def spritesOfSpec : ChangeSpec := { name := "spritesOf", fn := fun _ => fun
  | [d1, d2] => { results := [.lit (.bool true)], args := [d1, d2] }
  | _ => none }
def spritesOfRow : OpenClaim := { program := "ytnlohhgogdiheaadoor", sum := "8dd995a91459744e76aaea42feb9ea41953c6d900e40a039e39f31d905b22094", func := "phosphor/phosphorlaw18.SpritesOf", spec := "spritesOf", named := ["phosphor/sprites.heights"], apart := false, laid := [("phosphor/sprites.heights", laid_phosphor_sprites_heights)] }
def SpritesOfSaid : Prop := spritesOfRow.holds Tryd.pinned (OpenSpec.ofChange spritesOfSpec)

/-- ITS FALSE NEIGHBOUR: 'it returns false'. Refute it at one input. -/
def spritesOfWrong : ChangeSpec := { name := "spritesOf", fn := fun _ => fun
  | [d1, d2] => { results := [.lit (.bool false)], args := [d1, d2] }
  | _ => none }
def SpritesOfWrongFalsely : Prop := spritesOfRow.holds Tryd.pinned (OpenSpec.ofChange spritesOfWrong)

/-- 'phosphorlaw18.SpritesLine': WHATEVER THE INPUT: true; the input reads as it did. -/
def spritesLineSpec : ChangeSpec := { name := "spritesLine", fn := fun _ => fun
  | [d1, d2, d3] => { results := [.lit (.bool true)], args := [d1, d2, d3] }
  | _ => none }
def spritesLineRow : OpenClaim := { program := "ytnlohhgogdiheaadoor", sum := "8dd995a91459744e76aaea42feb9ea41953c6d900e40a039e39f31d905b22094", func := "phosphor/phosphorlaw18.SpritesLine", spec := "spritesLine", unfollowed := true, recurses := true, named := ["phosphor/sprites.heights"], apart := false, laid := [("phosphor/sprites.heights", laid_phosphor_sprites_heights)] }
def SpritesLineSaid : Prop := spritesLineRow.holds Tryd.pinned (OpenSpec.ofChange spritesLineSpec)

/-- ITS FALSE NEIGHBOUR: 'it returns false'. Refute it at one input. -/
def spritesLineWrong : ChangeSpec := { name := "spritesLine", fn := fun _ => fun
  | [d1, d2, d3] => { results := [.lit (.bool false)], args := [d1, d2, d3] }
  | _ => none }
def SpritesLineWrongFalsely : Prop := spritesLineRow.holds Tryd.pinned (OpenSpec.ofChange spritesLineWrong)

/-- 'phosphorlaw18.SpritesAhead': WHATEVER THE INPUT: true; the input reads as it did. -/
def spritesAheadSpec : ChangeSpec := { name := "spritesAhead", fn := fun _ => fun
  | [d1, d2, d3] => { results := [.lit (.bool true)], args := [d1, d2, d3] }
  | _ => none }
def spritesAheadRow : OpenClaim := { program := "ytnlohhgogdiheaadoor", sum := "8dd995a91459744e76aaea42feb9ea41953c6d900e40a039e39f31d905b22094", func := "phosphor/phosphorlaw18.SpritesAhead", spec := "spritesAhead", unfollowed := true, recurses := true, named := ["phosphor/sprites.heights"], apart := false, laid := [("phosphor/sprites.heights", laid_phosphor_sprites_heights)] }
def SpritesAheadSaid : Prop := spritesAheadRow.holds Tryd.pinned (OpenSpec.ofChange spritesAheadSpec)

/-- ITS FALSE NEIGHBOUR: 'it returns false'. Refute it at one input. -/
def spritesAheadWrong : ChangeSpec := { name := "spritesAhead", fn := fun _ => fun
  | [d1, d2, d3] => { results := [.lit (.bool false)], args := [d1, d2, d3] }
  | _ => none }
def SpritesAheadWrongFalsely : Prop := spritesAheadRow.holds Tryd.pinned (OpenSpec.ofChange spritesAheadWrong)

/-- 'phosphorlaw18.SpritesFlip': WHATEVER THE INPUT: true; the input reads as it did. -/
def spritesFlipSpec : ChangeSpec := { name := "spritesFlip", fn := fun _ => fun
  | [d1, d2, d3] => { results := [.lit (.bool true)], args := [d1, d2, d3] }
  | _ => none }
def spritesFlipRow : OpenClaim := { program := "ytnlohhgogdiheaadoor", sum := "8dd995a91459744e76aaea42feb9ea41953c6d900e40a039e39f31d905b22094", func := "phosphor/phosphorlaw18.SpritesFlip", spec := "spritesFlip", unfollowed := true, recurses := true, named := ["phosphor/sprites.heights"], apart := false, laid := [("phosphor/sprites.heights", laid_phosphor_sprites_heights)] }
def SpritesFlipSaid : Prop := spritesFlipRow.holds Tryd.pinned (OpenSpec.ofChange spritesFlipSpec)

/-- ITS FALSE NEIGHBOUR: 'it returns false'. Refute it at one input. -/
def spritesFlipWrong : ChangeSpec := { name := "spritesFlip", fn := fun _ => fun
  | [d1, d2, d3] => { results := [.lit (.bool false)], args := [d1, d2, d3] }
  | _ => none }
def SpritesFlipWrongFalsely : Prop := spritesFlipRow.holds Tryd.pinned (OpenSpec.ofChange spritesFlipWrong)

/-- 'phosphorlaw18.SpritesMany': WHATEVER THE INPUT: true; the input reads as it did. -/
def spritesManySpec : ChangeSpec := { name := "spritesMany", fn := fun _ => fun
  | [d1, d2] => { results := [.lit (.bool true)], args := [d1, d2] }
  | _ => none }
def spritesManyRow : OpenClaim := { program := "ytnlohhgogdiheaadoor", sum := "8dd995a91459744e76aaea42feb9ea41953c6d900e40a039e39f31d905b22094", func := "phosphor/phosphorlaw18.SpritesMany", spec := "spritesMany", unfollowed := true, recurses := true, named := ["phosphor/sprites.heights"], apart := false, laid := [("phosphor/sprites.heights", laid_phosphor_sprites_heights)] }
def SpritesManySaid : Prop := spritesManyRow.holds Tryd.pinned (OpenSpec.ofChange spritesManySpec)

/-- ITS FALSE NEIGHBOUR: 'it returns false'. Refute it at one input. -/
def spritesManyWrong : ChangeSpec := { name := "spritesMany", fn := fun _ => fun
  | [d1, d2] => { results := [.lit (.bool false)], args := [d1, d2] }
  | _ => none }
def SpritesManyWrongFalsely : Prop := spritesManyRow.holds Tryd.pinned (OpenSpec.ofChange spritesManyWrong)

/-- 'phosphorlaw18.SpritesAway': WHATEVER THE INPUT: true; the input reads as it did. -/
def spritesAwaySpec : ChangeSpec := { name := "spritesAway", fn := fun _ => fun
  | [d1, d2, d3] => { results := [.lit (.bool true)], args := [d1, d2, d3] }
  | _ => none }
def spritesAwayRow : OpenClaim := { program := "ytnlohhgogdiheaadoor", sum := "8dd995a91459744e76aaea42feb9ea41953c6d900e40a039e39f31d905b22094", func := "phosphor/phosphorlaw18.SpritesAway", spec := "spritesAway", unfollowed := true, recurses := true, named := ["phosphor/sprites.heights"], apart := false, laid := [("phosphor/sprites.heights", laid_phosphor_sprites_heights)] }
def SpritesAwaySaid : Prop := spritesAwayRow.holds Tryd.pinned (OpenSpec.ofChange spritesAwaySpec)

/-- ITS FALSE NEIGHBOUR: 'it returns false'. Refute it at one input. -/
def spritesAwayWrong : ChangeSpec := { name := "spritesAway", fn := fun _ => fun
  | [d1, d2, d3] => { results := [.lit (.bool false)], args := [d1, d2, d3] }
  | _ => none }
def SpritesAwayWrongFalsely : Prop := spritesAwayRow.holds Tryd.pinned (OpenSpec.ofChange spritesAwayWrong)

/- THE SECOND FORM. 'bulk': how many values and letters a reading holds, each counted each time it is reached (what is shared counts as often as it is met; a slice's spare places count too). A statement '..UptoSaid' is the law's where the arguments, and the package variables that the reading takes, are together of bulk at most 1048576: NARROWER than '..Said'. Prove '..Said' where nothing that the law and all that it calls make is longer than what came in: it says more and counts as full. Else prove '..UptoSaid'. A law counts once. -/
mutual
def uptoBulk {H : Type} : DataW H → Nat
  | .lit (.string bytes) => bytes.length + 1
  | .lit _ => 1
  | .nil => 1
  | .ptr d => uptoBulk d + 1
  | .slice elems spare => uptoBulkAll elems + uptoBulkAll spare + 1
  | .agg parts => uptoBulkAll parts + 1
  | .iface _ d => uptoBulk d + 1
  | .map entries => uptoBulkEntries entries + 1
  | .held _ => 1
def uptoBulkAll {H : Type} : List (DataW H) → Nat
  | [] => 0
  | d :: r => uptoBulk d + uptoBulkAll r
def uptoBulkEntries {H : Type} : List (Lit × DataW H) → Nat
  | [] => 0
  | x :: r => uptoBulkEntry x + uptoBulkEntries r
def uptoBulkEntry {H : Type} : Lit × DataW H → Nat
  | (.string bytes, d) => bytes.length + uptoBulk d + 1
  | (_, d) => uptoBulk d + 1
 end
def uptoSmall : (H : Type) → List (DataW H) → Bool := fun _ ds => decide (uptoBulkAll ds ≤ 1048576)
def OpenSpec.upto (s : _root_.Go.ChangeSpec) : _root_.Go.OpenSpec := { _root_.Go.OpenSpec.ofChange s with cond := some uptoSmall }

/-- 'phosphorlaw18.SpritesOf', WHERE WHAT IT READS IS OF BULK AT MOST 1048576: true; the input reads as it did. -/
def spritesOfUptoRow : OpenClaim := { program := "ytnlohhgogdiheaadoor", sum := "8dd995a91459744e76aaea42feb9ea41953c6d900e40a039e39f31d905b22094", func := "phosphor/phosphorlaw18.SpritesOf", spec := "spritesOf", named := ["phosphor/sprites.heights"], apart := false, laid := [("phosphor/sprites.heights", laid_phosphor_sprites_heights)], narrowed := true }
def SpritesOfUptoSaid : Prop := spritesOfUptoRow.holds Tryd.pinned (OpenSpec.upto spritesOfSpec)

/-- 'phosphorlaw18.SpritesLine', WHERE WHAT IT READS IS OF BULK AT MOST 1048576: true; the input reads as it did. -/
def spritesLineUptoRow : OpenClaim := { program := "ytnlohhgogdiheaadoor", sum := "8dd995a91459744e76aaea42feb9ea41953c6d900e40a039e39f31d905b22094", func := "phosphor/phosphorlaw18.SpritesLine", spec := "spritesLine", unfollowed := true, recurses := true, named := ["phosphor/sprites.heights"], apart := false, laid := [("phosphor/sprites.heights", laid_phosphor_sprites_heights)], narrowed := true }
def SpritesLineUptoSaid : Prop := spritesLineUptoRow.holds Tryd.pinned (OpenSpec.upto spritesLineSpec)

/-- 'phosphorlaw18.SpritesAhead', WHERE WHAT IT READS IS OF BULK AT MOST 1048576: true; the input reads as it did. -/
def spritesAheadUptoRow : OpenClaim := { program := "ytnlohhgogdiheaadoor", sum := "8dd995a91459744e76aaea42feb9ea41953c6d900e40a039e39f31d905b22094", func := "phosphor/phosphorlaw18.SpritesAhead", spec := "spritesAhead", unfollowed := true, recurses := true, named := ["phosphor/sprites.heights"], apart := false, laid := [("phosphor/sprites.heights", laid_phosphor_sprites_heights)], narrowed := true }
def SpritesAheadUptoSaid : Prop := spritesAheadUptoRow.holds Tryd.pinned (OpenSpec.upto spritesAheadSpec)

/-- 'phosphorlaw18.SpritesFlip', WHERE WHAT IT READS IS OF BULK AT MOST 1048576: true; the input reads as it did. -/
def spritesFlipUptoRow : OpenClaim := { program := "ytnlohhgogdiheaadoor", sum := "8dd995a91459744e76aaea42feb9ea41953c6d900e40a039e39f31d905b22094", func := "phosphor/phosphorlaw18.SpritesFlip", spec := "spritesFlip", unfollowed := true, recurses := true, named := ["phosphor/sprites.heights"], apart := false, laid := [("phosphor/sprites.heights", laid_phosphor_sprites_heights)], narrowed := true }
def SpritesFlipUptoSaid : Prop := spritesFlipUptoRow.holds Tryd.pinned (OpenSpec.upto spritesFlipSpec)

/-- 'phosphorlaw18.SpritesMany', WHERE WHAT IT READS IS OF BULK AT MOST 1048576: true; the input reads as it did. -/
def spritesManyUptoRow : OpenClaim := { program := "ytnlohhgogdiheaadoor", sum := "8dd995a91459744e76aaea42feb9ea41953c6d900e40a039e39f31d905b22094", func := "phosphor/phosphorlaw18.SpritesMany", spec := "spritesMany", unfollowed := true, recurses := true, named := ["phosphor/sprites.heights"], apart := false, laid := [("phosphor/sprites.heights", laid_phosphor_sprites_heights)], narrowed := true }
def SpritesManyUptoSaid : Prop := spritesManyUptoRow.holds Tryd.pinned (OpenSpec.upto spritesManySpec)

/-- 'phosphorlaw18.SpritesAway', WHERE WHAT IT READS IS OF BULK AT MOST 1048576: true; the input reads as it did. -/
def spritesAwayUptoRow : OpenClaim := { program := "ytnlohhgogdiheaadoor", sum := "8dd995a91459744e76aaea42feb9ea41953c6d900e40a039e39f31d905b22094", func := "phosphor/phosphorlaw18.SpritesAway", spec := "spritesAway", unfollowed := true, recurses := true, named := ["phosphor/sprites.heights"], apart := false, laid := [("phosphor/sprites.heights", laid_phosphor_sprites_heights)], narrowed := true }
def SpritesAwayUptoSaid : Prop := spritesAwayUptoRow.holds Tryd.pinned (OpenSpec.upto spritesAwaySpec)

end Rows
end Go.Proofs.YtnlohhgogdiheaaDoor
