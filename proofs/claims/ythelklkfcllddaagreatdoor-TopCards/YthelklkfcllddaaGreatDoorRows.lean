/-
  NARROWER THAN 'FOR EVERY INPUT', by the rows' own cells (each row's printed sentence says how): TopCards: laid.
  DERIVED. THE GIVEN ROWS OF THIS SEAT. 1 by the template 'for every input the law returns true; each argument reads behind the call as it read before'; 0 by the template 'total and deterministic' (their statements: YthelklkfcllddaaGreatDoorTotals.lean).
  GIVEN WITH THE SEED: the statements are not yours to turn. If you find one false, say at which input.
  Laid BY PROGRAM, IN A SANDBOX (cutbox-rows.mjs): the forced cells as the released guide's own fill.sh prints them over the translation 3ea35f2c4d66ed39… (all of the seat's roots in one cut). By AI agents, Wed Nov 11 2026. No macro, syntax, notation, axiom, sorry.
-/
import Derived.Test.YthelklkfcllddaaGreatDoorChecked
import GoSem.Claim
import GoSem.ClaimJoined
import GoSem.ClaimMapViews
import Derived.JoinedTies
import Derived.KernelRfl
namespace Go.Proofs.YthelklkfcllddaaGreatDoor
/- THE CELL 'sum', in the pinned program and in every row, IS THE sha256 OF THE DUMP (.gsa) THAT YthelklkfcllddaaGreatDoorProg.lean LOADS. Nothing in Lean hashes anything: it is a label: what it is worth is what the hold of that sum in a sandbox is worth. -/
noncomputable def Tryz.pinned : Pinned := { name := "ythelklkfcllddaagreatdoor", sum := "3ea35f2c4d66ed391120547d61ee5040f75457a3547d73bbcc85ef787bde443b", checked := Tryz.checked }
namespace Rows
def none {H : Type} : Left H := { results := [], args := [] }

/- WHAT THE LISTED PACKAGE-LEVEL VARIABLES READ AS WHEN THE CALL BEGINS. Each datum BY PROGRAM (the guide's laid-datum.mjs) off the statement by which the dump's own 'gosem.cut.vars' lays the variable. In a bare row this is a premise. The card (YthelklkfcllddaaGreatDoorCards.lean) ties it to the program's text. -/
def laid_phosphor_region_portPlaces {H : Type} : DataW H := .agg [.lit (.int .i64 0), .lit (.int .i64 0), .lit (.int .i64 4), .lit (.int .i64 8), .lit (.int .i64 16), .lit (.int .i64 2), .lit (.int .i64 1), .lit (.int .i64 4)]
def laid_phosphor_regs_mayHave {H : Type} : DataW H := .agg [.lit (.int .i64 65535), .lit (.int .i64 65535), .lit (.int .i64 65535), .lit (.int .i64 0), .lit (.int .i64 0), .lit (.int .i64 8191), .lit (.int .i64 1023), .lit (.int .i64 1023), .lit (.int .i64 511), .lit (.int .i64 255), .lit (.int .i64 32543), .lit (.int .i64 32639), .lit (.int .i64 65311), .lit (.int .i64 511), .lit (.int .i64 255), .lit (.int .i64 31), .lit (.int .i64 65535), .lit (.int .i64 65535), .lit (.int .i64 65535), .lit (.int .i64 65535)]
def laid_errors_errorType {H : Type} : DataW H := .iface "internal/reflectlite.rtype" (.agg [.ptr (.lit (.string [101, 114, 114, 111, 114]))])
def laid_phosphor_card_classes {H : Type} : DataW H := .agg [.agg [.lit (.int .i64 1), .lit (.int .i64 0)], .agg [.lit (.int .i64 2), .lit (.int .i64 0)], .agg [.lit (.int .i64 4), .lit (.int .i64 0)], .agg [.lit (.int .i64 8), .lit (.int .i64 0)], .agg [.lit (.int .i64 16), .lit (.int .i64 0)], .agg [.lit (.int .i64 32), .lit (.int .i64 0)], .agg [.lit (.int .i64 64), .lit (.int .i64 0)], .agg [.lit (.int .i64 128), .lit (.int .i64 0)], .agg [.lit (.int .i64 48), .lit (.int .i64 1)], .agg [.lit (.int .i64 96), .lit (.int .i64 1)], .agg [.lit (.int .i64 320), .lit (.int .i64 2)]]

/-- 'phosphortop.TopCards': WHATEVER THE INPUT: true; the input reads as it did. -/
def topCardsSpec : ChangeSpec := { name := "topCards", fn := fun _ => fun
  | [d1, d2, d3] => { results := [.lit (.bool true)], args := [d1, d2, d3] }
  | _ => none }
def topCardsRow : OpenClaim := { program := "ythelklkfcllddaagreatdoor", sum := "3ea35f2c4d66ed391120547d61ee5040f75457a3547d73bbcc85ef787bde443b", func := "phosphor/phosphortop.TopCards", spec := "topCards", inPlace := ["internal/reflectlite.ValueOf", "(internal/reflectlite.Value).Type", "(internal/reflectlite.Value).IsNil", "internal/reflectlite.TypeOf", "(internal/reflectlite.Value).Elem", "(internal/reflectlite.Value).Set"], unfollowed := true, recurses := true, named := ["phosphor/card.classes", "errors.errorType", "phosphor/region.portPlaces", "phosphor/regs.mayHave"], apart := false, laid := [("phosphor/region.portPlaces", laid_phosphor_region_portPlaces), ("phosphor/regs.mayHave", laid_phosphor_regs_mayHave), ("errors.errorType", laid_errors_errorType), ("phosphor/card.classes", laid_phosphor_card_classes)] }
def TopCardsSaid : Prop := topCardsRow.holds Tryz.pinned (OpenSpec.ofChange topCardsSpec)

/-- ITS FALSE NEIGHBOUR: 'it returns false'. Refute it at one input. -/
def topCardsWrong : ChangeSpec := { name := "topCards", fn := fun _ => fun
  | [d1, d2, d3] => { results := [.lit (.bool false)], args := [d1, d2, d3] }
  | _ => none }
def TopCardsWrongFalsely : Prop := topCardsRow.holds Tryz.pinned (OpenSpec.ofChange topCardsWrong)

/- THE SECOND FORM. 'bulk': how many values and letters a reading holds, each counted each time it is reached (what is shared counts as often as it is met; a slice's spare places count too). A statement '..UptoSaid' is the law's where the arguments, and the package variables that the reading takes, are together of bulk at most 1048576: NARROWER than '..Said'. Prove '..Said' where nothing that the law and all that it calls make is longer than what came in: it says more and counts as full. Else prove '..UptoSaid'. A law counts once. -/
mutual
def uptoBulk {H : Type} : DataW H → Nat
  | .lit (.string bytes) => bytes.length + 1
  | .lit _ => 1
  | .nil => 1
  | .ptr d => uptoBulk d + 1
  | .slice elems spare => uptoBulkAll elems + uptoBulkAll spare + 1
  | .agg parts => uptoBulkAll parts + 1
  | .iface _ d => uptoBulk d + 1
  | .map entries => uptoBulkEntries entries + 1
  | .held _ => 1
def uptoBulkAll {H : Type} : List (DataW H) → Nat
  | [] => 0
  | d :: r => uptoBulk d + uptoBulkAll r
def uptoBulkEntries {H : Type} : List (Lit × DataW H) → Nat
  | [] => 0
  | x :: r => uptoBulkEntry x + uptoBulkEntries r
def uptoBulkEntry {H : Type} : Lit × DataW H → Nat
  | (.string bytes, d) => bytes.length + uptoBulk d + 1
  | (_, d) => uptoBulk d + 1
 end
def uptoSmall : (H : Type) → List (DataW H) → Bool := fun _ ds => decide (uptoBulkAll ds ≤ 1048576)
def OpenSpec.upto (s : _root_.Go.ChangeSpec) : _root_.Go.OpenSpec := { _root_.Go.OpenSpec.ofChange s with cond := some uptoSmall }

/-- 'phosphortop.TopCards', WHERE WHAT IT READS IS OF BULK AT MOST 1048576: true; the input reads as it did. -/
def topCardsUptoRow : OpenClaim := { program := "ythelklkfcllddaagreatdoor", sum := "3ea35f2c4d66ed391120547d61ee5040f75457a3547d73bbcc85ef787bde443b", func := "phosphor/phosphortop.TopCards", spec := "topCards", inPlace := ["internal/reflectlite.ValueOf", "(internal/reflectlite.Value).Type", "(internal/reflectlite.Value).IsNil", "internal/reflectlite.TypeOf", "(internal/reflectlite.Value).Elem", "(internal/reflectlite.Value).Set"], unfollowed := true, recurses := true, named := ["phosphor/card.classes", "errors.errorType", "phosphor/region.portPlaces", "phosphor/regs.mayHave"], apart := false, laid := [("phosphor/region.portPlaces", laid_phosphor_region_portPlaces), ("phosphor/regs.mayHave", laid_phosphor_regs_mayHave), ("errors.errorType", laid_errors_errorType), ("phosphor/card.classes", laid_phosphor_card_classes)], narrowed := true }
def TopCardsUptoSaid : Prop := topCardsUptoRow.holds Tryz.pinned (OpenSpec.upto topCardsSpec)

end Rows
end Go.Proofs.YthelklkfcllddaaGreatDoor
