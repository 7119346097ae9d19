/-
  NARROWER THAN 'FOR EVERY INPUT', by the rows' own cells (each row's printed sentence says how): CardLoads: laid · CardNobody: laid · CardHeader: laid · CardClasses: laid · CardTells: laid.
  DERIVED. THE GIVEN ROWS OF THIS SEAT. 5 by the template 'for every input the law returns true; each argument reads behind the call as it read before'; 0 by the template 'total and deterministic' (their statements: YtlildknlkjoidaaDoorTotals.lean).
  GIVEN WITH THE SEED: the statements are not yours to turn. If you find one false, say at which input.
  Laid BY PROGRAM, IN A SANDBOX (cutbox-rows.mjs): the forced cells as the released guide's own fill.sh prints them over the translation 6c82dba5f251142c… (all of the seat's roots in one cut). By AI agents, Wed Nov 11 2026. No macro, syntax, notation, axiom, sorry.
-/
import Derived.Test.YtlildknlkjoidaaDoorChecked
import GoSem.Claim
import GoSem.ClaimJoined
import GoSem.ClaimMapViews
import Derived.JoinedTies
import Derived.KernelRfl
namespace Go.Proofs.YtlildknlkjoidaaDoor
/- THE CELL 'sum', in the pinned program and in every row, IS THE sha256 OF THE DUMP (.gsa) THAT YtlildknlkjoidaaDoorProg.lean LOADS. Nothing in Lean hashes anything: it is a label: what it is worth is what the hold of that sum in a sandbox is worth. -/
noncomputable def Tryd.pinned : Pinned := { name := "ytlildknlkjoidaadoor", sum := "6c82dba5f251142ce614a1b3202e8909e2ebc567feeed393ea22af5e7a43079c", checked := Tryd.checked }
namespace Rows
def none {H : Type} : Left H := { results := [], args := [] }

/- WHAT THE LISTED PACKAGE-LEVEL VARIABLES READ AS WHEN THE CALL BEGINS. Each datum BY PROGRAM (the guide's laid-datum.mjs) off the statement by which the dump's own 'gosem.cut.vars' lays the variable. In a bare row this is a premise. The card (YtlildknlkjoidaaDoorCards.lean) ties it to the program's text. -/
def laid_errors_errorType {H : Type} : DataW H := .iface "internal/reflectlite.rtype" (.agg [.ptr (.lit (.string [101, 114, 114, 111, 114]))])
def laid_phosphor_card_classes {H : Type} : DataW H := .agg [.agg [.lit (.int .i64 1), .lit (.int .i64 0)], .agg [.lit (.int .i64 2), .lit (.int .i64 0)], .agg [.lit (.int .i64 4), .lit (.int .i64 0)], .agg [.lit (.int .i64 8), .lit (.int .i64 0)], .agg [.lit (.int .i64 16), .lit (.int .i64 0)], .agg [.lit (.int .i64 32), .lit (.int .i64 0)], .agg [.lit (.int .i64 64), .lit (.int .i64 0)], .agg [.lit (.int .i64 128), .lit (.int .i64 0)], .agg [.lit (.int .i64 48), .lit (.int .i64 1)], .agg [.lit (.int .i64 96), .lit (.int .i64 1)], .agg [.lit (.int .i64 320), .lit (.int .i64 2)]]

/-- 'phosphorlaw03.CardLoads': WHATEVER THE INPUT: true; the input reads as it did. -/
def cardLoadsSpec : ChangeSpec := { name := "cardLoads", fn := fun _ => fun
  | [d1, d2, d3] => { results := [.lit (.bool true)], args := [d1, d2, d3] }
  | _ => none }
def cardLoadsRow : OpenClaim := { program := "ytlildknlkjoidaadoor", sum := "6c82dba5f251142ce614a1b3202e8909e2ebc567feeed393ea22af5e7a43079c", func := "phosphor/phosphorlaw03.CardLoads", spec := "cardLoads", inPlace := ["internal/reflectlite.ValueOf", "(internal/reflectlite.Value).Type", "(internal/reflectlite.Value).IsNil", "internal/reflectlite.TypeOf", "(internal/reflectlite.Value).Elem", "(internal/reflectlite.Value).Set"], unfollowed := true, recurses := true, named := ["phosphor/card.classes", "errors.errorType"], apart := false, laid := [("errors.errorType", laid_errors_errorType), ("phosphor/card.classes", laid_phosphor_card_classes)] }
def CardLoadsSaid : Prop := cardLoadsRow.holds Tryd.pinned (OpenSpec.ofChange cardLoadsSpec)

/-- ITS FALSE NEIGHBOUR: 'it returns false'. Refute it at one input. -/
def cardLoadsWrong : ChangeSpec := { name := "cardLoads", fn := fun _ => fun
  | [d1, d2, d3] => { results := [.lit (.bool false)], args := [d1, d2, d3] }
  | _ => none }
def CardLoadsWrongFalsely : Prop := cardLoadsRow.holds Tryd.pinned (OpenSpec.ofChange cardLoadsWrong)

/-- 'phosphorlaw03.CardNobody': WHATEVER THE INPUT: true; the input reads as it did. -/
def cardNobodySpec : ChangeSpec := { name := "cardNobody", fn := fun _ => fun
  | [d1, d2] => { results := [.lit (.bool true)], args := [d1, d2] }
  | _ => none }
def cardNobodyRow : OpenClaim := { program := "ytlildknlkjoidaadoor", sum := "6c82dba5f251142ce614a1b3202e8909e2ebc567feeed393ea22af5e7a43079c", func := "phosphor/phosphorlaw03.CardNobody", spec := "cardNobody", named := ["phosphor/card.classes"], apart := false, laid := [("phosphor/card.classes", laid_phosphor_card_classes)] }
def CardNobodySaid : Prop := cardNobodyRow.holds Tryd.pinned (OpenSpec.ofChange cardNobodySpec)

/-- ITS FALSE NEIGHBOUR: 'it returns false'. Refute it at one input. -/
def cardNobodyWrong : ChangeSpec := { name := "cardNobody", fn := fun _ => fun
  | [d1, d2] => { results := [.lit (.bool false)], args := [d1, d2] }
  | _ => none }
def CardNobodyWrongFalsely : Prop := cardNobodyRow.holds Tryd.pinned (OpenSpec.ofChange cardNobodyWrong)

/-- 'phosphorlaw03.CardHeader': WHATEVER THE INPUT: true; the input reads as it did. -/
def cardHeaderSpec : ChangeSpec := { name := "cardHeader", fn := fun _ => fun
  | [d1, d2, d3] => { results := [.lit (.bool true)], args := [d1, d2, d3] }
  | _ => none }
def cardHeaderRow : OpenClaim := { program := "ytlildknlkjoidaadoor", sum := "6c82dba5f251142ce614a1b3202e8909e2ebc567feeed393ea22af5e7a43079c", func := "phosphor/phosphorlaw03.CardHeader", spec := "cardHeader", inPlace := ["internal/reflectlite.ValueOf", "(internal/reflectlite.Value).Type", "(internal/reflectlite.Value).IsNil", "internal/reflectlite.TypeOf", "(internal/reflectlite.Value).Elem", "(internal/reflectlite.Value).Set"], unfollowed := true, recurses := true, named := ["phosphor/card.classes", "errors.errorType"], apart := false, laid := [("errors.errorType", laid_errors_errorType), ("phosphor/card.classes", laid_phosphor_card_classes)] }
def CardHeaderSaid : Prop := cardHeaderRow.holds Tryd.pinned (OpenSpec.ofChange cardHeaderSpec)

/-- ITS FALSE NEIGHBOUR: 'it returns false'. Refute it at one input. -/
def cardHeaderWrong : ChangeSpec := { name := "cardHeader", fn := fun _ => fun
  | [d1, d2, d3] => { results := [.lit (.bool false)], args := [d1, d2, d3] }
  | _ => none }
def CardHeaderWrongFalsely : Prop := cardHeaderRow.holds Tryd.pinned (OpenSpec.ofChange cardHeaderWrong)

/-- 'phosphorlaw03.CardClasses': WHATEVER THE INPUT: true; the input reads as it did. -/
def cardClassesSpec : ChangeSpec := { name := "cardClasses", fn := fun _ => fun
  | [d] => { results := [.lit (.bool true)], args := [d] }
  | _ => none }
def cardClassesRow : OpenClaim := { program := "ytlildknlkjoidaadoor", sum := "6c82dba5f251142ce614a1b3202e8909e2ebc567feeed393ea22af5e7a43079c", func := "phosphor/phosphorlaw03.CardClasses", spec := "cardClasses", named := ["phosphor/card.classes"], apart := false, laid := [("phosphor/card.classes", laid_phosphor_card_classes)] }
def CardClassesSaid : Prop := cardClassesRow.holds Tryd.pinned (OpenSpec.ofChange cardClassesSpec)

/-- ITS FALSE NEIGHBOUR: 'it returns false'. Refute it at one input. -/
def cardClassesWrong : ChangeSpec := { name := "cardClasses", fn := fun _ => fun
  | [d] => { results := [.lit (.bool false)], args := [d] }
  | _ => none }
def CardClassesWrongFalsely : Prop := cardClassesRow.holds Tryd.pinned (OpenSpec.ofChange cardClassesWrong)

/-- 'phosphorlaw03.CardTells': WHATEVER THE INPUT: true; the input reads as it did. -/
def cardTellsSpec : ChangeSpec := { name := "cardTells", fn := fun _ => fun
  | [d1, d2] => { results := [.lit (.bool true)], args := [d1, d2] }
  | _ => none }
def cardTellsRow : OpenClaim := { program := "ytlildknlkjoidaadoor", sum := "6c82dba5f251142ce614a1b3202e8909e2ebc567feeed393ea22af5e7a43079c", func := "phosphor/phosphorlaw03.CardTells", spec := "cardTells", inPlace := ["internal/reflectlite.ValueOf", "(internal/reflectlite.Value).Type", "(internal/reflectlite.Value).IsNil", "internal/reflectlite.TypeOf", "(internal/reflectlite.Value).Elem", "(internal/reflectlite.Value).Set"], unfollowed := true, recurses := true, named := ["phosphor/card.classes", "errors.errorType"], apart := false, laid := [("errors.errorType", laid_errors_errorType), ("phosphor/card.classes", laid_phosphor_card_classes)] }
def CardTellsSaid : Prop := cardTellsRow.holds Tryd.pinned (OpenSpec.ofChange cardTellsSpec)

/-- ITS FALSE NEIGHBOUR: 'it returns false'. Refute it at one input. -/
def cardTellsWrong : ChangeSpec := { name := "cardTells", fn := fun _ => fun
  | [d1, d2] => { results := [.lit (.bool false)], args := [d1, d2] }
  | _ => none }
def CardTellsWrongFalsely : Prop := cardTellsRow.holds Tryd.pinned (OpenSpec.ofChange cardTellsWrong)

/- THE SECOND FORM. 'bulk': how many values and letters a reading holds, each counted each time it is reached (what is shared counts as often as it is met; a slice's spare places count too). A statement '..UptoSaid' is the law's where the arguments, and the package variables that the reading takes, are together of bulk at most 1048576: NARROWER than '..Said'. Prove '..Said' where nothing that the law and all that it calls make is longer than what came in: it says more and counts as full. Else prove '..UptoSaid'. A law counts once. -/
mutual
def uptoBulk {H : Type} : DataW H → Nat
  | .lit (.string bytes) => bytes.length + 1
  | .lit _ => 1
  | .nil => 1
  | .ptr d => uptoBulk d + 1
  | .slice elems spare => uptoBulkAll elems + uptoBulkAll spare + 1
  | .agg parts => uptoBulkAll parts + 1
  | .iface _ d => uptoBulk d + 1
  | .map entries => uptoBulkEntries entries + 1
  | .held _ => 1
def uptoBulkAll {H : Type} : List (DataW H) → Nat
  | [] => 0
  | d :: r => uptoBulk d + uptoBulkAll r
def uptoBulkEntries {H : Type} : List (Lit × DataW H) → Nat
  | [] => 0
  | x :: r => uptoBulkEntry x + uptoBulkEntries r
def uptoBulkEntry {H : Type} : Lit × DataW H → Nat
  | (.string bytes, d) => bytes.length + uptoBulk d + 1
  | (_, d) => uptoBulk d + 1
 end
def uptoSmall : (H : Type) → List (DataW H) → Bool := fun _ ds => decide (uptoBulkAll ds ≤ 1048576)
def OpenSpec.upto (s : _root_.Go.ChangeSpec) : _root_.Go.OpenSpec := { _root_.Go.OpenSpec.ofChange s with cond := some uptoSmall }

/-- 'phosphorlaw03.CardLoads', WHERE WHAT IT READS IS OF BULK AT MOST 1048576: true; the input reads as it did. -/
def cardLoadsUptoRow : OpenClaim := { program := "ytlildknlkjoidaadoor", sum := "6c82dba5f251142ce614a1b3202e8909e2ebc567feeed393ea22af5e7a43079c", func := "phosphor/phosphorlaw03.CardLoads", spec := "cardLoads", inPlace := ["internal/reflectlite.ValueOf", "(internal/reflectlite.Value).Type", "(internal/reflectlite.Value).IsNil", "internal/reflectlite.TypeOf", "(internal/reflectlite.Value).Elem", "(internal/reflectlite.Value).Set"], unfollowed := true, recurses := true, named := ["phosphor/card.classes", "errors.errorType"], apart := false, laid := [("errors.errorType", laid_errors_errorType), ("phosphor/card.classes", laid_phosphor_card_classes)], narrowed := true }
def CardLoadsUptoSaid : Prop := cardLoadsUptoRow.holds Tryd.pinned (OpenSpec.upto cardLoadsSpec)

/-- 'phosphorlaw03.CardNobody', WHERE WHAT IT READS IS OF BULK AT MOST 1048576: true; the input reads as it did. -/
def cardNobodyUptoRow : OpenClaim := { program := "ytlildknlkjoidaadoor", sum := "6c82dba5f251142ce614a1b3202e8909e2ebc567feeed393ea22af5e7a43079c", func := "phosphor/phosphorlaw03.CardNobody", spec := "cardNobody", named := ["phosphor/card.classes"], apart := false, laid := [("phosphor/card.classes", laid_phosphor_card_classes)], narrowed := true }
def CardNobodyUptoSaid : Prop := cardNobodyUptoRow.holds Tryd.pinned (OpenSpec.upto cardNobodySpec)

/-- 'phosphorlaw03.CardHeader', WHERE WHAT IT READS IS OF BULK AT MOST 1048576: true; the input reads as it did. -/
def cardHeaderUptoRow : OpenClaim := { program := "ytlildknlkjoidaadoor", sum := "6c82dba5f251142ce614a1b3202e8909e2ebc567feeed393ea22af5e7a43079c", func := "phosphor/phosphorlaw03.CardHeader", spec := "cardHeader", inPlace := ["internal/reflectlite.ValueOf", "(internal/reflectlite.Value).Type", "(internal/reflectlite.Value).IsNil", "internal/reflectlite.TypeOf", "(internal/reflectlite.Value).Elem", "(internal/reflectlite.Value).Set"], unfollowed := true, recurses := true, named := ["phosphor/card.classes", "errors.errorType"], apart := false, laid := [("errors.errorType", laid_errors_errorType), ("phosphor/card.classes", laid_phosphor_card_classes)], narrowed := true }
def CardHeaderUptoSaid : Prop := cardHeaderUptoRow.holds Tryd.pinned (OpenSpec.upto cardHeaderSpec)

/-- 'phosphorlaw03.CardClasses', WHERE WHAT IT READS IS OF BULK AT MOST 1048576: true; the input reads as it did. -/
def cardClassesUptoRow : OpenClaim := { program := "ytlildknlkjoidaadoor", sum := "6c82dba5f251142ce614a1b3202e8909e2ebc567feeed393ea22af5e7a43079c", func := "phosphor/phosphorlaw03.CardClasses", spec := "cardClasses", named := ["phosphor/card.classes"], apart := false, laid := [("phosphor/card.classes", laid_phosphor_card_classes)], narrowed := true }
def CardClassesUptoSaid : Prop := cardClassesUptoRow.holds Tryd.pinned (OpenSpec.upto cardClassesSpec)

/-- 'phosphorlaw03.CardTells', WHERE WHAT IT READS IS OF BULK AT MOST 1048576: true; the input reads as it did. -/
def cardTellsUptoRow : OpenClaim := { program := "ytlildknlkjoidaadoor", sum := "6c82dba5f251142ce614a1b3202e8909e2ebc567feeed393ea22af5e7a43079c", func := "phosphor/phosphorlaw03.CardTells", spec := "cardTells", inPlace := ["internal/reflectlite.ValueOf", "(internal/reflectlite.Value).Type", "(internal/reflectlite.Value).IsNil", "internal/reflectlite.TypeOf", "(internal/reflectlite.Value).Elem", "(internal/reflectlite.Value).Set"], unfollowed := true, recurses := true, named := ["phosphor/card.classes", "errors.errorType"], apart := false, laid := [("errors.errorType", laid_errors_errorType), ("phosphor/card.classes", laid_phosphor_card_classes)], narrowed := true }
def CardTellsUptoSaid : Prop := cardTellsUptoRow.holds Tryd.pinned (OpenSpec.upto cardTellsSpec)

end Rows
end Go.Proofs.YtlildknlkjoidaaDoor
