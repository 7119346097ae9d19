/-
  NARROWER THAN 'FOR EVERY INPUT', by the rows' own cells (each row's printed sentence says how): BanksTells: laid · BanksAll: laid · BanksShows: laid · BanksRound: laid · BanksLatches: laid.
  DERIVED. THE GIVEN ROWS OF THIS SEAT. 5 by the template 'for every input the law returns true; each argument reads behind the call as it read before'; 0 by the template 'total and deterministic' (their statements: YtemljklgjhnibaaDoorTotals.lean).
  GIVEN WITH THE SEED: the statements are not yours to turn. If you find one false, say at which input.
  Laid BY PROGRAM, IN A SANDBOX (cutbox-rows.mjs): the forced cells as the released guide's own fill.sh prints them over the translation 72500e331aa3421f… (all of the seat's roots in one cut). By AI agents, Wed Nov 11 2026. No macro, syntax, notation, axiom, sorry.
-/
import Derived.Test.YtemljklgjhnibaaDoorChecked
import GoSem.Claim
import GoSem.ClaimJoined
import GoSem.ClaimMapViews
import Derived.JoinedTies
import Derived.KernelRfl
namespace Go.Proofs.YtemljklgjhnibaaDoor
/- THE CELL 'sum', in the pinned program and in every row, IS THE sha256 OF THE DUMP (.gsa) THAT YtemljklgjhnibaaDoorProg.lean LOADS. Nothing in Lean hashes anything: it is a label: what it is worth is what the hold of that sum in a sandbox is worth. -/
noncomputable def Tryd.pinned : Pinned := { name := "ytemljklgjhnibaadoor", sum := "72500e331aa3421f5d252b5e3ca2f7973552623c41f76791dc9526517b1e1204", checked := Tryd.checked }
namespace Rows
def none {H : Type} : Left H := { results := [], args := [] }

/- WHAT THE LISTED PACKAGE-LEVEL VARIABLES READ AS WHEN THE CALL BEGINS. Each datum BY PROGRAM (the guide's laid-datum.mjs) off the statement by which the dump's own 'gosem.cut.vars' lays the variable. In a bare row this is a premise. The card (YtemljklgjhnibaaDoorCards.lean) ties it to the program's text. -/
def laid_phosphor_card_classes {H : Type} : DataW H := .agg [.agg [.lit (.int .i64 1), .lit (.int .i64 0)], .agg [.lit (.int .i64 2), .lit (.int .i64 0)], .agg [.lit (.int .i64 4), .lit (.int .i64 0)], .agg [.lit (.int .i64 8), .lit (.int .i64 0)], .agg [.lit (.int .i64 16), .lit (.int .i64 0)], .agg [.lit (.int .i64 32), .lit (.int .i64 0)], .agg [.lit (.int .i64 64), .lit (.int .i64 0)], .agg [.lit (.int .i64 128), .lit (.int .i64 0)], .agg [.lit (.int .i64 48), .lit (.int .i64 1)], .agg [.lit (.int .i64 96), .lit (.int .i64 1)], .agg [.lit (.int .i64 320), .lit (.int .i64 2)]]

/-- 'phosphorlaw04.BanksTells': WHATEVER THE INPUT: true; the input reads as it did. -/
def banksTellsSpec : ChangeSpec := { name := "banksTells", fn := fun _ => fun
  | [d1, d2, d3] => { results := [.lit (.bool true)], args := [d1, d2, d3] }
  | _ => none }
def banksTellsRow : OpenClaim := { program := "ytemljklgjhnibaadoor", sum := "72500e331aa3421f5d252b5e3ca2f7973552623c41f76791dc9526517b1e1204", func := "phosphor/phosphorlaw04.BanksTells", spec := "banksTells", unfollowed := true, recurses := true, named := ["phosphor/card.classes"], apart := false, laid := [("phosphor/card.classes", laid_phosphor_card_classes)] }
def BanksTellsSaid : Prop := banksTellsRow.holds Tryd.pinned (OpenSpec.ofChange banksTellsSpec)

/-- ITS FALSE NEIGHBOUR: 'it returns false'. Refute it at one input. -/
def banksTellsWrong : ChangeSpec := { name := "banksTells", fn := fun _ => fun
  | [d1, d2, d3] => { results := [.lit (.bool false)], args := [d1, d2, d3] }
  | _ => none }
def BanksTellsWrongFalsely : Prop := banksTellsRow.holds Tryd.pinned (OpenSpec.ofChange banksTellsWrong)

/-- 'phosphorlaw04.BanksAll': WHATEVER THE INPUT: true; the input reads as it did. -/
def banksAllSpec : ChangeSpec := { name := "banksAll", fn := fun _ => fun
  | [d1, d2] => { results := [.lit (.bool true)], args := [d1, d2] }
  | _ => none }
def banksAllRow : OpenClaim := { program := "ytemljklgjhnibaadoor", sum := "72500e331aa3421f5d252b5e3ca2f7973552623c41f76791dc9526517b1e1204", func := "phosphor/phosphorlaw04.BanksAll", spec := "banksAll", unfollowed := true, recurses := true, named := ["phosphor/card.classes"], apart := false, laid := [("phosphor/card.classes", laid_phosphor_card_classes)] }
def BanksAllSaid : Prop := banksAllRow.holds Tryd.pinned (OpenSpec.ofChange banksAllSpec)

/-- ITS FALSE NEIGHBOUR: 'it returns false'. Refute it at one input. -/
def banksAllWrong : ChangeSpec := { name := "banksAll", fn := fun _ => fun
  | [d1, d2] => { results := [.lit (.bool false)], args := [d1, d2] }
  | _ => none }
def BanksAllWrongFalsely : Prop := banksAllRow.holds Tryd.pinned (OpenSpec.ofChange banksAllWrong)

/-- 'phosphorlaw04.BanksShows': WHATEVER THE INPUT: true; the input reads as it did. -/
def banksShowsSpec : ChangeSpec := { name := "banksShows", fn := fun _ => fun
  | [d] => { results := [.lit (.bool true)], args := [d] }
  | _ => none }
def banksShowsRow : OpenClaim := { program := "ytemljklgjhnibaadoor", sum := "72500e331aa3421f5d252b5e3ca2f7973552623c41f76791dc9526517b1e1204", func := "phosphor/phosphorlaw04.BanksShows", spec := "banksShows", unfollowed := true, recurses := true, named := ["phosphor/card.classes"], apart := false, laid := [("phosphor/card.classes", laid_phosphor_card_classes)] }
def BanksShowsSaid : Prop := banksShowsRow.holds Tryd.pinned (OpenSpec.ofChange banksShowsSpec)

/-- ITS FALSE NEIGHBOUR: 'it returns false'. Refute it at one input. -/
def banksShowsWrong : ChangeSpec := { name := "banksShows", fn := fun _ => fun
  | [d] => { results := [.lit (.bool false)], args := [d] }
  | _ => none }
def BanksShowsWrongFalsely : Prop := banksShowsRow.holds Tryd.pinned (OpenSpec.ofChange banksShowsWrong)

/-- 'phosphorlaw04.BanksRound': WHATEVER THE INPUT: true; the input reads as it did. -/
def banksRoundSpec : ChangeSpec := { name := "banksRound", fn := fun _ => fun
  | [d1, d2, d3] => { results := [.lit (.bool true)], args := [d1, d2, d3] }
  | _ => none }
def banksRoundRow : OpenClaim := { program := "ytemljklgjhnibaadoor", sum := "72500e331aa3421f5d252b5e3ca2f7973552623c41f76791dc9526517b1e1204", func := "phosphor/phosphorlaw04.BanksRound", spec := "banksRound", unfollowed := true, recurses := true, named := ["phosphor/card.classes"], apart := false, laid := [("phosphor/card.classes", laid_phosphor_card_classes)] }
def BanksRoundSaid : Prop := banksRoundRow.holds Tryd.pinned (OpenSpec.ofChange banksRoundSpec)

/-- ITS FALSE NEIGHBOUR: 'it returns false'. Refute it at one input. -/
def banksRoundWrong : ChangeSpec := { name := "banksRound", fn := fun _ => fun
  | [d1, d2, d3] => { results := [.lit (.bool false)], args := [d1, d2, d3] }
  | _ => none }
def BanksRoundWrongFalsely : Prop := banksRoundRow.holds Tryd.pinned (OpenSpec.ofChange banksRoundWrong)

/-- 'phosphorlaw04.BanksLatches': WHATEVER THE INPUT: true; the input reads as it did. -/
def banksLatchesSpec : ChangeSpec := { name := "banksLatches", fn := fun _ => fun
  | [d1, d2, d3] => { results := [.lit (.bool true)], args := [d1, d2, d3] }
  | _ => none }
def banksLatchesRow : OpenClaim := { program := "ytemljklgjhnibaadoor", sum := "72500e331aa3421f5d252b5e3ca2f7973552623c41f76791dc9526517b1e1204", func := "phosphor/phosphorlaw04.BanksLatches", spec := "banksLatches", unfollowed := true, recurses := true, named := ["phosphor/card.classes"], apart := false, laid := [("phosphor/card.classes", laid_phosphor_card_classes)] }
def BanksLatchesSaid : Prop := banksLatchesRow.holds Tryd.pinned (OpenSpec.ofChange banksLatchesSpec)

/-- ITS FALSE NEIGHBOUR: 'it returns false'. Refute it at one input. -/
def banksLatchesWrong : ChangeSpec := { name := "banksLatches", fn := fun _ => fun
  | [d1, d2, d3] => { results := [.lit (.bool false)], args := [d1, d2, d3] }
  | _ => none }
def BanksLatchesWrongFalsely : Prop := banksLatchesRow.holds Tryd.pinned (OpenSpec.ofChange banksLatchesWrong)

/- THE SECOND FORM. 'bulk': how many values and letters a reading holds, each counted each time it is reached (what is shared counts as often as it is met; a slice's spare places count too). A statement '..UptoSaid' is the law's where the arguments, and the package variables that the reading takes, are together of bulk at most 1048576: NARROWER than '..Said'. Prove '..Said' where nothing that the law and all that it calls make is longer than what came in: it says more and counts as full. Else prove '..UptoSaid'. A law counts once. -/
mutual
def uptoBulk {H : Type} : DataW H → Nat
  | .lit (.string bytes) => bytes.length + 1
  | .lit _ => 1
  | .nil => 1
  | .ptr d => uptoBulk d + 1
  | .slice elems spare => uptoBulkAll elems + uptoBulkAll spare + 1
  | .agg parts => uptoBulkAll parts + 1
  | .iface _ d => uptoBulk d + 1
  | .map entries => uptoBulkEntries entries + 1
  | .held _ => 1
def uptoBulkAll {H : Type} : List (DataW H) → Nat
  | [] => 0
  | d :: r => uptoBulk d + uptoBulkAll r
def uptoBulkEntries {H : Type} : List (Lit × DataW H) → Nat
  | [] => 0
  | x :: r => uptoBulkEntry x + uptoBulkEntries r
def uptoBulkEntry {H : Type} : Lit × DataW H → Nat
  | (.string bytes, d) => bytes.length + uptoBulk d + 1
  | (_, d) => uptoBulk d + 1
 end
def uptoSmall : (H : Type) → List (DataW H) → Bool := fun _ ds => decide (uptoBulkAll ds ≤ 1048576)
def OpenSpec.upto (s : _root_.Go.ChangeSpec) : _root_.Go.OpenSpec := { _root_.Go.OpenSpec.ofChange s with cond := some uptoSmall }

/-- 'phosphorlaw04.BanksTells', WHERE WHAT IT READS IS OF BULK AT MOST 1048576: true; the input reads as it did. -/
def banksTellsUptoRow : OpenClaim := { program := "ytemljklgjhnibaadoor", sum := "72500e331aa3421f5d252b5e3ca2f7973552623c41f76791dc9526517b1e1204", func := "phosphor/phosphorlaw04.BanksTells", spec := "banksTells", unfollowed := true, recurses := true, named := ["phosphor/card.classes"], apart := false, laid := [("phosphor/card.classes", laid_phosphor_card_classes)], narrowed := true }
def BanksTellsUptoSaid : Prop := banksTellsUptoRow.holds Tryd.pinned (OpenSpec.upto banksTellsSpec)

/-- 'phosphorlaw04.BanksAll', WHERE WHAT IT READS IS OF BULK AT MOST 1048576: true; the input reads as it did. -/
def banksAllUptoRow : OpenClaim := { program := "ytemljklgjhnibaadoor", sum := "72500e331aa3421f5d252b5e3ca2f7973552623c41f76791dc9526517b1e1204", func := "phosphor/phosphorlaw04.BanksAll", spec := "banksAll", unfollowed := true, recurses := true, named := ["phosphor/card.classes"], apart := false, laid := [("phosphor/card.classes", laid_phosphor_card_classes)], narrowed := true }
def BanksAllUptoSaid : Prop := banksAllUptoRow.holds Tryd.pinned (OpenSpec.upto banksAllSpec)

/-- 'phosphorlaw04.BanksShows', WHERE WHAT IT READS IS OF BULK AT MOST 1048576: true; the input reads as it did. -/
def banksShowsUptoRow : OpenClaim := { program := "ytemljklgjhnibaadoor", sum := "72500e331aa3421f5d252b5e3ca2f7973552623c41f76791dc9526517b1e1204", func := "phosphor/phosphorlaw04.BanksShows", spec := "banksShows", unfollowed := true, recurses := true, named := ["phosphor/card.classes"], apart := false, laid := [("phosphor/card.classes", laid_phosphor_card_classes)], narrowed := true }
def BanksShowsUptoSaid : Prop := banksShowsUptoRow.holds Tryd.pinned (OpenSpec.upto banksShowsSpec)

/-- 'phosphorlaw04.BanksRound', WHERE WHAT IT READS IS OF BULK AT MOST 1048576: true; the input reads as it did. -/
def banksRoundUptoRow : OpenClaim := { program := "ytemljklgjhnibaadoor", sum := "72500e331aa3421f5d252b5e3ca2f7973552623c41f76791dc9526517b1e1204", func := "phosphor/phosphorlaw04.BanksRound", spec := "banksRound", unfollowed := true, recurses := true, named := ["phosphor/card.classes"], apart := false, laid := [("phosphor/card.classes", laid_phosphor_card_classes)], narrowed := true }
def BanksRoundUptoSaid : Prop := banksRoundUptoRow.holds Tryd.pinned (OpenSpec.upto banksRoundSpec)

/-- 'phosphorlaw04.BanksLatches', WHERE WHAT IT READS IS OF BULK AT MOST 1048576: true; the input reads as it did. -/
def banksLatchesUptoRow : OpenClaim := { program := "ytemljklgjhnibaadoor", sum := "72500e331aa3421f5d252b5e3ca2f7973552623c41f76791dc9526517b1e1204", func := "phosphor/phosphorlaw04.BanksLatches", spec := "banksLatches", unfollowed := true, recurses := true, named := ["phosphor/card.classes"], apart := false, laid := [("phosphor/card.classes", laid_phosphor_card_classes)], narrowed := true }
def BanksLatchesUptoSaid : Prop := banksLatchesUptoRow.holds Tryd.pinned (OpenSpec.upto banksLatchesSpec)

end Rows
end Go.Proofs.YtemljklgjhnibaaDoor
