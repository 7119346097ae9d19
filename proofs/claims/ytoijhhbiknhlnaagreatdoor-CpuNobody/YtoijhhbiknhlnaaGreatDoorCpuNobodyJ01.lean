/- Texts without a word of the program, one behind the other. -/
import Derived.Laws.BitsLemmas
import Derived.WalkKit
import Derived.ProofKit
import Derived.Deep.QuietTactic
import Derived.BigQuiet
import Derived.Below
import Derived.OneCell
import Derived.Deep.Quiet
import Derived.Laws.Rows
import Derived.Laws.Tables
import Derived.Laws.CopyOwn
import Derived.Laws.ResultCell
import Derived.WalkMore
import Derived.Handy
import Derived.BigFrame
import Derived.Laws.MakeOwn
import Derived.Laws.OwnMore
import Derived.DataReads
import Derived.ChangeSlices
import Derived.Test.YtoijhhbiknhlnaaGreatDoorRows
import Derived.OpenShut
import Derived.ShutString
import Derived.ChangeOld
import Derived.Carry
import Derived.ChangeArms
import Derived.Deep.Slices
import Derived.Laws.StructEq
import Derived.Deep.MidRow
import Derived.ChangeKeysEq
import GoSem.ClaimJoined
namespace Go.Proofs.YtoijhhbiknhlnaaGreatDoor
set_option maxRecDepth 20000
end Go.Proofs.YtoijhhbiknhlnaaGreatDoor
namespace Go.Proofs.YtoijhhbiknhlnaaGreatDoor
set_option maxRecDepth 20000
open Go.RowKit
theorem hide {p : Prop} (h : p) : Hid p := h
theorem bnext {w a b : World} (h : Below w.heap.size w a) (k : Below a.heap.size a b) : Below w.heap.size w b := h.trans (k.mono h.size)
theorem ret_int {a b : Int} (h : a = b) : Ending.returned (.int .i64 a) = .returned (.int .i64 b) := by rw [h]
end Go.Proofs.YtoijhhbiknhlnaaGreatDoor
namespace Go.Proofs.YtoijhhbiknhlnaaGreatDoor
set_option maxRecDepth 20000
open Go.RowKit
end Go.Proofs.YtoijhhbiknhlnaaGreatDoor
namespace Go.Proofs.YtoijhhbiknhlnaaGreatDoor
set_option maxRecDepth 20000
open Go.RowKit
set_option linter.unusedVariables false
variable {P : Program} {md : Region.Mode} {C : World → Prop} {Q : Exit → Act → World → Prop} {H : List Oper} {o : Oper}
end Go.Proofs.YtoijhhbiknhlnaaGreatDoor
namespace Go.Proofs.YtoijhhbiknhlnaaGreatDoor
set_option maxRecDepth 20000
open Go.RowKit
set_option linter.unusedVariables false
variable {P : Program} {md : Region.Mode} {C : World → Prop} {Q : Exit → Act → World → Prop} {H : List Oper} {o : Oper}
end Go.Proofs.YtoijhhbiknhlnaaGreatDoor
namespace Go.Proofs.YtoijhhbiknhlnaaGreatDoor
set_option maxRecDepth 20000
open Go.RowKit
set_option linter.unusedVariables false
variable {P : Program} {md : Region.Mode} {H : List Oper} {C : World → Prop} {A1 : Act} {wa : World}
variable {oA oS oF : Oper} {N : Nat} {dA : Tmp}
variable {Q : Exit → Act → World → Prop} {t : TypeId} {x : Tmp}
end Go.Proofs.YtoijhhbiknhlnaaGreatDoor
namespace Go.Proofs.YtoijhhbiknhlnaaGreatDoor
set_option maxRecDepth 20000
open Go.RowKit
set_option linter.unusedVariables false
variable {P : Program} {md : Region.Mode} {H : List Oper} {A1 : Act} {wa : World} {Q : Exit → Act → World → Prop} {oA oS : Oper} {N : Nat} {dA : Tmp} {tA : TypeId} {zA : Array Value}
end Go.Proofs.YtoijhhbiknhlnaaGreatDoor
namespace Go.Proofs.YtoijhhbiknhlnaaGreatDoor
set_option maxRecDepth 20000
open Go.RowKit
set_option linter.unusedVariables false
variable {P : Program} {md : Region.Mode} {Q : Exit → Act → World → Prop} {ops : Array Oper} {A1 : Act} {wa : World}
variable {R T : List Oper} {oA o1 : Oper} {N : Nat} {dA : Tmp} {vA : Nat → Value} {t : TypeId} {row : Array Value}
end Go.Proofs.YtoijhhbiknhlnaaGreatDoor
namespace Go.Proofs.YtoijhhbiknhlnaaGreatDoor
set_option maxRecDepth 20000
open Go.RowKit
theorem results_agg_tmp {P : Program} {fn : Func} {p u : Tmp} {ty : TypeId} (h : fn.results = #[.cell p ty, .tmp u]) (tmps : Array Value) (w : World) (g : Nat) (t : TypeId) (cs : Array Value) (fr : Nat × Nat) (d : TypeDesc)
    (hp : tmps.getD p undef = .pointer (some ⟨g, 0, none⟩)) (hg : w.heap[g]? = some (.cells cs t fr))
    (hu : P.underlying ty = some d) (hd : (match d with | .struct _ | .array _ _ => true | _ => false) = true) (hi : (P.info? ty).map (·.size) = some cs.size) :
    (results fn tmps).run P w = .ok (.tuple #[.agg cs, tmps.getD u undef]) w := by
  rw [results_cell_tmp h, hp]
  simp [asAddr, Result.andThen, run_loadVar_row w g t ty cs fr d hg hu hd hi]
end Go.Proofs.YtoijhhbiknhlnaaGreatDoor
namespace Go.Proofs.YtoijhhbiknhlnaaGreatDoor
set_option maxRecDepth 20000
open Go.RowKit
set_option linter.unusedVariables false
theorem under_name {P : Program} {c : Code} {Q : Exit → Act → World → Prop} {a : Act} {w : World} (h : ∀ wa, wa = w → Code.wp P c Q a wa) : Code.wp P c Q a w := h w rfl
end Go.Proofs.YtoijhhbiknhlnaaGreatDoor
namespace Go.Proofs.YtoijhhbiknhlnaaGreatDoor
set_option maxRecDepth 20000
open Go.RowKit
set_option linter.unusedVariables false
end Go.Proofs.YtoijhhbiknhlnaaGreatDoor
namespace Go.Proofs.YtoijhhbiknhlnaaGreatDoor
set_option maxRecDepth 20000
open Go.RowKit
set_option linter.unusedVariables false
end Go.Proofs.YtoijhhbiknhlnaaGreatDoor
namespace Go.Proofs.YtoijhhbiknhlnaaGreatDoor
set_option maxRecDepth 20000
open Go.RowKit
end Go.Proofs.YtoijhhbiknhlnaaGreatDoor
namespace Go.Proofs.YtoijhhbiknhlnaaGreatDoor
set_option maxRecDepth 20000
open Go.RowKit
set_option linter.unusedVariables false
variable {P : Program} {md : Region.Mode} {Q : Exit → Act → World → Prop}
end Go.Proofs.YtoijhhbiknhlnaaGreatDoor
namespace Go.Proofs.YtoijhhbiknhlnaaGreatDoor
set_option maxRecDepth 20000
open Go.ChangeShapes Go.WideShapes Go.ChangeAt Go.RowKit
theorem laidOut : laidOutB Tryz.prog = true := by kernel_rfl
end Go.Proofs.YtoijhhbiknhlnaaGreatDoor
namespace Go.Proofs.YtoijhhbiknhlnaaGreatDoor
set_option maxRecDepth 20000
open Go.ChangeShapes Go.WideShapes Go.ChangeAt Go.RowKit
theorem open_struct_cells {H : Type} {enc : TypeId × Value → H} {P : Program} {W : World} {r : Reach} {base b0 : Nat} {sp : Nat → Bool} {held : Bool} {t : TypeId} {fs : Array Field} {n : Nat} {v : Value} {d : DataW H} {ps : List MemPlace}
    (ht : P.underlying t = some (.struct fs)) (hct : P.cellsOf t = n) (hok : Value.okWide P W r base t v) (h : DataW.Trod enc P W b0 sp held t v d ps) :
    ∃ (cs : Array Value) (fuel : Nat), v = .agg cs ∧ cs.size = n ∧ ∀ (i : Nat) (f : Field), fs[i]? = some f → ∃ y, DataW.trod enc P W b0 sp held fuel f.type ((cs.toList.drop f.offset).take (P.cellsOf f.type)) = some y := by
  obtain ⟨cs, rfl, hsz, _⟩ : ∃ cs, v = .agg cs ∧ cs.size = P.cellsOf t ∧ Row.okWide P W r base t cs := by
    simpa [Value.okWide, ht] using hok
  obtain ⟨fuel, hf⟩ := h
  obtain ⟨xs, m, _, ex, _, hl, hel⟩ := DataW.trod_struct ht hf
  refine ⟨cs, m, rfl, hsz.trans hct, fun i f hi => ?_⟩
  have g := hel i f hi
  have hlt : i < fs.size := (Array.getElem?_eq_some_iff.1 hi).1
  rw [List.getElem?_eq_getElem (by omega)] at g
  exact ⟨_, g⟩
theorem cell_at {cs : Array Value} {i k : Nat} {v : Value} (hk : k = 1) (h : (cs.toList.drop i).take k = [v]) : cs[i]? = some v := by
  subst hk
  rcases Nat.lt_or_ge i cs.size with hi | hi
  · have hi' : i < cs.toList.length := by simpa using hi
    rw [List.drop_eq_getElem_cons hi'] at h
    rw [Array.getElem?_eq_getElem hi]
    simpa using h
  · rw [List.drop_eq_nil_of_le (by simpa using hi)] at h
    simp at h
theorem cells_are {cs : Array Value} (xs : List Value) (h : cs.size = xs.length) (k : ∀ i, i < xs.length → cs[i]? = xs[i]?) : cs = xs.toArray := by
  apply Array.toList_inj.1
  apply List.ext_getElem?
  intro i
  rcases Nat.lt_or_ge i xs.length with hi | hi
  · simpa using k i hi
  · rw [List.getElem?_eq_none (by simpa using (by omega : cs.size ≤ i))]
    simp [List.getElem?_eq_none hi]
end Go.Proofs.YtoijhhbiknhlnaaGreatDoor
namespace Go.Proofs.YtoijhhbiknhlnaaGreatDoor
set_option maxRecDepth 20000
open Go.ChangeShapes Go.WideShapes Go.ChangeAt Go.RowKit
end Go.Proofs.YtoijhhbiknhlnaaGreatDoor
namespace Go.Proofs.YtoijhhbiknhlnaaGreatDoor
set_option maxRecDepth 20000
open Go.RowKit
end Go.Proofs.YtoijhhbiknhlnaaGreatDoor
namespace Go.Proofs.YtoijhhbiknhlnaaGreatDoor
set_option maxRecDepth 20000
open Go.RowKit
set_option linter.unusedVariables false
def rowF (c : Nat → Value) (N : Nat) : Array Value := ((List.range N).map c).toArray
def iv (f : Nat → Int) : Nat → Value := fun i => .int .i64 (f i)
theorem rowF_at (c : Nat → Value) (N j : Nat) (h : j < N) : (rowF c N)[j]? = some (c j) := by simp [rowF, h]
theorem rowF_list (c : Nat → Value) (N : Nat) : (rowF c N).toList = (List.range N).map c := rfl
def HasF (T : TypeId) (w : World) (b N : Nat) (c : Nat → Value) : Prop := w.heap[b]? = some (.cells (rowF c N) T (0, 0))
theorem HasF.at {T : TypeId} {w : World} {b N : Nat} {c : Nat → Value} (h : HasF T w b N c) (j : Nat) (hj : j < N) : w.cell? ⟨b, j, none⟩ = some (c j) := (cell_of_row w b j _ _ _ h).trans (rowF_at c N j hj)
theorem wpList_built {P : Program} {ops : Array Oper} {rest : List Oper} {o : Oper} {a : Act} {w : World} {Q : Exit → Act → World → Prop} (hg : o.guard = none) (t : TypeId) (parts : Array (Nat × Operand)) (ho : o.op = .build t parts)
    (vals : Array (Nat × Value)) (hp : (parts.map fun (i, x) => (i, a.eval x)) = vals) (R : Array Value) (h : ∀ w, (Instr.build t vals).run P w = .ok (.agg R) w) (hK : wpList P ops Q rest (a.put o.dst (.agg R)) w) : wpList P ops Q (o :: rest) a w :=
  wpList_plain hg fun K hK' => by
    unfold Oper.wp execOp
    simp only [ho, hp, Sem.run_bind, h, Result.andThen_ok]
    exact hK' _ _ hK
end Go.Proofs.YtoijhhbiknhlnaaGreatDoor
namespace Go.Proofs.YtoijhhbiknhlnaaGreatDoor
set_option maxRecDepth 20000
open Go
variable {P : Program} {w : World} {base : Nat} {sp : Nat → Bool} {held : Bool}
end Go.Proofs.YtoijhhbiknhlnaaGreatDoor
namespace Go.Proofs.YtoijhhbiknhlnaaGreatDoor
set_option maxRecDepth 20000
open Go.RowKit
set_option linter.unusedVariables false
variable {P : Program} {md : Region.Mode} {C : World → Prop} {Q : Exit → Act → World → Prop} {H : List Oper} {o p : Oper}
end Go.Proofs.YtoijhhbiknhlnaaGreatDoor
