/- The registers: a struct of a number and an array of 20, its row under letters; '==' of two that are the same; loads of it and of its array. -/
import Derived.Test.YtnhjhmfiapjenaaDoorBits
import Derived.Test.YtnhjhmfiapjenaaDoorGenA
import Derived.Laws.StructEq
import Derived.Laws.Rows
import Derived.Laws.Tables
import Derived.Laws.ResultCell
import Derived.Laws.CopyOwn
import Derived.Deep.Quiet
import Derived.Deep.MidRow
import Derived.BigFrame
import Derived.WalkMore
import Derived.OneCell
import Derived.Handy
namespace Go.Proofs.YtnhjhmfiapjenaaDoor.R15
open Go.RowKit
set_option linter.unusedVariables false

def rowG (s : Int) (f : Nat → Int) : Array Value := (.int .i64 s :: (List.range 20).map fun j => Value.int .i64 (f j)).toArray
theorem rowG_size (s : Int) (f : Nat → Int) : (rowG s f).size = 21 := by simp [rowG]
theorem rowG_0 (s : Int) (f : Nat → Int) : (rowG s f)[0]? = some (.int .i64 s) := by simp [rowG]
theorem rowG_at (s : Int) (f : Nat → Int) (j : Nat) (h : j < 20) : (rowG s f)[1 + j]? = some (.int .i64 (f j)) := by
  rw [show 1 + j = j + 1 by omega]
  simp [rowG, h]
/-- Block b holds such a struct. -/
def HasG (T : TypeId) (w : World) (b : Nat) (s : Int) (f : Nat → Int) : Prop := w.heap[b]? = some (.cells (rowG s f) T (0, 0))
theorem HasG.next {T : TypeId} {w w' : World} {b : Nat} {s : Int} {f : Nat → Int} (h : HasG T w b s f) (k : Below w.heap.size w w') : HasG T w' b s f := (k.block b (lt_of_block h)).trans h
theorem HasG.alloc {T : TypeId} {w : World} {b : Nat} {s : Int} {f : Nat → Int} (h : HasG T w b s f) (x : Obj) : HasG T (w.alloc x) b s f := h.next ((Below.refl _ w).alloc (Nat.le_refl _) _)
theorem hasG_new (T : TypeId) (w : World) (s : Int) (f : Nat → Int) : HasG T (w.alloc (.cells (rowG s f) T)) w.heap.size s f := heap_alloc_new _ _
theorem HasG.lt {T : TypeId} {w : World} {b : Nat} {s : Int} {f : Nat → Int} (h : HasG T w b s f) : b < w.heap.size := lt_of_block h
theorem HasG.c0 {T : TypeId} {w : World} {b : Nat} {s : Int} {f : Nat → Int} (h : HasG T w b s f) : w.cell? ⟨b, 0, none⟩ = some (.int .i64 s) := (cell_of_row w b 0 _ _ _ h).trans (rowG_0 s f)
theorem HasG.at {T : TypeId} {w : World} {b : Nat} {s : Int} {f : Nat → Int} (h : HasG T w b s f) (j : Nat) (hj : j < 20) : w.cell? ⟨b, 1 + j, none⟩ = some (.int .i64 (f j)) := (cell_of_row w b (1 + j) _ _ _ h).trans (rowG_at s f j hj)
theorem HasG.frozen {T : TypeId} {w : World} {b : Nat} {s : Int} {f : Nat → Int} (h : HasG T w b s f) (j : Nat) : w.frozen? ⟨b, j, none⟩ = false := frozen_of_row w b j _ _ h

def upd (f : Nat → Int) (i : Nat) (v : Int) : Nat → Int := fun j => if j = i then v else f j
theorem upd_same (f : Nat → Int) (i : Nat) (v : Int) : upd f i v i = v := by simp [upd]
theorem upd_other (f : Nat → Int) (i j : Nat) (v : Int) (h : ¬ j = i) : upd f i v j = f j := by simp [upd, h]
theorem rowG_set0 (s x : Int) (f : Nat → Int) : (rowG s f).setIfInBounds 0 (.int .i64 x) = rowG x f := by
  unfold rowG
  rw [List.setIfInBounds_toArray]
  rfl
theorem map_set (N i : Nat) (x : Int) (f : Nat → Int) : ((List.range N).map fun j => Value.int .i64 (f j)).set i (.int .i64 x) = (List.range N).map fun j => Value.int .i64 (upd f i x j) := by
  apply List.ext_getElem?
  intro j
  rw [List.getElem?_set]
  simp only [List.getElem?_map, List.length_map, List.length_range]
  by_cases h : i = j
  · subst h
    by_cases k : i < N
    · simp [k, upd]
    · simp [k]
  · rw [if_neg h]
    by_cases k : j < N
    · simp [k, upd, show ¬ j = i from fun e => h e.symm]
    · simp [k]
theorem rowG_set (s x : Int) (f : Nat → Int) (i : Nat) : (rowG s f).setIfInBounds (1 + i) (.int .i64 x) = rowG s (upd f i x) := by
  unfold rowG
  rw [List.setIfInBounds_toArray, show 1 + i = i + 1 by omega, List.set_cons_succ, map_set]
theorem rowG_one (s : Int) (f : Nat → Int) : (rowG s f).all (·.oneCell') = true := by
  unfold rowG
  rw [← Array.all_toList]
  simp [Value.oneCell']
theorem rowG_ext (s : Int) (f g : Nat → Int) (h : ∀ j, j < 20 → f j = g j) : rowG s f = rowG s g := by
  unfold rowG
  congr 2
  apply List.map_congr_left
  intro j hj
  rw [h j (List.mem_range.1 hj)]
theorem HasG.set0 {T : TypeId} {w : World} {b : Nat} {s : Int} {f : Nat → Int} (h : HasG T w b s f) (x : Int) : HasG T (w.setCell ⟨b, 0, none⟩ (.int .i64 x)) b x f := by
  have k := heap_setCell_same w b 0 _ _ (.int .i64 x) h
  rw [rowG_set0] at k
  exact k
theorem HasG.set {T : TypeId} {w : World} {b : Nat} {s : Int} {f : Nat → Int} (h : HasG T w b s f) (i : Nat) (x : Int) : HasG T (w.setCell ⟨b, 1 + i, none⟩ (.int .i64 x)) b s (upd f i x) := by
  have k := heap_setCell_same w b (1 + i) _ _ (.int .i64 x) h
  rw [rowG_set] at k
  exact k
theorem HasG.other {T : TypeId} {w : World} {b : Nat} {s : Int} {f : Nat → Int} (h : HasG T w b s f) (p : Addr) (v : Value) (hb : b ≠ p.block) : HasG T (w.setCell p v) b s f := (heap_setCell_other w p b v hb).trans h
theorem HasG.row {T : TypeId} {w : World} {b g : Nat} {s : Int} {f : Nat → Int} (h : HasG T w b s f) (cs : Array Value) (hb : b ≠ g) : HasG T (w.setRow g cs) b s f := (setRow_other w g b cs hb).trans h
/-- The zero value's cells. -/
def zeroG : Array Value := rowG 0 (fun _ => 0)
theorem zero_lit : (#[.int .i64 0, .int .i64 0, .int .i64 0, .int .i64 0, .int .i64 0, .int .i64 0, .int .i64 0, .int .i64 0, .int .i64 0, .int .i64 0, .int .i64 0, .int .i64 0, .int .i64 0, .int .i64 0, .int .i64 0, .int .i64 0, .int .i64 0, .int .i64 0, .int .i64 0, .int .i64 0, .int .i64 0] : Array Value) = rowG 0 (fun _ => 0) := rfl
theorem info_G (s : Int) (f : Nat → Int) : (Tryd.prog.info? 39).map (·.size) = some (rowG s f).size := by
  rw [rowG_size]
  kernel_rfl
theorem agg_0 (s : Int) (f : Nat → Int) : ((rowG s f)[0]?).getD undef = .int .i64 s := by rw [rowG_0]; rfl

/-! ### '==' -/
def listG (f : Nat → Int) : List Int := (List.range 20).map f
theorem listG_length (f : Nat → Int) : (listG f).length = 20 := by simp [listG]
theorem rowG_extract (s : Int) (f : Nat → Int) : (rowG s f).extract 1 21 = ((listG f).map (Value.int .i64)).toArray := by
  apply Array.ext_getElem?
  intro j
  rw [Array.getElem?_extract]
  have hs := rowG_size s f
  by_cases h : j < 20
  · rw [if_pos (by omega), rowG_at s f j h]
    simp [listG, h]
  · rw [if_neg (by omega)]
    exact (Array.getElem?_eq_none (by simp [listG]; omega)).symm
theorem part_0 (s : Int) (f : Nat → Int) (w : World) : (part 3 (rowG s f) 0).run Tryd.prog w = .ok (.int .i64 s) w := by
  have h := rowG_0 s f
  simp [part, isAgg, run_underlying Tryd.underlying3, h]
theorem size_tab (w : World) : (sizeOf 37).run Tryd.prog w = .ok 20 w := by
  have h : (Tryd.prog.info? 37).map (·.size) = some 20 := by kernel_rfl
  cases hq : Tryd.prog.info? 37 with
  | none => rw [hq] at h; cases h
  | some i =>
    rw [hq] at h
    have : i.size = 20 := by simpa using h
    simp [sizeOf, typeInfo, hq, this]
theorem size_int (w : World) : (sizeOf 3).run Tryd.prog w = .ok 1 w := by
  have h : (Tryd.prog.info? 3).map (·.size) = some 1 := by kernel_rfl
  cases hq : Tryd.prog.info? 3 with
  | none => rw [hq] at h; cases h
  | some i =>
    rw [hq] at h
    have : i.size = 1 := by simpa using h
    simp [sizeOf, typeInfo, hq, this]
theorem part_1 (s : Int) (f : Nat → Int) (w : World) : (part 37 (rowG s f) 1).run Tryd.prog w = .ok (.agg ((listG f).map (Value.int .i64)).toArray) w := by
  have h := rowG_extract s f
  have hs := rowG_size s f
  simp [part, isAgg, run_underlying Tryd.underlying37, h, hs]
theorem same_tab (f : Nat → Int) (d : Nat) (w : World) : (Op.equalIn (d + 2) 37 (.agg ((listG f).map (Value.int .i64)).toArray) (.agg ((listG f).map (Value.int .i64)).toArray)).run Tryd.prog w = .ok true w := by
  rw [run_equalIn_ints w d 37 3 20 Tryd.underlying37 Tryd.underlying3 size_int _ _ (listG_length f) (listG_length f), beq_self_eq_true]
theorem eqG_self (s : Int) (f : Nat → Int) (w : World) : (binOp .eql 39 (.agg (rowG s f)) (.agg (rowG s f))).run Tryd.prog w = .ok (.bool true) w := by
  rw [run_eql_struct, run_equalIn_struct w 9999 39 _ _ (by kernel_rfl) (by kernel_rfl)]
  simp only [Program.fieldsOf, Tryd.underlying39, Op.eqFields]
  have i0 : ∀ w, (Op.equalIn 9999 3 (.int .i64 s) (.int .i64 s)).run Tryd.prog w = .ok true w := fun w => by
    rw [run_equalIn_int w 9998 3 .i64 .i64 _ _ Tryd.underlying3]
    simp
  have i1 := same_tab f 9997
  simp [Sem.run_bind, part_0, part_1, i0, i1]
theorem eqT_self (f : Nat → Int) (w : World) : (binOp .eql 37 (.agg ((listG f).map (Value.int .i64)).toArray) (.agg ((listG f).map (Value.int .i64)).toArray)).run Tryd.prog w = .ok (.bool true) w := by
  rw [run_eql_ints w 37 3 20 Tryd.underlying37 Tryd.underlying3 size_int _ _ (listG_length f) (listG_length f), beq_self_eq_true]

/-! ### Loads -/
theorem HasG.range {T : TypeId} {w : World} {b : Nat} {s : Int} {f : Nat → Int} (h : HasG T w b s f) : w.rangeAt b 1 ((listG f).map (Value.int .i64)) := by
  intro j v hv
  obtain ⟨hj, he⟩ := List.getElem?_eq_some_iff.1 hv
  have h5 : j < 20 := by simpa [listG_length] using hj
  rw [h.at j h5, ← he]
  simp [listG]
theorem info_T (f : Nat → Int) : (Tryd.prog.info? 37).map (·.size) = some ((listG f).map (Value.int .i64)).length := by
  rw [List.length_map, listG_length]
  kernel_rfl
theorem wpList_mid_want {P : Program} {ops : Array Oper} {rest : List Oper} {op : Oper} {a : Act} {w : World} {Q : Exit → Act → World → Prop} (hw : Region.wanted op (yielded ops a.tmps) = true) (ty : TypeId) (x : Operand) (ho : op.op = .load ty x)
    (b o : Nat) (hx : a.eval x = .pointer (some ⟨b, o, none⟩)) (cs : List Value) (d : TypeDesc) (hc : w.rangeAt b o cs)
    (hu : P.underlying ty = some d) (hd : d.isRow = true) (hi : (P.info? ty).map (·.size) = some cs.length)
    (h : wpList P ops Q rest (a.put op.dst (.agg cs.toArray)) w) : wpList P ops Q (op :: rest) a w :=
  BigFrame.wpList_want hw fun _ hK => wp_load_mid ty x ho b o hx cs d hc hu hd hi (hK _ _ h)
/-- A load of a whole row that is guarded, and wanted. -/
theorem wpList_load_want {P : Program} {ops : Array Oper} {rest : List Oper} {o : Oper} {a : Act} {w : World} {Q : Exit → Act → World → Prop} (hw : Region.wanted o (yielded ops a.tmps) = true) (ty : TypeId) (x : Operand) (ho : o.op = .load ty x)
    (g : Nat) (hx : a.eval x = .pointer (some ⟨g, 0, none⟩)) (t : TypeId) (cs : Array Value) (fr : Nat × Nat) (d : TypeDesc) (hg : w.heap[g]? = some (.cells cs t fr))
    (hu : P.underlying ty = some d) (hd : (match d with | .struct _ | .array _ _ => true | _ => false) = true) (hi : (P.info? ty).map (·.size) = some cs.size)
    (h : wpList P ops Q rest (a.put o.dst (.agg cs)) w) : wpList P ops Q (o :: rest) a w :=
  BigFrame.wpList_want hw fun _ hK => wp_load_row ty x ho g hx t cs fr d hg hu hd hi (hK _ _ h)
theorem wpQuiet_row {P : Program} {ops : Array Oper} {C : World → Prop} {Q : Act → Prop} {a : Act} {o : Oper} {rest : List Oper} (hw : Region.wanted o (yielded ops a.tmps) = true) (ty : TypeId) (x : Operand) (ho : o.op = .load ty x)
    (g : Nat) (hx : a.eval x = .pointer (some ⟨g, 0, none⟩)) (t : TypeId) (cs : Array Value) (fr : Nat × Nat) (d : TypeDesc) (hg : ∀ w, C w → w.heap[g]? = some (.cells cs t fr))
    (hu : P.underlying ty = some d) (hd : (match d with | .struct _ | .array _ _ => true | _ => false) = true) (hi : (P.info? ty).map (·.size) = some cs.size)
    (h : wpQuiet P ops C Q rest (a.put o.dst (.agg cs))) : wpQuiet P ops C Q (o :: rest) a := by
  unfold wpQuiet
  rw [if_pos hw]
  refine ⟨.agg cs, fun w hC => ?_, h⟩
  unfold Oper.quietAt execOp
  simp only [ho, hx, Instr.loadAt, Instr.sureAddr, Sem.run_bind, Sem.run_pure, Result.andThen_ok, run_loadVar_row w g t ty cs fr d (hg w hC) hu hd hi]
  exact ⟨rfl, rfl⟩
/-- An element of the array, by a number under a letter. -/
theorem tab_index (f : Nat → Int) (k : Nat) (hk : k < 20) (w : World) : (Instr.index 37 (.agg ((listG f).map (Value.int .i64)).toArray) (.int .i64 (k : Int))).run Tryd.prog w = .ok (.int .i64 (f k)) w := by
  have e : ((listG f).map (Value.int .i64)).toArray[k]? = some (.int .i64 (f k)) := by simp [listG, hk]
  have h0 : (0 : Int) ≤ k ∧ (k : Int) < ((20 : Nat) : Int) := by omega
  have h1 : (k : Int) < 20 := by omega
  have hs := size_int w
  generalize ((listG f).map (Value.int .i64)).toArray = cs at e ⊢
  simp only [Instr.index, asIntOf, part]
  simp only [run_underlying Tryd.underlying37, Sem.run_bind, Result.andThen]
  simp [h0, h1, hs, e, isAgg, run_underlying Tryd.underlying3, Result.andThen]
end Go.Proofs.YtnhjhmfiapjenaaDoor.R15
