/- Rows of values under a letter, whatever their length: cells, loads, stores, parts, '=='. No word of the program is in it. -/
import Derived.Test.YtbkecffdejafcaaDoorKit
import Derived.Test.YtbkecffdejafcaaDoorKept
import Derived.Test.YtbkecffdejafcaaDoorRets
import Derived.Test.YtbkecffdejafcaaDoorNamed
import Derived.Laws.StructEq
import Derived.Laws.Rows
import Derived.Laws.Tables
import Derived.Laws.ResultCell
import Derived.Laws.CopyOwn
import Derived.Deep.Quiet
import Derived.Deep.MidRow
import Derived.ChangeKeysEq
import Derived.BigFrame
import Derived.WalkMore
import Derived.OneCell
import Derived.Handy
namespace Go.Proofs.YtbkecffdejafcaaDoor
open Go.RowKit
set_option linter.unusedVariables false

def rowF (c : Nat → Value) (N : Nat) : Array Value := ((List.range N).map c).toArray
def iv (f : Nat → Int) : Nat → Value := fun i => .int .i64 (f i)
def updC (c : Nat → Value) (i : Nat) (v : Value) : Nat → Value := fun j => if j = i then v else c j
def up (f : Nat → Int) (i : Nat) (v : Int) : Nat → Int := fun j => if j = i then v else f j
theorem up_same (f : Nat → Int) (i : Nat) (v : Int) : up f i v i = v := by simp [up]
theorem up_other (f : Nat → Int) (i j : Nat) (v : Int) (h : ¬ j = i) : up f i v j = f j := by simp [up, h]
theorem updC_iv (f : Nat → Int) (i : Nat) (v : Int) : updC (iv f) i (.int .i64 v) = iv (up f i v) := by
  funext j
  simp only [updC, iv, up]
  split <;> rfl
theorem rowF_size (c : Nat → Value) (N : Nat) : (rowF c N).size = N := by simp [rowF]
theorem rowF_at (c : Nat → Value) (N j : Nat) (h : j < N) : (rowF c N)[j]? = some (c j) := by simp [rowF, h]
theorem rowF_none (c : Nat → Value) (N j : Nat) (h : ¬ j < N) : (rowF c N)[j]? = none := Array.getElem?_eq_none (by rw [rowF_size]; omega)
theorem rowF_ext {c d : Nat → Value} {N : Nat} (h : ∀ j, j < N → c j = d j) : rowF c N = rowF d N := by
  unfold rowF
  congr 1
  apply List.map_congr_left
  intro j hj
  exact h j (List.mem_range.1 hj)
theorem rowF_set (c : Nat → Value) (N i : Nat) (v : Value) : (rowF c N).setIfInBounds i v = rowF (updC c i v) N := by
  apply Array.ext_getElem?
  intro j
  rw [Array.getElem?_setIfInBounds, rowF_size]
  by_cases k : j < N
  · rw [rowF_at _ _ _ k, rowF_at _ _ _ k]
    by_cases e : i = j
    · subst e; simp [k, updC]
    · rw [if_neg e]; simp [updC, show ¬ j = i from fun h => e h.symm]
  · rw [rowF_none _ _ _ k, rowF_none _ _ _ k]
    by_cases e : i = j
    · subst e; simp [k]
    · rw [if_neg e]
theorem rowF_part (c : Nat → Value) (N o M : Nat) (h : o + M ≤ N) : (rowF c N).extract o (o + M) = rowF (fun j => c (o + j)) M := by
  apply Array.ext_getElem?
  intro j
  rw [Array.getElem?_extract, rowF_size]
  by_cases k : j < M
  · rw [if_pos (by omega), rowF_at _ _ _ (by omega), rowF_at _ _ _ k]
  · rw [if_neg (by omega), rowF_none _ _ _ k]
theorem rowF_one (f : Nat → Int) (N : Nat) : (rowF (iv f) N).all (·.oneCell') = true := by
  unfold rowF iv
  rw [← Array.all_toList]
  simp [Value.oneCell']
theorem rowF_all {c : Nat → Value} {N : Nat} (h : ∀ j, j < N → (c j).oneCell' = true) : (rowF c N).all (·.oneCell') = true := by
  unfold rowF
  rw [← Array.all_toList, List.all_eq_true]
  intro v hv
  obtain ⟨j, hj, rfl⟩ := List.mem_map.1 hv
  exact h j (List.mem_range.1 hj)
theorem rowF_list (c : Nat → Value) (N : Nat) : (rowF c N).toList = (List.range N).map c := rfl
theorem rowF_zero (N : Nat) : rowF (iv fun _ => 0) N = (List.replicate N (Value.int .i64 0)).toArray := by
  unfold rowF
  congr 1
  exact List.eq_replicate_iff.2 ⟨by simp, fun v hv => by obtain ⟨j, _, rfl⟩ := List.mem_map.1 hv; rfl⟩

/-- Block b holds such a row. -/
def HasF (T : TypeId) (w : World) (b N : Nat) (c : Nat → Value) : Prop := w.heap[b]? = some (.cells (rowF c N) T (0, 0))
theorem HasF.lt {T : TypeId} {w : World} {b N : Nat} {c : Nat → Value} (h : HasF T w b N c) : b < w.heap.size := lt_of_block h
theorem HasF.next {T : TypeId} {w : World} {b N : Nat} {c : Nat → Value} (h : HasF T w b N c) {w' : World} (k : Below w.heap.size w w') : HasF T w' b N c := (k.block b (lt_of_block h)).trans h
theorem HasF.at {T : TypeId} {w : World} {b N : Nat} {c : Nat → Value} (h : HasF T w b N c) (j : Nat) (hj : j < N) : w.cell? ⟨b, j, none⟩ = some (c j) := (cell_of_row w b j _ _ _ h).trans (rowF_at c N j hj)
theorem HasF.int {T : TypeId} {w : World} {b N : Nat} {f : Nat → Int} (h : HasF T w b N (iv f)) (j : Nat) (hj : j < N) : w.cell? ⟨b, j, none⟩ = some (.int .i64 (f j)) := h.at j hj
theorem HasF.frozen {T : TypeId} {w : World} {b N : Nat} {c : Nat → Value} (h : HasF T w b N c) (j : Nat) : w.frozen? ⟨b, j, none⟩ = false := frozen_of_row w b j _ _ h
theorem HasF.ext {T : TypeId} {w : World} {b N : Nat} {c : Nat → Value} (h : HasF T w b N c) {d : Nat → Value} (e : ∀ j, j < N → c j = d j) : HasF T w b N d := by
  unfold HasF
  rw [← rowF_ext e]
  exact h
theorem HasF.set {T : TypeId} {w : World} {b N : Nat} {c : Nat → Value} (h : HasF T w b N c) (i : Nat) (v : Value) : HasF T (w.setCell ⟨b, i, none⟩ v) b N (updC c i v) := by
  have e := heap_setCell_same w b i _ _ v h
  rw [rowF_set] at e
  exact e
theorem HasF.up {T : TypeId} {w : World} {b N : Nat} {f : Nat → Int} (h : HasF T w b N (iv f)) (i : Nat) (v : Int) : HasF T (w.setCell ⟨b, i, none⟩ (.int .i64 v)) b N (iv (up f i v)) := by
  have k := h.set i (.int .i64 v)
  rw [updC_iv] at k
  exact k
theorem HasF.other {T : TypeId} {w : World} {b N : Nat} {c : Nat → Value} (h : HasF T w b N c) (p : Addr) (v : Value) (hb : b ≠ p.block) : HasF T (w.setCell p v) b N c := (heap_setCell_other w p b v hb).trans h
theorem HasF.row {T : TypeId} {w : World} {b N : Nat} {c : Nat → Value} (h : HasF T w b N c) {g : Nat} (cs : Array Value) (hb : b ≠ g) : HasF T (w.setRow g cs) b N c := (setRow_other w g b cs hb).trans h
theorem hasF_new (T : TypeId) (w : World) (N : Nat) (c : Nat → Value) : HasF T (w.alloc (.cells (rowF c N) T)) w.heap.size N c := heap_alloc_new _ _
theorem hasF_new2 (T : TypeId) (w : World) (x : Obj) (N : Nat) (c : Nat → Value) : HasF T ((w.alloc x).alloc (.cells (rowF c N) T)) (w.heap.size + 1) N c := by
  have h := hasF_new T (w.alloc x) N c
  rw [show (w.alloc x).heap.size = w.heap.size + 1 by simp] at h
  exact h
theorem HasF.range {T : TypeId} {w : World} {b N : Nat} {c : Nat → Value} (h : HasF T w b N c) (o M : Nat) (hM : o + M ≤ N) : w.rangeAt b o (rowF (fun j => c (o + j)) M).toList := by
  intro j v hv
  rw [rowF_list] at hv
  obtain ⟨hj, e⟩ := List.getElem?_eq_some_iff.1 hv
  have hj2 : j < M := by simpa using hj
  rw [h.at (o + j) (by omega), ← e]
  simp
theorem HasF.there {T : TypeId} {w : World} {b N : Nat} {c : Nat → Value} (h : HasF T w b N c) (o M : Nat) (hM : o + M ≤ N) : w.there b o M := fun j hj => ⟨by rw [h.at (o + j) (by omega)]; rfl, h.frozen _⟩
/-- A part of a row laid anew. -/
theorem hasF_cells (b N : Nat) (T : TypeId) : ∀ (vs : List Value) (o : Nat) (w : World) (c : Nat → Value), HasF T w b N c → HasF T (w.setCells b o vs) b N (fun j => if o ≤ j ∧ j < o + vs.length then vs.getD (j - o) undef else c j)
  | [], o, w, c, h => h.ext fun j _ => by rw [if_neg (by simp)]
  | v :: vs, o, w, c, h => (hasF_cells b N T vs (o + 1) _ _ (h.set o v)).ext fun j _ => by
    by_cases e : j = o
    · subst e
      rw [if_neg (by omega), if_pos (by simp)]
      simp [updC]
    · by_cases k : o ≤ j ∧ j < o + (v :: vs).length
      · rw [if_pos (by simp at k; omega), if_pos k, show j - o = (j - (o + 1)) + 1 by omega]
        simp
      · rw [if_neg (by simp at k; omega), if_neg k]
        simp [updC, e]
theorem HasF.cells {T : TypeId} {w : World} {b N : Nat} {c : Nat → Value} (h : HasF T w b N c) (o M : Nat) (d : Nat → Value) : HasF T (w.setCells b o (rowF d M).toList) b N (fun j => if o ≤ j ∧ j < o + M then d (j - o) else c j) :=
  (hasF_cells b N T _ o w c h).ext fun j _ => by
    rw [rowF_list]
    simp only [List.length_map, List.length_range]
    by_cases k : o ≤ j ∧ j < o + M
    · rw [if_pos k, if_pos k]
      simp [List.getD, show j - o < M by omega]
    · rw [if_neg k, if_neg k]
/-- All blocks that there were are as they were, but for one. -/
def But (b : Nat) (w w' : World) : Prop := w'.os = w.os ∧ w'.tape = w.tape ∧ w'.output = w.output ∧ w.heap.size ≤ w'.heap.size ∧ ∀ k, k < w.heap.size → k ≠ b → w'.heap[k]? = w.heap[k]?
theorem But.of {b : Nat} {w w' : World} (h : Below w.heap.size w w') : But b w w' := ⟨h.os, h.tape, h.output, h.size, fun k hk _ => h.block k hk⟩
theorem But.refl (b : Nat) (w : World) : But b w w := But.of (Below.refl _ _)
theorem But.size {b : Nat} {w w' : World} (h : But b w w') : w.heap.size ≤ w'.heap.size := h.2.2.2.1
theorem But.block {b : Nat} {w w' : World} (h : But b w w') (k : Nat) (hk : k < w.heap.size) (hb : k ≠ b) : w'.heap[k]? = w.heap[k]? := h.2.2.2.2 k hk hb
theorem But.trans {b : Nat} {w1 w2 w3 : World} (h : But b w1 w2) (k : But b w2 w3) : But b w1 w3 :=
  ⟨k.1.trans h.1, k.2.1.trans h.2.1, k.2.2.1.trans h.2.2.1, Nat.le_trans h.size k.size, fun i hi hb => (k.block i (Nat.lt_of_lt_of_le hi h.size) hb).trans (h.block i hi hb)⟩
theorem But.set {b : Nat} {w w' : World} (h : But b w w') (o : Nat) (v : Value) : But b w (w'.setCell ⟨b, o, none⟩ v) :=
  ⟨h.1, h.2.1, h.2.2.1, by have := h.size; simpa [World.setCell] using this, fun k hk hE => (Below.heap_setCell _ _ _ _ fun e => hE e).trans (h.block k hk hE)⟩
theorem But.cells {b : Nat} {w : World} : ∀ (vs : List Value) (o : Nat) (w' : World), But b w w' → But b w (w'.setCells b o vs)
  | [], _, _, h => h
  | v :: vs, o, w', h => But.cells vs (o + 1) _ (h.set o v)
theorem But.below {b B : Nat} {w w' : World} (h : But b w w') (hb : B ≤ b) (hB : B ≤ w.heap.size) : Below B w w' :=
  ⟨h.1, h.2.1, h.2.2.1, h.size, fun k hk => h.block k (Nat.lt_of_lt_of_le hk hB) fun e => by omega⟩
theorem But.obj {b c : Nat} {w w' : World} {o : Obj} (h : But b w w') (k : w.heap[c]? = some o) (hc : c ≠ b) : w'.heap[c]? = some o := (h.block c (lt_of_block k) hc).trans k
theorem But.drew {b : Nat} {w w' : World} (h : But b w w') : But b w w'.drew := h.trans ⟨rfl, rfl, rfl, Nat.le_refl _, fun _ _ _ => rfl⟩
theorem But.drewN {b : Nat} {w w' : World} (h : But b w w') (n : Nat) : But b w (w'.drewN n) := h.trans ⟨rfl, rfl, rfl, Nat.le_refl _, fun _ _ _ => rfl⟩
theorem up_up (f : Nat → Int) (i : Nat) (u v : Int) : up (up f i u) i v = up f i v := by
  funext j
  simp only [up]
  split <;> rfl
theorem But.keep {b : Nat} {w w' : World} (h : But b w w') {T : TypeId} {g N : Nat} {c : Nat → Value} (k : HasF T w g N c) (hc : g ≠ b) : HasF T w' g N c := h.obj k hc
theorem But.andBelow {b : Nat} {w a c : World} (h : But b w a) (k : Below a.heap.size a c) : But b w c := h.trans (But.of k)
theorem bbut {B b : Nat} {w a c : World} (h : Below B w a) (k : But b a c) (hb : B ≤ b) (hB : B ≤ w.heap.size) : Below B w c := h.trans (k.below hb (Nat.le_trans hB h.size))
theorem below_cells {B : Nat} {w a : World} {b : Nat} (h : Below B w a) (hb : B ≤ b) (hB : B ≤ w.heap.size) (o : Nat) (vs : List Value) : Below B w (a.setCells b o vs) := bbut h (But.cells vs o a (But.refl b a)) hb hB
/-- Blocks of two types are two. -/
theorem types_two {w : World} {g h : Nat} {c d : Array Value} {t s : TypeId} {p q : Nat × Nat} (h1 : w.heap[g]? = some (.cells c t p)) (h2 : w.heap[h]? = some (.cells d s q)) (n : t ≠ s) : g ≠ h := by
  intro e
  subst e
  have k := h1.symm.trans h2
  simp at k
  exact n k.2.1

/-! ### Steps of the walk -/
theorem wpList_alloced {P : Program} {ops : Array Oper} {rest : List Oper} {o : Oper} {a : Act} {w : World} {Q : Exit → Act → World → Prop} (hg : o.guard = none) (t : TypeId) (ho : o.op = .alloc t) (R : Array Value) (h : ∀ w, (zeroValue t).run P w = .ok (.agg R) w)
    (hK : wpList P ops Q rest (a.put o.dst (.pointer (some ⟨w.heap.size, 0, none⟩))) (w.alloc (.cells R t))) : wpList P ops Q (o :: rest) a w :=
  wpList_plain hg fun K hK' => by
    have e : (Instr.alloc t true (.tuple #[])).run P w = .ok (.pointer (some ⟨w.heap.size, 0, none⟩)) (w.alloc (.cells R t)) := by
      unfold Instr.alloc
      simp only [Sem.run_bind, h, Result.andThen_ok]
      rfl
    unfold Oper.wp execOp
    simp only [ho, Sem.run_bind, e, Result.andThen_ok]
    exact hK' _ _ hK
theorem wpList_built {P : Program} {ops : Array Oper} {rest : List Oper} {o : Oper} {a : Act} {w : World} {Q : Exit → Act → World → Prop} (hg : o.guard = none) (t : TypeId) (parts : Array (Nat × Operand)) (ho : o.op = .build t parts)
    (vals : Array (Nat × Value)) (hp : (parts.map fun (i, x) => (i, a.eval x)) = vals) (R : Array Value) (h : ∀ w, (Instr.build t vals).run P w = .ok (.agg R) w) (hK : wpList P ops Q rest (a.put o.dst (.agg R)) w) : wpList P ops Q (o :: rest) a w :=
  wpList_plain hg fun K hK' => by
    unfold Oper.wp execOp
    simp only [ho, hp, Sem.run_bind, h, Result.andThen_ok]
    exact hK' _ _ hK
theorem wpList_load_ints {P : Program} {ops : Array Oper} {rest : List Oper} {op : Oper} {a : Act} {w : World} {Q : Exit → Act → World → Prop} (hgd : op.guard = none) (ty : TypeId) (x : Operand) (ho : op.op = .load ty x)
    (b o : Nat) (hx : a.eval x = .pointer (some ⟨b, o, none⟩)) {T : TypeId} {N : Nat} {f : Nat → Int} (h : HasF T w b N (iv f)) (M : Nat) (hM : o + M ≤ N) (d : TypeDesc) (hu : P.underlying ty = some d) (hd : d.isRow = true) (hi : (P.info? ty).map (·.size) = some M)
    (hK : wpList P ops Q rest (a.put op.dst (.agg (rowF (iv fun j => f (o + j)) M))) w) : wpList P ops Q (op :: rest) a w := by
  refine wpList_load_mid hgd ty x ho b o hx (rowF (iv fun j => f (o + j)) M).toList d (h.range o M hM) hu hd ?_ hK
  rw [Array.length_toList, rowF_size]
  exact hi
theorem wpList_load_part {P : Program} {ops : Array Oper} {rest : List Oper} {op : Oper} {a : Act} {w : World} {Q : Exit → Act → World → Prop} (hgd : op.guard = none) (ty : TypeId) (x : Operand) (ho : op.op = .load ty x)
    (b o : Nat) (hx : a.eval x = .pointer (some ⟨b, o, none⟩)) {T : TypeId} {N : Nat} {c : Nat → Value} (h : HasF T w b N c) (M : Nat) (hM : o + M ≤ N) (e : Nat → Value) (he : ∀ j, j < M → c (o + j) = e j) (d : TypeDesc) (hu : P.underlying ty = some d) (hd : d.isRow = true) (hi : (P.info? ty).map (·.size) = some M)
    (hK : wpList P ops Q rest (a.put op.dst (.agg (rowF e M))) w) : wpList P ops Q (op :: rest) a w := by
  refine wpList_load_mid hgd ty x ho b o hx (rowF e M).toList d ?_ hu hd ?_ hK
  · rw [← rowF_ext he]
    exact h.range o M hM
  · rw [Array.length_toList, rowF_size]
    exact hi
theorem wpList_store_part {P : Program} {ops : Array Oper} {rest : List Oper} {op : Oper} {a : Act} {w : World} {Q : Exit → Act → World → Prop} (hgd : op.guard = none) (ty : TypeId) (x y : Operand) (ho : op.op = .store ty x y)
    (b o M : Nat) (e : Nat → Value) (hx : a.eval x = .pointer (some ⟨b, o, none⟩)) (hy : a.eval y = .agg (rowF e M)) {T : TypeId} {N : Nat} {c : Nat → Value} (h : HasF T w b N c) (hM : o + M ≤ N) (hi : (P.info? ty).map (·.size) = some M) (h1 : ∀ j, j < M → (e j).oneCell' = true)
    (hK : wpList P ops Q rest (a.put op.dst undef) (w.setCells b o (rowF e M).toList)) : wpList P ops Q (op :: rest) a w := by
  refine wpList_store_mid hgd ty x y ho b o (rowF e M) hx hy ?_ ?_ (rowF_all h1) hK
  · rw [rowF_size]
    exact h.there o M hM
  · rw [rowF_size]
    exact hi
/-! ### Parts and '==' -/
theorem part_int {P : Program} {t : TypeId} {k : IntKind} (ht : P.underlying t = some (.int k)) (f : Nat → Int) (N i : Nat) (hi : i < N) (w : World) : (part t (rowF (iv f) N) i).run P w = .ok (.int .i64 (f i)) w := by
  have h := rowF_at (iv f) N i hi
  simp [part, isAgg, run_underlying ht, h, iv]
theorem size_of {P : Program} {t : TypeId} {n : Nat} (h : (P.info? t).map (·.size) = some n) (w : World) : (sizeOf t).run P w = .ok n w := by
  cases hq : P.info? t with
  | none => rw [hq] at h; cases h
  | some i =>
    rw [hq] at h
    have : i.size = n := by simpa using h
    simp [sizeOf, typeInfo, hq, this]
theorem part_row {P : Program} {t : TypeId} {d : TypeDesc} (ht : P.underlying t = some d) (hd : d.isRow = true) {M : Nat} (hs : (P.info? t).map (·.size) = some M) (c : Nat → Value) (N o : Nat) (h : o + M ≤ N) (w : World) :
    (part t (rowF c N) o).run P w = .ok (.agg (rowF (fun j => c (o + j)) M)) w := by
  have e := rowF_part c N o M h
  have z := size_of hs w
  have hagg : (isAgg t).run P w = .ok true w := by
    unfold isAgg
    rw [Sem.run_bind, run_underlying ht w]
    cases d <;> simp_all
  simp [part, hagg, z, e, Sem.run_bind, Result.andThen]
theorem eqItems_self {P : Program} (d : Nat) {e : TypeId} {c : Nat} {xs : Array Value} : ∀ (is : List Nat) (w : World), (∀ i ∈ is, ∃ a, (part e xs (i * c)).run P w = .ok a w ∧ (Op.equalIn d e a a).run P w = .ok true w) → (Op.eqItems d e c xs xs is).run P w = .ok true w
  | [], w, _ => by simp [Op.eqItems]
  | i :: is, w, h => by
    obtain ⟨a, h1, h2⟩ := h i (by simp)
    simp only [Op.eqItems, Sem.run_bind, h1, h2, Result.andThen_ok]
    simpa using eqItems_self d is w fun j hj => h j (by simp [hj])
theorem eqFields_self {P : Program} (d : Nat) {xs : Array Value} : ∀ (fs : List Field) (w : World), (∀ f ∈ fs, ∃ a, (part f.type xs f.offset).run P w = .ok a w ∧ (Op.equalIn d f.type a a).run P w = .ok true w) → (Op.eqFields d xs xs fs).run P w = .ok true w
  | [], w, _ => by simp [Op.eqFields]
  | f :: fs, w, h => by
    obtain ⟨a, h1, h2⟩ := h f (by simp)
    have ih := eqFields_self d fs w fun g hg => h g (by simp [hg])
    unfold Op.eqFields
    split
    · simp only [Sem.run_bind, h1, h2, Result.andThen_ok]
      simpa using ih
    · exact ih
/-- A row of integers is the same as itself. -/
theorem same_ints {P : Program} {t e : TypeId} {n : Nat} {k : IntKind} (ht : P.underlying t = some (.array n e)) (he : P.underlying e = some (.int k)) {i : TypeInfo} (hi : P.info? e = some i) (hc : P.cellsOf e = 1) (f : Nat → Int) (d : Nat) (w : World) :
    (Op.equalIn (d + 2) t (.agg (rowF (iv f) n)) (.agg (rowF (iv f) n))).run P w = .ok true w := by
  rw [run_equalIn_array w (d + 1) _ _ ht hi, hc]
  refine eqItems_self _ _ w fun j hj => ⟨.int .i64 (f j), ?_, ?_⟩
  · rw [Nat.mul_one]
    exact part_int he f n j (List.mem_range.1 hj) w
  · rw [run_equalIn_int w d e .i64 k _ _ he]
    simp
/-- A struct's cells are those of its fields: an integer, or a part. -/
theorem same_struct {P : Program} {t : TypeId} {fs : Array Field} (ht : P.underlying t = some (.struct fs)) (hp : P.stoodInHeld t = false) {xs : Array Value} (d : Nat) (w : World)
    (h : ∀ f ∈ fs.toList, ∃ a, (part f.type xs f.offset).run P w = .ok a w ∧ (Op.equalIn d f.type a a).run P w = .ok true w) : (Op.equalIn (d + 1) t (.agg xs) (.agg xs)).run P w = .ok true w := by
  have e : P.fieldsOf t = fs := by simp [Program.fieldsOf, ht]
  rw [run_equalIn_struct w d t xs xs (by rw [e]; exact ht) hp, e]
  exact eqFields_self d _ w h
theorem eql_true {P : Program} {t : TypeId} {xs : Array Value} (w : World) (h : (Op.equalIn 10000 t (.agg xs) (.agg xs)).run P w = .ok true w) : (binOp .eql t (.agg xs) (.agg xs)).run P w = .ok (.bool true) w := by
  rw [run_eql_struct, h]
  rfl
theorem neq_false {P : Program} {t : TypeId} {xs : Array Value} (w : World) (h : (Op.equalIn 10000 t (.agg xs) (.agg xs)).run P w = .ok true w) : (binOp .neq t (.agg xs) (.agg xs)).run P w = .ok (.bool false) w := by
  rw [run_neq_struct, h]
  rfl
end Go.Proofs.YtbkecffdejafcaaDoor
