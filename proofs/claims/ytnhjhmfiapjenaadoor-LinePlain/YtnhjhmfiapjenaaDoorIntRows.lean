/- Rows of integers and of bools: such as a call made (RowN), and such as are known by their places alone (IntsAt, FlagsAt). No word of the program is in it but three types' numbers. -/
import Derived.Test.YtnhjhmfiapjenaaDoorRowkit
import Derived.Test.YtnhjhmfiapjenaaDoorProg
import Derived.Laws.Tables
import Derived.WalkMore
import Derived.Handy
namespace Go.Proofs.YtnhjhmfiapjenaaDoor
open Go.RowKit
set_option linter.unusedVariables false

def rowN (F : Nat → Int) (N : Nat) : List Value := (List.range N).map fun (j : Nat) => Value.int .i64 (F j)
theorem rowN_length (F : Nat → Int) (N : Nat) : (rowN F N).length = N := by simp [rowN]
theorem rowN_at (F : Nat → Int) (N j : Nat) (h : j < N) : (rowN F N)[j]? = some (.int .i64 (F j)) := by simp [rowN, h]
theorem rowN_ext {F G : Nat → Int} {N : Nat} (h : ∀ j, j < N → F j = G j) : rowN F N = rowN G N := by
  unfold rowN
  apply List.map_congr_left
  intro j hj
  rw [h j (List.mem_range.1 hj)]
theorem rowN_set (F : Nat → Int) (N x : Nat) (v : Int) : (rowN F N).set x (.int .i64 v) = rowN (fun j => if j = x then v else F j) N := by
  apply List.ext_getElem?
  intro j
  rw [List.getElem?_set, rowN_length]
  by_cases k : j < N
  · rw [rowN_at _ _ _ k, rowN_at _ _ _ k]
    by_cases e : x = j
    · subst e; simp [k]
    · rw [if_neg e, if_neg (fun h => e h.symm)]
  · rw [List.getElem?_eq_none (by rw [rowN_length]; omega), List.getElem?_eq_none (by rw [rowN_length]; omega)]
    by_cases e : x = j
    · subst e; simp [k]
    · rw [if_neg e]
/-- Block g holds N numbers. -/
def RowN (w : World) (g N : Nat) (F : Nat → Int) : Prop := w.heap[g]? = some (.cells (rowN F N).toArray 3 (0, 0))
theorem RowN.lt {w : World} {g N : Nat} {F : Nat → Int} (h : RowN w g N F) : g < w.heap.size := lt_of_block h
theorem RowN.next {w : World} {g N : Nat} {F : Nat → Int} (h : RowN w g N F) {w' : World} (k : Below w.heap.size w w') : RowN w' g N F := (k.block g (lt_of_block h)).trans h
theorem RowN.at {w : World} {g N : Nat} {F : Nat → Int} (h : RowN w g N F) (j : Nat) (hj : j < N) : w.cell? ⟨g, j, none⟩ = some (.int .i64 (F j)) := by rw [cell_of_row w g j _ _ _ h, List.getElem?_toArray]; exact rowN_at _ _ _ hj
theorem RowN.frozen {w : World} {g N : Nat} {F : Nat → Int} (h : RowN w g N F) (j : Nat) : w.frozen? ⟨g, j, none⟩ = false := frozen_of_row w g j _ _ h
theorem RowN.ext {w : World} {g N : Nat} {F : Nat → Int} (h : RowN w g N F) {G : Nat → Int} (e : ∀ j, j < N → F j = G j) : RowN w g N G := by
  unfold RowN
  rw [← rowN_ext e]
  exact h
theorem RowN.set {w : World} {g N : Nat} {F : Nat → Int} (h : RowN w g N F) (x : Nat) (v : Int) : RowN (w.setCell ⟨g, x, none⟩ (.int .i64 v)) g N (fun j => if j = x then v else F j) := by
  have e := heap_setCell_same w g x _ _ (.int .i64 v) h
  rw [List.setIfInBounds_toArray, rowN_set] at e
  exact e
theorem RowN.other {w : World} {g N : Nat} {F : Nat → Int} (h : RowN w g N F) (p : Addr) (v : Value) (hb : g ≠ p.block) : RowN (w.setCell p v) g N F := (heap_setCell_other w p g v hb).trans h
theorem make_rowN (N : Nat) (h1 : N ≤ 65536) (w : World) :
    (Instr.makeSlice 23 (.int .i64 (N : Int)) (.int .i64 (N : Int))).run Tryd.prog w = .ok (.slice (some ⟨w.heap.size, 0, none⟩) N N) (w.alloc (.cells (rowN (fun _ => 0) N).toArray 3)) := by
  have hb : Tryd.t3.bytes = 8 := rfl
  rw [Go.run_make w 23 3 Tryd.t3 (.int .i64 0) Tryd.underlying23 (by kernel_rfl) rfl .i64 .i64 N N (by omega) (by omega) (by rw [hb]; omega) (by omega)]
  have e1 : madeCells (Value.cells (.int .i64 0)) (N * Tryd.t3.size) = (rowN (fun _ => 0) N).toArray := by
    rw [show Tryd.t3.size = 1 from rfl, Nat.mul_one]
    apply Array.toList_inj.1
    show (madeCells #[.int .i64 0] N).toList = _
    rw [toList_madeCells_one]
    apply List.ext_getElem?
    intro j
    by_cases k : j < N
    · rw [rowN_at _ _ _ k]; simp [k]
    · rw [List.getElem?_eq_none (by simp; omega), List.getElem?_eq_none (by rw [rowN_length]; omega)]
  simp only [Int.toNat_natCast, e1]
/-- Blocks of two types are two. -/
theorem types_apart {w : World} {g h : Nat} {c d : Array Value} {t s : TypeId} {p q : Nat × Nat} (h1 : w.heap[g]? = some (.cells c t p)) (h2 : w.heap[h]? = some (.cells d s q)) (n : t ≠ s) : g ≠ h := by
  intro e
  subst e
  have k := h1.symm.trans h2
  simp at k
  exact n k.2.1
/-- The first n of a slice are these integers, these bools. -/
def IntsAt (w : World) (a : Option Addr) (n : Nat) (F : Nat → Int) : Prop := ∀ j, j < n → ∃ b off, a = some ⟨b, off, none⟩ ∧ b < w.heap.size ∧ w.cell? ⟨b, off + j, none⟩ = some (.int .i64 (F j))
def FlagsAt (w : World) (a : Option Addr) (n : Nat) (F : Nat → Bool) : Prop := ∀ j, j < n → ∃ b off, a = some ⟨b, off, none⟩ ∧ b < w.heap.size ∧ w.cell? ⟨b, off + j, none⟩ = some (.bool (F j))
theorem IntsAt.next {w w' : World} {a : Option Addr} {n : Nat} {F : Nat → Int} (h : IntsAt w a n F) (k : Below w.heap.size w w') : IntsAt w' a n F := fun j hj => by
  obtain ⟨b, off, e, hb, c⟩ := h j hj
  exact ⟨b, off, e, Nat.lt_of_lt_of_le hb k.size, (k.cell (p := ⟨b, off + j, none⟩) hb).trans c⟩
theorem FlagsAt.next {w w' : World} {a : Option Addr} {n : Nat} {F : Nat → Bool} (h : FlagsAt w a n F) (k : Below w.heap.size w w') : FlagsAt w' a n F := fun j hj => by
  obtain ⟨b, off, e, hb, c⟩ := h j hj
  exact ⟨b, off, e, Nat.lt_of_lt_of_le hb k.size, (k.cell (p := ⟨b, off + j, none⟩) hb).trans c⟩
theorem IntsAt.less {w : World} {a : Option Addr} {n m : Nat} {F : Nat → Int} (h : IntsAt w a n F) (k : m ≤ n) : IntsAt w a m F := fun j hj => h j (by omega)
theorem FlagsAt.less {w : World} {a : Option Addr} {n m : Nat} {F : Nat → Bool} (h : FlagsAt w a n F) (k : m ≤ n) : FlagsAt w a m F := fun j hj => h j (by omega)
theorem intsAt_none (w : World) (a : Option Addr) (F : Nat → Int) : IntsAt w a 0 F := fun j hj => absurd hj (Nat.not_lt_zero _)
theorem flagsAt_none (w : World) (a : Option Addr) (F : Nat → Bool) : FlagsAt w a 0 F := fun j hj => absurd hj (Nat.not_lt_zero _)
theorem RowN.ints {w : World} {g N : Nat} {F : Nat → Int} (h : RowN w g N F) : IntsAt w (some ⟨g, 0, none⟩) N F := fun j hj => ⟨g, 0, rfl, h.lt, by rw [Nat.zero_add]; exact h.at j hj⟩
/-- A literal. -/
theorem ints_lit {w : World} {g : Nat} {t : TypeId} (L : List Int) (h : w.heap[g]? = some (.cells (L.map (Value.int .i64)).toArray t (0, 0))) : IntsAt w (some ⟨g, 0, none⟩) L.length (fun j => L.getD j 0) := fun j hj => by
  refine ⟨g, 0, rfl, lt_of_block h, ?_⟩
  rw [Nat.zero_add, cell_of_row w g j _ _ _ h]
  simp [List.getD, List.getElem?_eq_getElem hj]
theorem flags_lit {w : World} {g : Nat} {t : TypeId} (L : List Bool) (h : w.heap[g]? = some (.cells (L.map Value.bool).toArray t (0, 0))) : FlagsAt w (some ⟨g, 0, none⟩) L.length (fun j => L.getD j false) := fun j hj => by
  refine ⟨g, 0, rfl, lt_of_block h, ?_⟩
  rw [Nat.zero_add, cell_of_row w g j _ _ _ h]
  simp [List.getD, List.getElem?_eq_getElem hj]
theorem IntsAt.ext {w : World} {a : Option Addr} {n : Nat} {F G : Nat → Int} (h : IntsAt w a n F) (e : ∀ j, j < n → F j = G j) : IntsAt w a n G := fun j hj => by rw [← e j hj]; exact h j hj
theorem i64_range {z : Int} (h : (Lit.int .i64 z).wf = true) : -9223372036854775808 ≤ z ∧ z ≤ 9223372036854775807 := by
  simp [Lit.wf] at h
  have : (IntKind.i64.min : Int) = -9223372036854775808 := by decide
  have : (IntKind.i64.max : Int) = 9223372036854775807 := by decide
  omega
theorem IsRow.wf {w : World} {a : Option Addr} {len cap : Nat} {zs : List Int} (h : IsRow .i64 w a len cap zs) (j : Nat) (hj : j < len) : -9223372036854775808 ≤ zs.getD j 0 ∧ zs.getD j 0 ≤ 9223372036854775807 := by
  obtain ⟨b, off, e, hb, _, _, hc⟩ := IsRow.cells h (by omega)
  exact i64_range (hc j hj).2
theorem IsRow.ints {w : World} {a : Option Addr} {len cap : Nat} {zs : List Int} (h : IsRow .i64 w a len cap zs) : IntsAt w a len (fun j => zs.getD j 0) := fun j hj => by
  obtain ⟨b, off, e, hb, _, _, hc⟩ := IsRow.cells h (by omega)
  exact ⟨b, off, e, hb, (hc j hj).1⟩
theorem IsRow.max {k : IntKind} {w : World} {a : Option Addr} {len cap : Nat} {zs : List Int} (h : IsRow k w a len cap zs) : len ≤ cap ∧ cap ≤ maxLen := by
  rcases h with ⟨_, rfl, rfl, _⟩ | ⟨x, _, h1, h2, _⟩
  · exact ⟨Nat.le_refl _, Nat.zero_le _⟩
  · exact ⟨h1, h2⟩
end Go.Proofs.YtnhjhmfiapjenaaDoor
