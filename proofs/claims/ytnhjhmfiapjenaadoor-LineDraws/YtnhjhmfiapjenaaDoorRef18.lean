/- The document's own answer for a sprite: the contract of Of. -/
import Derived.Test.YtnhjhmfiapjenaaDoorLaw18
import Derived.Test.YtnhjhmfiapjenaaDoorGenA
import Derived.Test.YtnhjhmfiapjenaaDoorRef13
import Derived.Deep.CutRange
namespace Go.Proofs.YtnhjhmfiapjenaaDoor
open Go.RowKit
set_option linter.unusedVariables false

theorem rof_no (T : Nat → Int) (k : Int) (hk : k < 0 ∨ 64 ≤ k) (w : World) : Calls Tryd.prog 47 #[.agg (tabL T).toArray, .int .i64 k] w fun e w' => e = .returned (.agg #[.int .i64 0, .int .i64 0, .int .i64 0, .int .i64 0, .int .i64 0, .int .i64 0, .bool false, .bool false, .bool false]) ∧ Below w.heap.size w w' := by
  have BA := hide (((Below.refl _ w).alloc (Nat.le_refl _) (.cells (tabL T).toArray 30)).alloc (by simp) (.cells #[.int .i64 0, .int .i64 0, .int .i64 0, .int .i64 0, .int .i64 0, .int .i64 0, .bool false, .bool false, .bool false] 99))
  by_cases h : k < 0
  · clear hk
    have h1 : decide (k < 0) = true := decide_eq_true h
    go_enter Tryd.func47, Tryd.ntmps47
    go_wp2_with (first
      | (refine wpList_store_row rfl 99 (.tmp 4) (.tmp 14) rfl (w.heap.size + 1) _ rfl rfl 99 _ (heap_alloc2_new _ _ _) (by kernel_rfl) rfl (by kernel_rfl) ?_)
      | (refine bodyPost_ret (results_cell_row rfl _ _ (w.heap.size + 1) 99 _ (0, 0) _ rfl (setRow_heap _ _ _ _ _ _ (heap_alloc2_new _ _ _)) Tryd.underlying99 rfl (by kernel_rfl)) rfl ⟨rfl, below_setRow BA.out (by simp) _⟩))
  · have h1 : decide (k < 0) = false := decide_eq_false h
    have h2 : decide (63 < k) = true := decide_eq_true (by omega)
    clear hk
    go_enter Tryd.func47, Tryd.ntmps47
    go_wp2_with (first
      | (refine wpList_store_row rfl 99 (.tmp 4) (.tmp 14) rfl (w.heap.size + 1) _ rfl rfl 99 _ (heap_alloc2_new _ _ _) (by kernel_rfl) rfl (by kernel_rfl) ?_)
      | (refine bodyPost_ret (results_cell_row rfl _ _ (w.heap.size + 1) 99 _ (0, 0) _ rfl (setRow_heap _ _ _ _ _ _ (heap_alloc2_new _ _ _)) Tryd.underlying99 rfl (by kernel_rfl)) rfl ⟨rfl, below_setRow BA.out (by simp) _⟩))
/-- Block b holds a sprite of the document's. -/
def HasQ (w : World) (b : Nat) (r : Array Value) : Prop := w.heap[b]? = some (.cells r 99 (0, 0))
theorem HasQ.set {w : World} {b : Nat} {r : Array Value} (h : HasQ w b r) (x : Nat) (v : Value) : HasQ (w.setCell ⟨b, x, none⟩ v) b (r.setIfInBounds x v) := heap_setCell_same w b x _ _ v h
theorem HasQ.far {w : World} {b : Nat} {r : Array Value} (h : HasQ w b r) {g : Nat} (x : Nat) (v : Value) (hb : b ≠ g) : HasQ (w.setCell ⟨g, x, none⟩ v) b r := (Below.heap_setCell _ _ _ _ hb).trans h
theorem HasQ.new {w : World} {b : Nat} {r : Array Value} (h : HasQ w b r) (o : Obj) : HasQ (w.alloc o) b r := (Below.heap_alloc _ _ _ (lt_of_block h)).trans h
theorem HasQ.cell {w : World} {b : Nat} {r : Array Value} (h : HasQ w b r) (x : Nat) : w.cell? ⟨b, x, none⟩ = r[x]? := cell_of_row w b x _ _ _ h
theorem HasQ.free {w : World} {b : Nat} {r : Array Value} (h : HasQ w b r) (x : Nat) : w.frozen? ⟨b, x, none⟩ = false := frozen_of_row w b x _ _ h
end Go.Proofs.YtnhjhmfiapjenaaDoor
