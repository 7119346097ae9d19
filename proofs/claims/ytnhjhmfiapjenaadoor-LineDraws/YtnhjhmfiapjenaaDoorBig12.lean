/- A struct of two numbers and an array of 512: its row under letters, never as 514 cells. -/
import Derived.Test.YtnhjhmfiapjenaaDoorBits
import Derived.Test.YtnhjhmfiapjenaaDoorGenA
import Derived.Laws.StructEq
import Derived.Laws.Rows
import Derived.Laws.Tables
import Derived.Laws.ResultCell
import Derived.Laws.CopyOwn
import Derived.WalkMore
import Derived.OneCell
import Derived.Handy
namespace Go.Proofs.YtnhjhmfiapjenaaDoor.V12
open Go.RowKit
set_option linter.unusedVariables false

def rowV (c a : Int) (f : Nat → Int) : Array Value := (.int .i64 c :: .int .i64 a :: (List.range 512).map fun j => Value.int .i64 (f j)).toArray
theorem rowV_size (c a : Int) (f : Nat → Int) : (rowV c a f).size = 514 := by simp [rowV]
theorem rowV_0 (c a : Int) (f : Nat → Int) : (rowV c a f)[0]? = some (.int .i64 c) := by simp [rowV]
theorem rowV_1 (c a : Int) (f : Nat → Int) : (rowV c a f)[1]? = some (.int .i64 a) := by simp [rowV]
theorem rowV_at (c a : Int) (f : Nat → Int) (j : Nat) (h : j < 512) : (rowV c a f)[2 + j]? = some (.int .i64 (f j)) := by
  rw [show 2 + j = j + 1 + 1 by omega]
  simp [rowV, h]
/-- Block b holds such a struct. -/
def HasV (T : TypeId) (w : World) (b : Nat) (c a : Int) (f : Nat → Int) : Prop := w.heap[b]? = some (.cells (rowV c a f) T (0, 0))
theorem HasV.next {T : TypeId} {w w' : World} {b : Nat} {c a : Int} {f : Nat → Int} (h : HasV T w b c a f) (k : Below w.heap.size w w') : HasV T w' b c a f := (k.block b (lt_of_block h)).trans h
theorem HasV.alloc {T : TypeId} {w : World} {b : Nat} {c a : Int} {f : Nat → Int} (h : HasV T w b c a f) (x : Obj) : HasV T (w.alloc x) b c a f := h.next ((Below.refl _ w).alloc (Nat.le_refl _) _)
theorem hasV_new (T : TypeId) (w : World) (c a : Int) (f : Nat → Int) : HasV T (w.alloc (.cells (rowV c a f) T)) w.heap.size c a f := heap_alloc_new _ _
theorem HasV.lt {T : TypeId} {w : World} {b : Nat} {c a : Int} {f : Nat → Int} (h : HasV T w b c a f) : b < w.heap.size := lt_of_block h
theorem HasV.c0 {T : TypeId} {w : World} {b : Nat} {c a : Int} {f : Nat → Int} (h : HasV T w b c a f) : w.cell? ⟨b, 0, none⟩ = some (.int .i64 c) := (cell_of_row w b 0 _ _ _ h).trans (rowV_0 c a f)
theorem HasV.c1 {T : TypeId} {w : World} {b : Nat} {c a : Int} {f : Nat → Int} (h : HasV T w b c a f) : w.cell? ⟨b, 1, none⟩ = some (.int .i64 a) := (cell_of_row w b 1 _ _ _ h).trans (rowV_1 c a f)
theorem HasV.at {T : TypeId} {w : World} {b : Nat} {c a : Int} {f : Nat → Int} (h : HasV T w b c a f) (j : Nat) (hj : j < 512) : w.cell? ⟨b, 2 + j, none⟩ = some (.int .i64 (f j)) := (cell_of_row w b (2 + j) _ _ _ h).trans (rowV_at c a f j hj)
theorem HasV.frozen {T : TypeId} {w : World} {b : Nat} {c a : Int} {f : Nat → Int} (h : HasV T w b c a f) (j : Nat) : w.frozen? ⟨b, j, none⟩ = false := frozen_of_row w b j _ _ h

def upd (f : Nat → Int) (i : Nat) (v : Int) : Nat → Int := fun j => if j = i then v else f j
/-- A colour, plain or grey. -/
def colOf (x : Int) (grey : Bool) : Int := if grey then (x / 64 * 4 + x / 8 % 8 * 2 + x % 8) / 7 * 73 else x
theorem map_ext (f g : Nat → Int) (h : ∀ j, j < 512 → f j = g j) : (List.range 512).map (fun j => Value.int .i64 (f j)) = (List.range 512).map (fun j => Value.int .i64 (g j)) := by
  apply List.map_congr_left
  intro j hj
  rw [h j (List.mem_range.1 hj)]
theorem rowV_set0 (c a x : Int) (f : Nat → Int) : (rowV c a f).setIfInBounds 0 (.int .i64 x) = rowV x a f := by
  unfold rowV
  rw [List.setIfInBounds_toArray]
  rfl
theorem rowV_set1 (c a x : Int) (f : Nat → Int) : (rowV c a f).setIfInBounds 1 (.int .i64 x) = rowV c x f := by
  unfold rowV
  rw [List.setIfInBounds_toArray]
  rfl
theorem map_set (N i : Nat) (x : Int) (f : Nat → Int) : ((List.range N).map fun j => Value.int .i64 (f j)).set i (.int .i64 x) = (List.range N).map fun j => Value.int .i64 (upd f i x j) := by
  apply List.ext_getElem?
  intro j
  rw [List.getElem?_set]
  simp only [List.getElem?_map, List.length_map, List.length_range]
  by_cases h : i = j
  · subst h
    by_cases k : i < N
    · simp [k, upd]
    · simp [k]
  · rw [if_neg h]
    by_cases k : j < N
    · simp [k, upd, show ¬ j = i from fun e => h e.symm]
    · simp [k]
theorem rowV_set (c a x : Int) (f : Nat → Int) (i : Nat) : (rowV c a f).setIfInBounds (2 + i) (.int .i64 x) = rowV c a (upd f i x) := by
  unfold rowV
  rw [List.setIfInBounds_toArray, show 2 + i = i + 1 + 1 by omega, List.set_cons_succ, List.set_cons_succ, map_set]
theorem rowV_one (c a : Int) (f : Nat → Int) : (rowV c a f).all (·.oneCell') = true := by
  unfold rowV
  rw [← Array.all_toList]
  simp [Value.oneCell']
theorem HasV.set0 {T : TypeId} {w : World} {b : Nat} {c a : Int} {f : Nat → Int} (h : HasV T w b c a f) (x : Int) : HasV T (w.setCell ⟨b, 0, none⟩ (.int .i64 x)) b x a f := by
  have k := heap_setCell_same w b 0 _ _ (.int .i64 x) h
  rw [rowV_set0] at k
  exact k
theorem HasV.set1 {T : TypeId} {w : World} {b : Nat} {c a : Int} {f : Nat → Int} (h : HasV T w b c a f) (x : Int) : HasV T (w.setCell ⟨b, 1, none⟩ (.int .i64 x)) b c x f := by
  have k := heap_setCell_same w b 1 _ _ (.int .i64 x) h
  rw [rowV_set1] at k
  exact k
theorem HasV.set {T : TypeId} {w : World} {b : Nat} {c a : Int} {f : Nat → Int} (h : HasV T w b c a f) (i : Nat) (x : Int) : HasV T (w.setCell ⟨b, 2 + i, none⟩ (.int .i64 x)) b c a (upd f i x) := by
  have k := heap_setCell_same w b (2 + i) _ _ (.int .i64 x) h
  rw [rowV_set] at k
  exact k
theorem HasV.other {T : TypeId} {w : World} {b : Nat} {c a : Int} {f : Nat → Int} (h : HasV T w b c a f) (p : Addr) (v : Value) (hb : b ≠ p.block) : HasV T (w.setCell p v) b c a f := (heap_setCell_other w p b v hb).trans h
theorem HasV.row {T : TypeId} {w : World} {b g : Nat} {c a : Int} {f : Nat → Int} (h : HasV T w b c a f) (cs : Array Value) (hb : b ≠ g) : HasV T (w.setRow g cs) b c a f := (setRow_other w g b cs hb).trans h
/-- The zero value of such a struct (a seat of one module has no name of its own for it). -/
def zeroC : Array Value := rowV 0 0 (fun _ => 0)
@[simp] theorem zero_run (w : World) : (zeroValue 34).run Tryd.prog w = .ok (.agg zeroC) w := by kernel_rfl
@[simp] theorem zero_size : zeroC.size = 514 := rowV_size 0 0 _
@[simp] theorem zero_ne : zeroC ≠ #[] := by
  intro h
  have k := zero_size
  rw [h] at k
  cases k
/-- Where the load has a name of its own for these cells: they are these ('try have hzz := zero_same w (..)' ahead of a walk: in a load of one module there is no such name, and nothing is laid). -/
theorem zero_same {Z : Array Value} (w : World) (h : (zeroValue 34).run Tryd.prog w = .ok (.agg Z) w) : Z = zeroC := by
  have k := h.symm.trans (zero_run w)
  simpa using k
theorem zero_V : zeroC = rowV 0 0 (fun _ => 0) := rfl
end Go.Proofs.YtnhjhmfiapjenaaDoor.V12
