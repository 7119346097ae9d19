/- A leap: 18 numbers, its row under a letter; loads of it, an element of it, and one that is put. -/
import Derived.Test.YtcpilhbinkamiaaDoorStep21
import Derived.Test.YtcpilhbinkamiaaDoorKept
import Derived.Test.YtcpilhbinkamiaaDoorRets
import Derived.Test.YtcpilhbinkamiaaDoorRows22
import Derived.Laws.Rows
import Derived.Laws.Tables
import Derived.Laws.ResultCell
import Derived.Laws.CopyOwn
import Derived.Deep.Quiet
import Derived.WalkMore
import Derived.OneCell
import Derived.Handy
namespace Go.Proofs.YtcpilhbinkamiaaDoor
open Go.RowKit
set_option linter.unusedVariables false

def rowL (f : Nat → Nat) : Array Value := ((List.range 18).map fun j => Value.int .i64 ((f j : Nat) : Int)).toArray
theorem rowL_size (f : Nat → Nat) : (rowL f).size = 18 := by simp [rowL]
theorem rowL_at (f : Nat → Nat) (j : Nat) (h : j < 18) : (rowL f)[j]? = some (.int .i64 ((f j : Nat) : Int)) := by simp [rowL, h]
theorem rowL_ext {f g : Nat → Nat} (h : ∀ j, j < 18 → f j = g j) : rowL f = rowL g := by
  unfold rowL
  congr 1
  apply List.map_congr_left
  intro j hj
  rw [h j (List.mem_range.1 hj)]
def updL (f : Nat → Nat) (i v : Nat) : Nat → Nat := fun j => if j = i then v else f j
theorem rowL_set (f : Nat → Nat) (i v : Nat) : (rowL f).setIfInBounds i (.int .i64 ((v : Nat) : Int)) = rowL (updL f i v) := by
  apply Array.ext_getElem?
  intro j
  rw [Array.getElem?_setIfInBounds, rowL_size]
  by_cases k : j < 18
  · rw [rowL_at _ _ k, rowL_at _ _ k]
    by_cases e : i = j
    · subst e; simp [k, updL]
    · rw [if_neg e]; simp [updL, show ¬ j = i from fun h => e h.symm]
  · rw [Array.getElem?_eq_none (by rw [rowL_size]; omega), Array.getElem?_eq_none (by rw [rowL_size]; omega)]
    by_cases e : i = j
    · subst e; simp [k]
    · rw [if_neg e]
theorem rowL_one (f : Nat → Nat) : (rowL f).all (·.oneCell') = true := by
  unfold rowL
  rw [← Array.all_toList]
  simp [Value.oneCell']
/-- Block b holds a leap. -/
def HasL (w : World) (b : Nat) (f : Nat → Nat) : Prop := w.heap[b]? = some (.cells (rowL f) 93 (0, 0))
theorem HasL.lt {w : World} {b : Nat} {f : Nat → Nat} (h : HasL w b f) : b < w.heap.size := lt_of_block h
theorem HasL.next {w : World} {b : Nat} {f : Nat → Nat} (h : HasL w b f) {w' : World} (k : Below w.heap.size w w') : HasL w' b f := (k.block b (lt_of_block h)).trans h
theorem HasL.at {w : World} {b : Nat} {f : Nat → Nat} (h : HasL w b f) (j : Nat) (hj : j < 18) : w.cell? ⟨b, j, none⟩ = some (.int .i64 ((f j : Nat) : Int)) := (cell_of_row w b j _ _ _ h).trans (rowL_at f j hj)
theorem HasL.frozen {w : World} {b : Nat} {f : Nat → Nat} (h : HasL w b f) (j : Nat) : w.frozen? ⟨b, j, none⟩ = false := frozen_of_row w b j _ _ h
theorem HasL.ext {w : World} {b : Nat} {f : Nat → Nat} (h : HasL w b f) {g : Nat → Nat} (e : ∀ j, j < 18 → f j = g j) : HasL w b g := by
  unfold HasL
  rw [← rowL_ext e]
  exact h
theorem HasL.set {w : World} {b : Nat} {f : Nat → Nat} (h : HasL w b f) (i v : Nat) : HasL (w.setCell ⟨b, i, none⟩ (.int .i64 ((v : Nat) : Int))) b (updL f i v) := by
  have e := heap_setCell_same w b i _ _ (.int .i64 ((v : Nat) : Int)) h
  rw [rowL_set] at e
  exact e
theorem HasL.other {w : World} {b : Nat} {f : Nat → Nat} (h : HasL w b f) (p : Addr) (v : Value) (hb : b ≠ p.block) : HasL (w.setCell p v) b f := (heap_setCell_other w p b v hb).trans h
theorem hasL_new (w : World) (f : Nat → Nat) : HasL (w.alloc (.cells (rowL f) 93)) w.heap.size f := heap_alloc_new _ _
theorem zero_lit : (#[.int .i64 0, .int .i64 0, .int .i64 0, .int .i64 0, .int .i64 0, .int .i64 0, .int .i64 0, .int .i64 0, .int .i64 0, .int .i64 0, .int .i64 0, .int .i64 0, .int .i64 0, .int .i64 0, .int .i64 0, .int .i64 0, .int .i64 0, .int .i64 0] : Array Value) = rowL (fun _ => 0) := rfl
theorem zero_L (w : World) : (zeroValue 93).run Tryd.prog w = .ok (.agg (rowL (fun _ => 0))) w := by kernel_rfl
theorem info_L (f : Nat → Nat) : (Tryd.prog.info? 93).map (·.size) = some (rowL f).size := by
  rw [rowL_size]
  kernel_rfl
theorem size_int (w : World) : (sizeOf 3).run Tryd.prog w = .ok 1 w := by
  have h : (Tryd.prog.info? 3).map (·.size) = some 1 := by kernel_rfl
  cases hq : Tryd.prog.info? 3 with
  | none => rw [hq] at h; cases h
  | some i =>
    rw [hq] at h
    have : i.size = 1 := by simpa using h
    simp [sizeOf, typeInfo, hq, this]
/-- An element of the array, by a number under a letter. -/
theorem leap_index (f : Nat → Nat) (k : Nat) (hk : k < 18) (w : World) : (Instr.index 93 (.agg (rowL f)) (.int .i64 (k : Int))).run Tryd.prog w = .ok (.int .i64 ((f k : Nat) : Int)) w := by
  have e := rowL_at f k hk
  have h0 : (0 : Int) ≤ k ∧ (k : Int) < ((18 : Nat) : Int) := by omega
  have h1 : (k : Int) < 18 := by omega
  have hs := size_int w
  generalize rowL f = cs at e ⊢
  simp only [Instr.index, asIntOf, part]
  simp only [run_underlying Tryd.underlying93, Sem.run_bind, Result.andThen]
  simp [h0, h1, hs, e, isAgg, run_underlying Tryd.underlying3, Result.andThen]
end Go.Proofs.YtcpilhbinkamiaaDoor
