/- Texts without a word of the program, one behind the other. -/
import Derived.Test.YthelklkfcllddaaGreatDoorTopCardsJ01
import Derived.Test.YthelklkfcllddaaGreatDoorTopCardsJ09
import Derived.Laws.StructEq
import Derived.Laws.Rows
import Derived.Laws.Tables
import Derived.Laws.ResultCell
import Derived.Laws.CopyOwn
import Derived.Deep.Quiet
import Derived.Deep.MidRow
import Derived.BigFrame
import Derived.WalkMore
import Derived.OneCell
import Derived.Handy
namespace Go.Proofs.YthelklkfcllddaaGreatDoor.R15
set_option maxRecDepth 20000
def maskL : List Int := [65535, 65535, 65535, 0, 0, 8191, 1023, 1023, 511, 255, 32543, 32639, 65311, 511, 255, 31, 65535, 65535, 65535, 65535]
def mk (k : Nat) : Int := maskL.getD k 0
end Go.Proofs.YthelklkfcllddaaGreatDoor.R15
namespace Go.Proofs.YthelklkfcllddaaGreatDoor.R15
set_option maxRecDepth 20000
open Go.RowKit
set_option linter.unusedVariables false
def rowG (s : Int) (f : Nat → Int) : Array Value := (.int .i64 s :: (List.range 20).map fun j => Value.int .i64 (f j)).toArray
theorem rowG_0 (s : Int) (f : Nat → Int) : (rowG s f)[0]? = some (.int .i64 s) := by simp [rowG]
theorem rowG_at (s : Int) (f : Nat → Int) (j : Nat) (h : j < 20) : (rowG s f)[1 + j]? = some (.int .i64 (f j)) := by
  rw [show 1 + j = j + 1 by omega]
  simp [rowG, h]
def HasG (T : TypeId) (w : World) (b : Nat) (s : Int) (f : Nat → Int) : Prop := w.heap[b]? = some (.cells (rowG s f) T (0, 0))
theorem HasG.next {T : TypeId} {w w' : World} {b : Nat} {s : Int} {f : Nat → Int} (h : HasG T w b s f) (k : Below w.heap.size w w') : HasG T w' b s f := (k.block b (lt_of_block h)).trans h
theorem HasG.alloc {T : TypeId} {w : World} {b : Nat} {s : Int} {f : Nat → Int} (h : HasG T w b s f) (x : Obj) : HasG T (w.alloc x) b s f := h.next ((Below.refl _ w).alloc (Nat.le_refl _) _)
theorem HasG.lt {T : TypeId} {w : World} {b : Nat} {s : Int} {f : Nat → Int} (h : HasG T w b s f) : b < w.heap.size := lt_of_block h
theorem HasG.c0 {T : TypeId} {w : World} {b : Nat} {s : Int} {f : Nat → Int} (h : HasG T w b s f) : w.cell? ⟨b, 0, none⟩ = some (.int .i64 s) := (cell_of_row w b 0 _ _ _ h).trans (rowG_0 s f)
theorem HasG.at {T : TypeId} {w : World} {b : Nat} {s : Int} {f : Nat → Int} (h : HasG T w b s f) (j : Nat) (hj : j < 20) : w.cell? ⟨b, 1 + j, none⟩ = some (.int .i64 (f j)) := (cell_of_row w b (1 + j) _ _ _ h).trans (rowG_at s f j hj)
theorem HasG.frozen {T : TypeId} {w : World} {b : Nat} {s : Int} {f : Nat → Int} (h : HasG T w b s f) (j : Nat) : w.frozen? ⟨b, j, none⟩ = false := frozen_of_row w b j _ _ h
def upd (f : Nat → Int) (i : Nat) (v : Int) : Nat → Int := fun j => if j = i then v else f j
theorem map_set (N i : Nat) (x : Int) (f : Nat → Int) : ((List.range N).map fun j => Value.int .i64 (f j)).set i (.int .i64 x) = (List.range N).map fun j => Value.int .i64 (upd f i x j) := by
  apply List.ext_getElem?
  intro j
  rw [List.getElem?_set]
  simp only [List.getElem?_map, List.length_map, List.length_range]
  by_cases h : i = j
  · subst h
    by_cases k : i < N
    · simp [k, upd]
    · simp [k]
  · rw [if_neg h]
    by_cases k : j < N
    · simp [k, upd, show ¬ j = i from fun e => h e.symm]
    · simp [k]
theorem rowG_set (s x : Int) (f : Nat → Int) (i : Nat) : (rowG s f).setIfInBounds (1 + i) (.int .i64 x) = rowG s (upd f i x) := by
  unfold rowG
  rw [List.setIfInBounds_toArray, show 1 + i = i + 1 by omega, List.set_cons_succ, map_set]
theorem HasG.set {T : TypeId} {w : World} {b : Nat} {s : Int} {f : Nat → Int} (h : HasG T w b s f) (i : Nat) (x : Int) : HasG T (w.setCell ⟨b, 1 + i, none⟩ (.int .i64 x)) b s (upd f i x) := by
  have k := heap_setCell_same w b (1 + i) _ _ (.int .i64 x) h
  rw [rowG_set] at k
  exact k
theorem HasG.other {T : TypeId} {w : World} {b : Nat} {s : Int} {f : Nat → Int} (h : HasG T w b s f) (p : Addr) (v : Value) (hb : b ≠ p.block) : HasG T (w.setCell p v) b s f := (heap_setCell_other w p b v hb).trans h
theorem HasG.row {T : TypeId} {w : World} {b g : Nat} {s : Int} {f : Nat → Int} (h : HasG T w b s f) (cs : Array Value) (hb : b ≠ g) : HasG T (w.setRow g cs) b s f := (setRow_other w g b cs hb).trans h
theorem zero_lit : (#[.int .i64 0, .int .i64 0, .int .i64 0, .int .i64 0, .int .i64 0, .int .i64 0, .int .i64 0, .int .i64 0, .int .i64 0, .int .i64 0, .int .i64 0, .int .i64 0, .int .i64 0, .int .i64 0, .int .i64 0, .int .i64 0, .int .i64 0, .int .i64 0, .int .i64 0, .int .i64 0, .int .i64 0] : Array Value) = rowG 0 (fun _ => 0) := rfl
def listG (f : Nat → Int) : List Int := (List.range 20).map f
theorem listG_length (f : Nat → Int) : (listG f).length = 20 := by simp [listG]
theorem size_int (w : World) : (sizeOf 3).run Tryz.prog w = .ok 1 w := by
  have h : (Tryz.prog.info? 3).map (·.size) = some 1 := by kernel_rfl
  cases hq : Tryz.prog.info? 3 with
  | none => rw [hq] at h; cases h
  | some i =>
    rw [hq] at h
    have : i.size = 1 := by simpa using h
    simp [sizeOf, typeInfo, hq, this]
theorem HasG.range {T : TypeId} {w : World} {b : Nat} {s : Int} {f : Nat → Int} (h : HasG T w b s f) : w.rangeAt b 1 ((listG f).map (Value.int .i64)) := by
  intro j v hv
  obtain ⟨hj, he⟩ := List.getElem?_eq_some_iff.1 hv
  have h5 : j < 20 := by simpa [listG_length] using hj
  rw [h.at j h5, ← he]
  simp [listG]
theorem tab_index (f : Nat → Int) (k : Nat) (hk : k < 20) (w : World) : (Instr.index 35 (.agg ((listG f).map (Value.int .i64)).toArray) (.int .i64 (k : Int))).run Tryz.prog w = .ok (.int .i64 (f k)) w := by
  have e : ((listG f).map (Value.int .i64)).toArray[k]? = some (.int .i64 (f k)) := by simp [listG, hk]
  have h0 : (0 : Int) ≤ k ∧ (k : Int) < ((20 : Nat) : Int) := by omega
  have h1 : (k : Int) < 20 := by omega
  have hs := size_int w
  generalize ((listG f).map (Value.int .i64)).toArray = cs at e ⊢
  simp only [Instr.index, asIntOf, part]
  simp only [run_underlying Tryz.underlying35, Sem.run_bind, Result.andThen]
  simp [h0, h1, hs, e, isAgg, run_underlying Tryz.underlying3, Result.andThen]
end Go.Proofs.YthelklkfcllddaaGreatDoor.R15
namespace Go.Proofs.YthelklkfcllddaaGreatDoor.R15
set_option maxRecDepth 20000
open Go.RowKit
set_option linter.unusedVariables false
def maskCells : Array Value := (maskL.map (Value.int .i64)).toArray
def HasMask (w : World) : Prop := ∃ t fr, w.heap[3]? = some (.cells maskCells t fr)
theorem HasMask.pos {w : World} (h : HasMask w) : 3 < w.heap.size := by
  obtain ⟨t, fr, e⟩ := h
  exact lt_of_block e
theorem HasMask.next {w w' : World} (h : HasMask w) (b : Below w.heap.size w w') : HasMask w' := by
  have k := h.pos
  obtain ⟨t, fr, e⟩ := h
  exact ⟨t, fr, (b.block 3 k).trans e⟩
theorem mask_cell : ∀ k : Fin 20, maskL[k.val]? = some (mk k.val) := by decide +kernel
theorem HasMask.at {w : World} (h : HasMask w) (k : Nat) (hk : k < 20) : w.cell? ⟨3, k, none⟩ = some (.int .i64 (mk k)) := by
  obtain ⟨t, fr, e⟩ := h
  rw [cell_of_row w 3 k _ _ _ e]
  have := mask_cell ⟨k, hk⟩
  simp only at this
  simp [maskCells, this]
end Go.Proofs.YthelklkfcllddaaGreatDoor.R15
namespace Go.Proofs.YthelklkfcllddaaGreatDoor.R15
set_option maxRecDepth 20000
open Go.RowKit
set_option linter.unusedVariables false
end Go.Proofs.YthelklkfcllddaaGreatDoor.R15
namespace Go.Proofs.YthelklkfcllddaaGreatDoor.R15
set_option maxRecDepth 20000
open Go.RowKit
set_option linter.unusedVariables false
end Go.Proofs.YthelklkfcllddaaGreatDoor.R15
namespace Go.Proofs.YthelklkfcllddaaGreatDoor.R15
set_option maxRecDepth 20000
open Go.RowKit
set_option linter.unusedVariables false
theorem fresh_any (w : World) : Calls Tryz.prog 16 #[] w fun e w' => e = .returned (.agg (rowG 0 (fun _ => 0))) ∧ Below w.heap.size w w' := by
  have Z0 := hide (show (w.alloc (.cells #[.int .i64 0, .int .i64 0, .int .i64 0, .int .i64 0, .int .i64 0, .int .i64 0, .int .i64 0, .int .i64 0, .int .i64 0, .int .i64 0, .int .i64 0, .int .i64 0, .int .i64 0, .int .i64 0, .int .i64 0, .int .i64 0, .int .i64 0, .int .i64 0, .int .i64 0, .int .i64 0, .int .i64 0] 37)).heap[w.heap.size]? = some (.cells #[.int .i64 0, .int .i64 0, .int .i64 0, .int .i64 0, .int .i64 0, .int .i64 0, .int .i64 0, .int .i64 0, .int .i64 0, .int .i64 0, .int .i64 0, .int .i64 0, .int .i64 0, .int .i64 0, .int .i64 0, .int .i64 0, .int .i64 0, .int .i64 0, .int .i64 0, .int .i64 0, .int .i64 0] 37 (0, 0)) from heap_alloc_new _ _)
  rw [← zero_lit]
  go_enter Tryz.func16, Tryz.ntmps16
  go_wp2_with (first
    | (refine wpList_store_row rfl 37 (.tmp 0) (.tmp 1) rfl w.heap.size _ rfl rfl 37 _ Z0.out (by kernel_rfl) rfl (by kernel_rfl) ?_)
    | (refine bodyPost_ret (results_cell_row rfl _ _ w.heap.size 37 _ (0, 0) _ rfl (setRow_heap _ _ _ _ _ _ Z0.out) Tryz.underlying37 rfl (by kernel_rfl)) rfl ⟨rfl, below_setRow ((Below.refl _ w).alloc (Nat.le_refl _) _) (Nat.le_refl _) _⟩))
end Go.Proofs.YthelklkfcllddaaGreatDoor.R15
namespace Go.Proofs.YthelklkfcllddaaGreatDoor.R15
set_option maxRecDepth 20000
open Go.RowKit
set_option linter.unusedVariables false
end Go.Proofs.YthelklkfcllddaaGreatDoor.R15
namespace Go.Proofs.YthelklkfcllddaaGreatDoor.R15
set_option maxRecDepth 20000
open Go.RowKit
set_option linter.unusedVariables false
end Go.Proofs.YthelklkfcllddaaGreatDoor.R15
namespace Go.Proofs.YthelklkfcllddaaGreatDoor.R15
set_option maxRecDepth 20000
open Go.RowKit
set_option linter.unusedVariables false
end Go.Proofs.YthelklkfcllddaaGreatDoor.R15
namespace Go.Proofs.YthelklkfcllddaaGreatDoor.R15
set_option maxRecDepth 20000
open Go.RowKit
set_option linter.unusedVariables false
end Go.Proofs.YthelklkfcllddaaGreatDoor.R15
namespace Go.Proofs.YthelklkfcllddaaGreatDoor.R15
set_option maxRecDepth 20000
open Go.RowKit
set_option linter.unusedVariables false
end Go.Proofs.YthelklkfcllddaaGreatDoor.R15
