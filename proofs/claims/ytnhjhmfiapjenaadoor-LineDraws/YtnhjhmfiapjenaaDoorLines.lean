/- Lines of numbers as lists of values, and words as a function of their places. No word of the program is in it. -/
import Derived.Test.YtnhjhmfiapjenaaDoorWords13
namespace Go.Proofs.YtnhjhmfiapjenaaDoor
open Go.RowKit
set_option linter.unusedVariables false

/-- The words are words. -/
def Words (g : Int → Int) : Prop := ∀ n, 0 ≤ g n ∧ g n < 65536
/-- A line of so many pixels; its first x alone, and zeros behind them. -/
def lineTo (F : Int → Int) (x N : Nat) : List Value := (List.range N).map fun (j : Nat) => Value.int .i64 (if j < x then F j else 0)
def lineOf (F : Int → Int) (N : Nat) : List Value := (List.range N).map fun (j : Nat) => Value.int .i64 (F j)
theorem lineTo_length (F : Int → Int) (x N : Nat) : (lineTo F x N).length = N := by simp [lineTo]
theorem lineOf_length (F : Int → Int) (N : Nat) : (lineOf F N).length = N := by simp [lineOf]
theorem lineTo_at (F : Int → Int) (x N j : Nat) (h : j < N) : (lineTo F x N)[j]? = some (.int .i64 (if j < x then F j else 0)) := by simp [lineTo, h]
theorem lineOf_at (F : Int → Int) (N j : Nat) (h : j < N) : (lineOf F N)[j]? = some (.int .i64 (F j)) := by simp [lineOf, h]
theorem lineTo_zero (F : Int → Int) (N : Nat) : lineTo F 0 N = zerosL N :=
  ext_at (lineTo_length _ _ _) (zerosL_length _) fun j hj => by rw [lineTo_at _ _ _ _ hj, zerosL_at _ _ hj, if_neg (by omega)]
theorem lineTo_all (F : Int → Int) (N : Nat) : lineTo F N N = lineOf F N :=
  ext_at (lineTo_length _ _ _) (lineOf_length _ _) fun j hj => by rw [lineTo_at _ _ _ _ hj, lineOf_at _ _ _ hj, if_pos hj]
theorem lineOf_one (F : Int → Int) (N : Nat) : ∀ v ∈ lineOf F N, v.oneCell' = true := by
  intro v hv
  obtain ⟨j, _, rfl⟩ := List.mem_map.1 hv
  rfl
theorem lineTo_one (F : Int → Int) (x N : Nat) : ∀ v ∈ lineTo F x N, v.oneCell' = true := by
  intro v hv
  obtain ⟨j, _, rfl⟩ := List.mem_map.1 hv
  rfl
theorem lineTo_set (F : Int → Int) (x N : Nat) (h : x < N) : (lineTo F x N).set x (.int .i64 (F x)) = lineTo F (x + 1) N :=
  ext_at (by rw [List.length_set, lineTo_length]) (lineTo_length _ _ _) fun j hj => by
    rw [List.getElem?_set, lineTo_length, lineTo_at _ _ _ _ hj, lineTo_at _ _ _ _ hj]
    by_cases e : x = j
    · subst e
      rw [if_pos rfl, if_pos h, if_pos (by omega)]
    · rw [if_neg e]
      by_cases k : j < x
      · rw [if_pos k, if_pos (by omega)]
      · rw [if_neg k, if_neg (by omega)]
theorem lineTo_next (F : Int → Int) (x N : Nat) (h : F x = 0) : lineTo F x N = lineTo F (x + 1) N :=
  ext_at (lineTo_length _ _ _) (lineTo_length _ _ _) fun j hj => by
    rw [lineTo_at _ _ _ _ hj, lineTo_at _ _ _ _ hj]
    by_cases e : j = x
    · subst e
      rw [if_neg (by omega), if_pos (by omega), h]
    · by_cases k : j < x
      · rw [if_pos k, if_pos (by omega)]
      · rw [if_neg k, if_neg (by omega)]
/-- A row of a cell, from one of its pixels on, laid into a line. -/
def cutOf (G : Int → Int) (d L : Nat) : List Value := (List.range L).map fun (j : Nat) => Value.int .i64 (G ((d : Int) + (j : Int)))
theorem cutOf_length (G : Int → Int) (d L : Nat) : (cutOf G d L).length = L := by simp [cutOf]
theorem cutOf_at (G : Int → Int) (d L j : Nat) (h : j < L) : (cutOf G d L)[j]? = some (.int .i64 (G ((d : Int) + (j : Int)))) := by simp [cutOf, h]
theorem cutOf_one (G : Int → Int) (d L : Nat) : ∀ v ∈ cutOf G d L, v.oneCell' = true := by
  intro v hv
  obtain ⟨j, _, rfl⟩ := List.mem_map.1 hv
  rfl
theorem lineTo_splice (F G : Int → Int) (x d L N : Nat) (hN : x + L ≤ N) (h : ∀ j, j < L → F ((x : Int) + (j : Int)) = G ((d : Int) + (j : Int))) : splice (lineTo F x N) x (cutOf G d L) = lineTo F (x + L) N := by
  have hl : x + (cutOf G d L).length ≤ (lineTo F x N).length := by rw [cutOf_length, lineTo_length]; exact hN
  refine ext_at (N := N) (by rw [length_splice _ _ _ hl, lineTo_length]) (lineTo_length _ _ _) fun j hj => ?_
  rw [splice_at _ _ _ hl, cutOf_length, lineTo_at _ _ _ _ hj, lineTo_at _ _ _ _ hj]
  by_cases k : j < x
  · rw [if_pos k, if_pos k, if_pos (by omega)]
  · rw [if_neg k]
    by_cases k2 : j < x + L
    · rw [if_pos k2, if_pos k2, cutOf_at _ _ _ _ (by omega), ← h (j - x) (by omega), show (x : Int) + ((j - x : Nat) : Int) = (j : Int) by omega]
    · rw [if_neg k2, if_neg k2, if_neg k]
end Go.Proofs.YtnhjhmfiapjenaaDoor
