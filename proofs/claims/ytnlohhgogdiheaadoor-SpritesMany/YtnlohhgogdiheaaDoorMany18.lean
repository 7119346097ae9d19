/- What SpritesMany asks: small sprites side by side on a line: plain numbers. No word of the program is in it. -/
import Derived.Test.YtnlohhgogdiheaaDoorRuns18
namespace Go.Proofs.YtnlohhgogdiheaaDoor
open Go.RowKit
set_option linter.unusedVariables false

/-- A table of n small sprites, side by side. -/
def manyT (n : Nat) (j : Nat) : Int := if j < 4 * n then (if j % 4 = 0 then 64 else if j % 4 = 1 then 32 + 16 * ((j / 4 : Nat) : Int) else if j % 4 = 3 then 1 else 0) else 0
theorem manyT_0 (n k : Nat) (h : k < n) : manyT n (4 * k) = 64 := by unfold manyT; rw [if_pos (by omega), if_pos (by omega)]
theorem manyT_1 (n k : Nat) (h : k < n) : manyT n (4 * k + 1) = 32 + 16 * (k : Int) := by
  unfold manyT
  rw [if_pos (by omega), if_neg (by omega), if_pos (by omega), show (4 * k + 1) / 4 = k by omega]
theorem manyT_2 (n k : Nat) (h : k < n) : manyT n (4 * k + 2) = 0 := by
  unfold manyT
  rw [if_pos (by omega), if_neg (by omega), if_neg (by omega), if_neg (by omega)]
theorem manyT_3 (n k : Nat) (h : k < n) : manyT n (4 * k + 3) = 1 := by
  unfold manyT
  rw [if_pos (by omega), if_neg (by omega), if_neg (by omega), if_pos (by omega)]
theorem manyT_far (n k : Nat) (h : n ≤ k) (i : Nat) : manyT n (4 * k + i) = 0 := by unfold manyT; rw [if_neg (by omega)]
theorem manyT_next (k j : Nat) : (if j = 4 * k + 3 then 1 else if j = 4 * k + 1 then 32 + 16 * (k : Int) else if j = 4 * k then 64 else manyT k j) = manyT (k + 1) j := by
  unfold manyT
  by_cases h3 : j = 4 * k + 3
  · rw [if_pos h3, if_pos (by omega), if_neg (by omega), if_neg (by omega), if_pos (by omega)]
  · rw [if_neg h3]
    by_cases h1 : j = 4 * k + 1
    · rw [if_pos h1, if_pos (by omega), if_neg (by omega), if_pos (by omega), show j / 4 = k by omega]
    · rw [if_neg h1]
      by_cases h0 : j = 4 * k
      · rw [if_pos h0, if_pos (by omega), if_pos (by omega)]
      · rw [if_neg h0]
        by_cases hl : j < 4 * k
        · rw [if_pos hl, if_pos (show j < 4 * (k + 1) by omega)]
        · rw [if_neg hl]
          by_cases h2 : j = 4 * k + 2
          · rw [if_pos (by omega), if_neg (by omega), if_neg (by omega), if_neg (by omega)]
          · rw [if_neg (by omega)]
def manyS (k : Nat) (x : Nat) : Pos := if x < 16 * k then (17, false, decide (x < 16), false) else (0, false, false, false)
theorem bits_65535 (k : Int) (h0 : 0 ≤ k) (h1 : k < 16) : bitOf 65535 k = 1 := by
  rcases cases16 h0 h1 with rfl | rfl | rfl | rfl | rfl | rfl | rfl | rfl | rfl | rfl | rfl | rfl | rfl | rfl | rfl | rfl <;> decide +kernel
theorem bits_0 (k : Int) : bitOf 0 k = 0 := by unfold bitOf; split <;> simp
/-- The only word that is laid: row y of cell 0. -/
theorem many_dot (g : Int → Int) (y q : Int) (hy0 : 0 ≤ y) (hy1 : y < 16) (hq0 : 0 ≤ q) (hq1 : q < 16) (g0 : g y = 65535) (gz : ∀ z, z ≠ y → 0 ≤ z → z < 65536 → g z = 0) : colS g 0 y q 4 = 1 := by
  have el : lieS 0 y q = y := by unfold lieS; omega
  unfold colS
  rw [el]
  show 0 + bitOf (g (y + 16 * ((0 : Nat) : Int))) _ * 2 ^ 0 + bitOf (g (y + 16 * ((1 : Nat) : Int))) _ * 2 ^ 1 + bitOf (g (y + 16 * ((2 : Nat) : Int))) _ * 2 ^ 2 + bitOf (g (y + 16 * ((3 : Nat) : Int))) _ * 2 ^ 3 = 1
  rw [show y + 16 * ((0 : Nat) : Int) = y by omega, g0, gz _ (by omega) (by omega) (by omega), gz _ (by omega) (by omega) (by omega), gz _ (by omega) (by omega) (by omega), bits_0, bits_65535 _ (by omega) (by omega)]
  decide
theorem many_step (g : Int → Int) (n k : Nat) (y : Int) (hk : k < n) (hk16 : k < 31) (hy0 : 0 ≤ y) (hy1 : y < 16) (g0 : g y = 65535) (gz : ∀ z, z ≠ y → 0 ≤ z → z < 65536 → g z = 0) :
    onT (manyT n) y k = true ∧ cellsT (manyT n) k = 1 ∧ stepT g (manyT n) y k (manyS k) = manyS (k + 1) := by
  have e0 := manyT_0 n k hk
  have e1 := manyT_1 n k hk
  have e2 := manyT_2 n k hk
  have e3 := manyT_3 n k hk
  have hX : sprX (32 + 16 * (k : Int)) = 16 * (k : Int) := by unfold sprX; omega
  have hW : sprW 1 = 16 := by decide +kernel
  have hH : sprH 1 = 16 := by decide +kernel
  have hC : sprC 0 16 16 = 0 := by decide +kernel
  have hP : sprP 1 = 1 := by decide +kernel
  have b7 : sprB 1 7 = false := by decide +kernel
  have b11 : sprB 1 11 = false := by decide +kernel
  have b15 : sprB 1 15 = false := by decide +kernel
  refine ⟨?_, ?_, ?_⟩
  · unfold onT
    rw [e0, e3, show sprY 64 = 0 from rfl, hH, decide_eq_true hy0, decide_eq_true (show y < 0 + 16 by omega)]
    rfl
  · unfold cellsT
    rw [e3, hW]
    rfl
  · funext x
    rw [stepT_at, e1, e3, hX, hW, hP, b7]
    by_cases hx : 16 * (k : Int) ≤ (x : Int) ∧ (x : Int) < 16 * (k : Int) + 16
    · rw [if_pos hx]
      unfold dotT
      rw [e0, e2, e3, hW, hH, hC, b11, b15, show sprY 64 = 0 from rfl, Int.sub_zero]
      unfold pixS downS overS
      rw [if_neg (by decide), if_neg (by decide), many_dot g y _ hy0 hy1 (by omega) (by omega) g0 gz]
      unfold manyS
      rw [if_neg (by omega), if_pos (by omega)]
      unfold layP
      rw [if_neg (by decide), if_pos rfl]
      have : (k == 0) = decide (x < 16) := by
        rw [Bool.eq_iff_iff]
        simp
        omega
      rw [this]
      rfl
    · rw [if_neg hx]
      unfold manyS
      by_cases hl : x < 16 * k
      · rw [if_pos hl, if_pos (by omega)]
      · rw [if_neg hl, if_neg (by omega)]
theorem many_run (g : Int → Int) (n : Nat) (y : Int) (hy0 : 0 ≤ y) (hy1 : y < 16) (g0 : g y = 65535) (gz : ∀ z, z ≠ y → 0 ≤ z → z < 65536 → g z = 0) : ∀ k, k ≤ n → k ≤ 16 → runT g (manyT n) y k = (manyS k, (k : Int), false)
  | 0, _, _ => by
    show ((fun _ => (0, false, false, false), 0, false) : Run) = _
    have e : (fun _ : Nat => ((0, false, false, false) : Pos)) = manyS 0 := funext fun x => by unfold manyS; rw [if_neg (by omega)]
    rw [e]
    rfl
  | k + 1, hn, h16 => by
    have ih := many_run g n y hy0 hy1 g0 gz k (by omega) (by omega)
    obtain ⟨s1, s2, s3⟩ := many_step g n k y (by omega) (by omega) hy0 hy1 g0 gz
    rw [runT_on g (manyT n) y k (by rw [ih]) s1 (by rw [ih, s2]; show ¬ 16 < (k : Int) + 1; omega), ih, s2, s3]
    rfl
theorem runT_still (g : Int → Int) (T : Nat → Int) (y : Int) (k : Nat) (h : ∀ j, k ≤ j → onT T y j = false) : ∀ n, runT g T y (k + n) = runT g T y k
  | 0 => rfl
  | n + 1 => by rw [show k + (n + 1) = k + n + 1 from rfl, runT_off g T y (k + n) (h _ (by omega)), runT_still g T y k h n]
theorem many_few (g : Int → Int) (n : Nat) (y : Int) (hy0 : 0 ≤ y) (hy1 : y < 16) (g0 : g y = 65535) (gz : ∀ z, z ≠ y → 0 ≤ z → z < 65536 → g z = 0) (hn : n ≤ 16) : runT g (manyT n) y 64 = (manyS n, (n : Int), false) := by
  have h := runT_still g (manyT n) y n (fun j hj => on_zero _ y j hy0 (manyT_far n j hj 0) (manyT_far n j hj 3)) (64 - n)
  rw [show n + (64 - n) = 64 by omega] at h
  rw [h, many_run g n y hy0 hy1 g0 gz n (Nat.le_refl _) hn]
theorem many_more (g : Int → Int) (n : Nat) (y : Int) (hy0 : 0 ≤ y) (hy1 : y < 16) (g0 : g y = 65535) (gz : ∀ z, z ≠ y → 0 ≤ z → z < 65536 → g z = 0) (hn : 16 < n) : runT g (manyT n) y 64 = (manyS 16, 16, true) := by
  have r := many_run g n y hy0 hy1 g0 gz 16 (by omega) (Nat.le_refl _)
  obtain ⟨s1, s2, _⟩ := many_step g n 16 y hn (by omega) hy0 hy1 g0 gz
  have e := runT_many g (manyT n) y 16 (by rw [r]) s1 (by rw [r, s2]; decide)
  have h := runT_over g (manyT n) y (16 + 1) (by rw [e]) 47
  rw [show 16 + 1 + 47 = 64 from rfl] at h
  rw [h, e, r]
  rfl
theorem manyS_hit (k x : Nat) : (manyS k x).2.2.2 = false := by unfold manyS; split <;> rfl
end Go.Proofs.YtnlohhgogdiheaaDoor
