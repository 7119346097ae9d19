/- What the laws ask of a line of sprites: plain numbers. No word of the program is in it. -/
import Derived.Test.YtnhjhmfiapjenaaDoorPlain18
namespace Go.Proofs.YtnhjhmfiapjenaaDoor
open Go.RowKit
set_option linter.unusedVariables false

theorem stepT_at (g : Int → Int) (T : Nat → Int) (y : Int) (k : Nat) (S : Nat → Pos) (x : Nat) : stepT g T y k S x =
    if sprX (T (4 * k + 1)) ≤ x ∧ (x : Int) < sprX (T (4 * k + 1)) + sprW (T (4 * k + 3)) then layP (k == 0) (sprP (T (4 * k + 3))) (sprB (T (4 * k + 3)) 7) (dotT g T y k ((x : Int) - sprX (T (4 * k + 1)))) (S x) else S x := rfl
theorem layP_cong {v u : Pos} (a : Bool) (P : Int) (fr : Bool) (p : Int) (h1 : v.1 = u.1) (h2 : v.2.1 = u.2.1) : (layP a P fr p v).1 = (layP a P fr p u).1 ∧ (layP a P fr p v).2.1 = (layP a P fr p u).2.1 := by
  unfold layP
  by_cases hp : p = 0
  · rw [if_pos hp, if_pos hp]; exact ⟨h1, h2⟩
  · rw [if_neg hp, if_neg hp]
    by_cases h0 : v.1 = 0
    · rw [if_pos h0, if_pos (by rw [← h1]; exact h0)]; exact ⟨rfl, rfl⟩
    · have hu : ¬ u.1 = 0 := by rw [← h1]; exact h0
      rw [if_neg h0, if_neg hu]
      by_cases a1 : v.2.2.1 = true
      · by_cases a2 : u.2.2.1 = true
        · rw [if_pos a1, if_pos a2]; exact ⟨h1, h2⟩
        · rw [if_pos a1, if_neg a2]; exact ⟨h1, h2⟩
      · by_cases a2 : u.2.2.1 = true
        · rw [if_neg a1, if_pos a2]; exact ⟨h1, h2⟩
        · rw [if_neg a1, if_neg a2]; exact ⟨h1, h2⟩
theorem layP_keep {v : Pos} (a : Bool) (P : Int) (fr : Bool) (p : Int) (h : v.1 ≠ 0) : (layP a P fr p v).1 = v.1 ∧ (layP a P fr p v).2.1 = v.2.1 := by
  unfold layP
  by_cases hp : p = 0
  · rw [if_pos hp]; exact ⟨rfl, rfl⟩
  · rw [if_neg hp, if_neg h]
    by_cases a1 : v.2.2.1 = true
    · rw [if_pos a1]; exact ⟨rfl, rfl⟩
    · rw [if_neg a1]; exact ⟨rfl, rfl⟩
theorem stepT_keep (g : Int → Int) (T : Nat → Int) (y : Int) (k : Nat) (S : Nat → Pos) (x : Nat) (h : (S x).1 ≠ 0) : (stepT g T y k S x).1 = (S x).1 ∧ (stepT g T y k S x).2.1 = (S x).2.1 := by
  rw [stepT_at]
  split
  · exact layP_keep _ _ _ _ h
  · exact ⟨rfl, rfl⟩
/-- What the next run is: the same, or one sprite more. -/
theorem runT_cases (g : Int → Int) (T : Nat → Int) (y : Int) (k : Nat) : (runT g T y (k + 1)).1 = (runT g T y k).1 ∨ (onT T y k = true ∧ (runT g T y (k + 1)).1 = stepT g T y k (runT g T y k).1) := by
  cases ho : (runT g T y k).2.2 with
  | true => rw [runT_over g T y k ho 1]; exact .inl rfl
  | false =>
    cases hn : onT T y k with
    | false => rw [runT_off g T y k hn]; exact .inl rfl
    | true =>
      by_cases hm : 16 < (runT g T y k).2.1 + cellsT T k
      · rw [runT_many g T y k ho hn hm]; exact .inl rfl
      · rw [runT_on g T y k ho hn hm]; exact .inr ⟨rfl, rfl⟩
theorem runT_keep (g : Int → Int) (T : Nat → Int) (y : Int) (k x : Nat) (h : ((runT g T y k).1 x).1 ≠ 0) : ∀ j, ((runT g T y (k + j)).1 x).1 = ((runT g T y k).1 x).1 ∧ ((runT g T y (k + j)).1 x).2.1 = ((runT g T y k).1 x).2.1
  | 0 => ⟨rfl, rfl⟩
  | j + 1 => by
    have ih := runT_keep g T y k x h j
    rcases runT_cases g T y (k + j) with e | ⟨_, e⟩
    · rw [show k + (j + 1) = k + j + 1 from rfl, e]; exact ih
    · rw [show k + (j + 1) = k + j + 1 from rfl, e]
      have q := stepT_keep g T y (k + j) (runT g T y (k + j)).1 x (by rw [ih.1]; exact h)
      exact ⟨q.1.trans ih.1, q.2.trans ih.2⟩
/-- Where all but the first are off the line. -/
theorem runT_alone (g : Int → Int) (T : Nat → Int) (y : Int) (h : ∀ k, 1 ≤ k → onT T y k = false) : ∀ n, runT g T y (n + 1) = runT g T y 1
  | 0 => rfl
  | n + 1 => by rw [runT_off g T y (n + 1) (h _ (by omega)), runT_alone g T y h n]
theorem runT_one_congr (g : Int → Int) (T U : Nat → Int) (y : Int) (h0 : T 0 = U 0) (h1 : T 1 = U 1) (h2 : T 2 = U 2) (h3 : T 3 = U 3) : runT g T y 1 = runT g U y 1 := by
  have eo : onT T y 0 = onT U y 0 := by unfold onT; rw [show T (4 * 0) = U (4 * 0) from h0, show T (4 * 0 + 3) = U (4 * 0 + 3) from h3]
  have ec : cellsT T 0 = cellsT U 0 := by unfold cellsT; rw [show T (4 * 0 + 3) = U (4 * 0 + 3) from h3]
  have es : ∀ S, stepT g T y 0 S = stepT g U y 0 S := fun S => by
    unfold stepT dotT
    rw [show T (4 * 0) = U (4 * 0) from h0, show T (4 * 0 + 1) = U (4 * 0 + 1) from h1, show T (4 * 0 + 2) = U (4 * 0 + 2) from h2, show T (4 * 0 + 3) = U (4 * 0 + 3) from h3]
  show (if (runT g T y 0).2.2 = true then runT g T y 0 else if onT T y 0 = true then _ else runT g T y 0) = (if (runT g U y 0).2.2 = true then runT g U y 0 else if onT U y 0 = true then _ else runT g U y 0)
  rw [eo, ec, es]
  rfl
/-- Behind the first sprite: no more than two cells, nothing is touched. -/
theorem runT_one (g : Int → Int) (T : Nat → Int) (y : Int) : (runT g T y 1).2.2 = false ∧ ∀ x, ((runT g T y 1).1 x).2.2.2 = false ∧ (((runT g T y 1).1 x).1 = 0 → (runT g T y 1).1 x = (0, false, false, false)) := by
  cases hn : onT T y 0 with
  | false => rw [runT_off g T y 0 hn]; exact ⟨rfl, fun x => ⟨rfl, fun _ => rfl⟩⟩
  | true =>
    have hc := cellsT_is T 0
    rw [runT_on g T y 0 rfl hn (by show ¬ 16 < (0 : Int) + cellsT T 0; omega)]
    refine ⟨rfl, fun x => ?_⟩
    have hd := pixS_le g (sprC (T (4 * 0 + 2)) (sprW (T (4 * 0 + 3))) (sprH (T (4 * 0 + 3)))) (sprW (T (4 * 0 + 3))) (sprH (T (4 * 0 + 3))) (sprB (T (4 * 0 + 3)) 11) (sprB (T (4 * 0 + 3)) 15) (y - sprY (T (4 * 0))) ((x : Int) - sprX (T (4 * 0 + 1)))
    have hp := sprP_le (T (4 * 0 + 3))
    show (stepT g T y 0 (fun _ => (0, false, false, false)) x).2.2.2 = false ∧ ((stepT g T y 0 (fun _ => (0, false, false, false)) x).1 = 0 → stepT g T y 0 (fun _ => (0, false, false, false)) x = (0, false, false, false))
    rw [stepT_at]
    split
    · unfold layP dotT
      split
      · exact ⟨rfl, fun _ => rfl⟩
      · rw [if_pos rfl]
        exact ⟨rfl, fun e => by
          have e' : sprP (T (4 * 0 + 3)) * 16 + pixS g (sprC (T (4 * 0 + 2)) (sprW (T (4 * 0 + 3))) (sprH (T (4 * 0 + 3)))) (sprW (T (4 * 0 + 3))) (sprH (T (4 * 0 + 3))) (sprB (T (4 * 0 + 3)) 11) (sprB (T (4 * 0 + 3)) 15) (y - sprY (T (4 * 0))) ((x : Int) - sprX (T (4 * 0 + 1))) = 0 := e
          omega⟩
    · exact ⟨rfl, fun _ => rfl⟩
/-- Where the first is off the line nothing is touched. -/
theorem runT_nohit (g : Int → Int) (T : Nat → Int) (y : Int) (h : onT T y 0 = false) : ∀ k x, ((runT g T y k).1 x).2.2.1 = false ∧ ((runT g T y k).1 x).2.2.2 = false
  | 0, x => ⟨rfl, rfl⟩
  | k + 1, x => by
    have ih := runT_nohit g T y h k x
    rcases runT_cases g T y k with e | ⟨hk, e⟩
    · rw [e]; exact ih
    · rw [e, stepT_at]
      have hk0 : (k == 0) = false := by
        rw [Bool.eq_false_iff]
        intro q
        have : k = 0 := by simpa using q
        subst this
        rw [h] at hk
        cases hk
      split
      · unfold layP
        split
        · exact ih
        · split
          · exact ⟨hk0, ih.2⟩
          · rw [if_neg (by rw [ih.1]; decide)]; exact ih
      · exact ih
theorem anyHit_none {N : Nat} {S : Nat → Pos} (h : ∀ x, (S x).2.2.2 = false) : anyHit N S = false := by
  rw [Bool.eq_false_iff]
  intro q
  obtain ⟨x, _, k⟩ := (anyHit_iff _ _).1 q
  rw [h x] at k
  cases k
theorem on_congr (g : Int → Int) (T U : Nat → Int) (y : Int) (k : Nat) (h : ∀ j, 4 * k ≤ j → j < 4 * k + 4 → T j = U j) : onT T y k = onT U y k ∧ cellsT T k = cellsT U k ∧ ∀ S, stepT g T y k S = stepT g U y k S := by
  have h0 := h (4 * k) (by omega) (by omega)
  have h1 := h (4 * k + 1) (by omega) (by omega)
  have h2 := h (4 * k + 2) (by omega) (by omega)
  have h3 := h (4 * k + 3) (by omega) (by omega)
  refine ⟨by unfold onT; rw [h0, h3], by unfold cellsT; rw [h3], fun S => ?_⟩
  unfold stepT dotT
  rw [h0, h1, h2, h3]
/-- Without the first sprite the others are as they were, where it has no pixel. -/
theorem runT_rest (g : Int → Int) (T U : Nat → Int) (y : Int) (hU : onT U y 0 = false) (h : ∀ j, 4 ≤ j → T j = U j) : ∀ k, (runT g T y (k + 1)).2.2 = false →
    (runT g U y (k + 1)).2.2 = false ∧ (runT g U y (k + 1)).2.1 ≤ (runT g T y (k + 1)).2.1 ∧ ∀ x, ((runT g T y 1).1 x).1 = 0 → ((runT g T y (k + 1)).1 x).1 = ((runT g U y (k + 1)).1 x).1 ∧ ((runT g T y (k + 1)).1 x).2.1 = ((runT g U y (k + 1)).1 x).2.1
  | 0, _ => by
    rw [runT_off g U y 0 hU]
    refine ⟨rfl, (runT_taken g T y 1).1, fun x hx => ?_⟩
    rw [((runT_one g T y).2 x).2 hx]
    exact ⟨rfl, rfl⟩
  | k + 1, ho => by
    have ho1 : (runT g T y (k + 1)).2.2 = false := by
      cases q : (runT g T y (k + 1)).2.2 with
      | false => rfl
      | true => rw [runT_over g T y (k + 1) q 1, q] at ho; cases ho
    obtain ⟨i1, i2, i3⟩ := runT_rest g T U y hU h k ho1
    obtain ⟨eo, ec, es⟩ := on_congr g T U y (k + 1) (fun j h1 _ => h j (by omega))
    cases hn : onT T y (k + 1) with
    | false =>
      rw [runT_off g T y (k + 1) hn, runT_off g U y (k + 1) (by rw [← eo]; exact hn)]
      exact ⟨i1, i2, i3⟩
    | true =>
      have hm : ¬ 16 < (runT g T y (k + 1)).2.1 + cellsT T (k + 1) := fun q => by
        rw [runT_many g T y (k + 1) ho1 hn q] at ho
        cases ho
      rw [runT_on g T y (k + 1) ho1 hn hm, runT_on g U y (k + 1) i1 (by rw [← eo]; exact hn) (by rw [← ec]; omega)]
      refine ⟨rfl, by show (runT g U y (k + 1)).2.1 + cellsT U (k + 1) ≤ (runT g T y (k + 1)).2.1 + cellsT T (k + 1); rw [← ec]; omega, fun x hx => ?_⟩
      show (stepT g T y (k + 1) (runT g T y (k + 1)).1 x).1 = (stepT g U y (k + 1) (runT g U y (k + 1)).1 x).1 ∧ (stepT g T y (k + 1) (runT g T y (k + 1)).1 x).2.1 = (stepT g U y (k + 1) (runT g U y (k + 1)).1 x).2.1
      rw [← es, stepT_at, stepT_at]
      have q := i3 x hx
      split
      · exact layP_cong _ _ _ _ q.1 q.2
      · exact q
/-- A sprite of words that are 0 is above all lines. -/
theorem on_zero (T : Nat → Int) (y : Int) (k : Nat) (hy : 0 ≤ y) (h0 : T (4 * k) = 0) (h3 : T (4 * k + 3) = 0) : onT T y k = false := by
  unfold onT
  rw [h0, h3, show sprY 0 = -64 from rfl, show sprH 0 = 16 from rfl, decide_eq_false (show ¬ y < -64 + 16 by omega), Bool.and_false]
end Go.Proofs.YtnhjhmfiapjenaaDoor
