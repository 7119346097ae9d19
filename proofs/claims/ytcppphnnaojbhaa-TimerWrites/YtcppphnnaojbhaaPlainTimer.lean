/- Steps and rounds of a timer: numbers alone, no word of the program is in it. -/
import Derived.Test.YtcppphnnaojbhaaPlain
namespace Go.Proofs.Ytcppphnnaojbhaa
set_option linter.unusedVariables false

/-- How often a timer comes round in s steps, and where its Count is then. -/
def rndOf (r c s : Int) : Int := max 0 (s - c + r) / (r + 1)
def cntOf (r c s : Int) : Int := c + (rndOf r c s * (r + 1) - s)
/-- What tells them apart from any other pair. -/
def Is (r c s n x : Int) : Prop := 0 ≤ n ∧ 0 ≤ x ∧ x = c + (n * (r + 1) - s) ∧ (n = 0 ∨ x ≤ r)
theorem rnd_low {r c s : Int} (r0 : 0 ≤ r) (h : s ≤ c) : rndOf r c s = 0 := by
  unfold rndOf
  exact Int.ediv_eq_zero_of_lt (by omega) (by omega)
theorem rnd_is (r c s : Int) (r0 : 0 ≤ r) (c0 : 0 ≤ c) : Is r c s (rndOf r c s) (cntOf r c s) := by
  unfold Is
  by_cases h : s ≤ c
  · have e := rnd_low r0 h
    unfold cntOf
    rw [e, Int.zero_mul]
    exact ⟨by omega, by omega, rfl, .inl rfl⟩
  · have e : rndOf r c s = (s - c + r) / (r + 1) := by unfold rndOf; rw [show max 0 (s - c + r) = s - c + r by omega]
    have h1 := Int.emod_nonneg (s - c + r) (b := r + 1) (by omega)
    have h2 := Int.emod_lt_of_pos (s - c + r) (b := r + 1) (by omega)
    have h3 := Int.mul_ediv_add_emod (s - c + r) (r + 1)
    have h4 : 0 ≤ (s - c + r) / (r + 1) := Int.ediv_nonneg (by omega) (by omega)
    unfold cntOf
    rw [e]
    rw [Int.mul_comm] at h3
    exact ⟨h4, by omega, rfl, .inr (by omega)⟩
theorem rnd_mul (r c s : Int) (r0 : 0 ≤ r) (c0 : 0 ≤ c) (s0 : 0 ≤ s) (r1 : r ≤ 127) : 0 ≤ rndOf r c s * (r + 1) ∧ rndOf r c s * (r + 1) ≤ s + 127 := by
  have h := rnd_is r c s r0 c0
  obtain ⟨h1, h2, h3, h4⟩ := h
  refine ⟨Int.mul_nonneg h1 (by omega), ?_⟩
  rcases h4 with h4 | h4
  · rw [h4, Int.zero_mul]; omega
  · omega
theorem is_one {r c s n x m y : Int} (r0 : 0 ≤ r) (h : Is r c s n x) (k : Is r c s m y) : n = m ∧ x = y := by
  obtain ⟨h1, h2, h3, h4⟩ := h
  obtain ⟨k1, k2, k3, k4⟩ := k
  have key : ∀ a b x y : Int, 0 ≤ b → x = c + (a * (r + 1) - s) → y = c + (b * (r + 1) - s) → 0 ≤ y → (a = 0 ∨ x ≤ r) → ¬ b < a := by
    intro a b x y b0 ha hb hy hl hlt
    have hx : x ≤ r := by omega
    have hm : (b + 1) * (r + 1) ≤ a * (r + 1) := Int.mul_le_mul_of_nonneg_right (by omega) (by omega)
    rw [Int.add_mul] at hm
    omega
  have a1 := key n m x y k1 h3 k3 k2 h4
  have a2 := key m n y x h1 k3 h3 h2 k4
  have e : n = m := by omega
  subst e
  exact ⟨rfl, by omega⟩
theorem is_eq {r c s n x : Int} (r0 : 0 ≤ r) (c0 : 0 ≤ c) (h : Is r c s n x) : rndOf r c s = n ∧ cntOf r c s = x := is_one r0 (rnd_is r c s r0 c0) h
/-- In two parts. -/
theorem is_parts {r c s n x t m y : Int} (t0 : 0 ≤ t) (h : Is r c s n x) (k : Is r x t m y) : Is r c (s + t) (n + m) y := by
  obtain ⟨h1, h2, h3, h4⟩ := h
  obtain ⟨k1, k2, k3, k4⟩ := k
  refine ⟨by omega, k2, by rw [Int.add_mul]; omega, ?_⟩
  rcases k4 with k4 | k4
  · subst k4
    rw [Int.zero_mul] at k3
    omega
  · exact .inr k4
theorem is_zero (r c : Int) (c0 : 0 ≤ c) : Is r c 0 0 c := ⟨by omega, c0, by rw [Int.zero_mul]; omega, .inl rfl⟩
/-- One step more. -/
theorem is_step0 {r c s n : Int} (r0 : 0 ≤ r) (h : Is r c s n 0) : Is r c (s + 1) (n + 1) r := by
  obtain ⟨h1, h2, h3, h4⟩ := h
  exact ⟨by omega, r0, by rw [Int.add_mul]; omega, .inr (by omega)⟩
theorem is_step {r c s n x : Int} (x0 : 1 ≤ x) (h : Is r c s n x) : Is r c (s + 1) n (x - 1) := by
  obtain ⟨h1, h2, h3, h4⟩ := h
  exact ⟨by omega, by omega, by omega, by omega⟩
theorem is_le {r c s n x : Int} (r1 : r ≤ 127) (c1 : c ≤ 127) (s0 : 0 ≤ s) (h : Is r c s n x) : x ≤ 127 := by
  obtain ⟨h1, h2, h3, h4⟩ := h
  rcases h4 with h4 | h4
  · subst h4
    rw [Int.zero_mul] at h3
    omega
  · omega
end Go.Proofs.Ytcppphnnaojbhaa
