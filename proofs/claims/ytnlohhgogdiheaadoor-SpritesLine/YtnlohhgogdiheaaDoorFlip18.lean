/- What SpritesFlip asks of one sprite alone: plain numbers. No word of the program is in it. -/
import Derived.Test.YtnlohhgogdiheaaDoorRuns18
namespace Go.Proofs.YtnlohhgogdiheaaDoor
open Go.RowKit
set_option linter.unusedVariables false

theorem and_low (j : Nat) (hj : j ≤ 62) (n : Int) (m : Nat) (hm : m < 2 ^ j) : bits .and .i64 n (m : Int) = (((n % ((2 ^ j : Nat) : Int)).toNat &&& m : Nat) : Int) := by
  have hp : 2 ^ j ≤ 2 ^ 62 := Nat.pow_le_pow_right (by decide) hj
  have hpos : 0 < 2 ^ j := Nat.two_pow_pos j
  have em : (BitVec.ofInt 64 (m : Int)).toNat = m := by
    rw [BitVec.ofInt_natCast, BitVec.toNat_ofNat]
    exact Nat.mod_eq_of_lt (by omega)
  have key : (BitVec.ofInt 64 n &&& BitVec.ofInt 64 (m : Int)).toNat = (n % ((2 ^ j : Nat) : Int)).toNat &&& m := by
    rw [BitVec.toNat_and, BitVec.toNat_ofInt, em]
    have e1 : ((n % ((2 ^ 64 : Nat) : Int)).toNat) % 2 ^ j = (n % ((2 ^ j : Nat) : Int)).toNat := by
      have h1 : 0 ≤ n % ((2 ^ 64 : Nat) : Int) := Int.emod_nonneg _ (by decide)
      have h2 : 0 ≤ n % ((2 ^ j : Nat) : Int) := Int.emod_nonneg _ (by omega)
      have h3 : n % ((2 ^ 64 : Nat) : Int) % ((2 ^ j : Nat) : Int) = n % ((2 ^ j : Nat) : Int) := Int.emod_emod_of_dvd n (by
        have : 2 ^ j ∣ 2 ^ 64 := Nat.pow_dvd_pow 2 (by omega)
        exact_mod_cast this)
      apply Int.ofNat.inj
      show (((n % ((2 ^ 64 : Nat) : Int)).toNat % 2 ^ j : Nat) : Int) = ((n % ((2 ^ j : Nat) : Int)).toNat : Int)
      rw [Int.natCast_emod, Int.toNat_of_nonneg h1, Int.toNat_of_nonneg h2, h3]
    rw [← e1]
    have e2 : m = m % 2 ^ j := (Nat.mod_eq_of_lt hm).symm
    generalize (n % ((2 ^ 64 : Nat) : Int)).toNat = x
    conv => rhs; rw [e2, ← Nat.and_mod_two_pow]
    exact (Nat.mod_eq_of_lt (Nat.and_lt_two_pow _ hm)).symm
  show IntKind.i64.wrap ((BitVec.ofInt 64 n &&& BitVec.ofInt 64 (m : Int)).toNat : Nat) = _
  rw [key]
  have := Nat.and_lt_two_pow (n % ((2 ^ j : Nat) : Int)).toNat hm
  exact i64_small _ (by omega) (by omega)
theorem mask_parts : ∀ a b : Fin 128, ((128 * a.val + b.val) &&& 12799) = (128 * a.val + b.val) % 512 + 4096 * ((128 * a.val + b.val) / 4096 % 4) := by decide +kernel
theorem mask_all (n : Fin 16384) : (n.val &&& 12799) = n.val % 512 + 4096 * (n.val / 4096 % 4) := by
  have h := mask_parts ⟨n.val / 128, by omega⟩ ⟨n.val % 128, by omega⟩
  simp only at h
  rw [show 128 * (n.val / 128) + n.val % 128 = n.val by omega] at h
  exact h
theorem attr_is (a : Int) : ∃ lo hi : Int, bits .and .i64 a 12799 = lo + 4096 * hi ∧ 0 ≤ lo ∧ lo < 512 ∧ 0 ≤ hi ∧ hi < 4 := by
  have h := and_low 14 (by decide) a 12799 (by decide)
  have k := mask_all ⟨(a % ((2 ^ 14 : Nat) : Int)).toNat, by have := Int.emod_lt_of_pos a (show (0 : Int) < ((2 ^ 14 : Nat) : Int) by decide); have := Int.emod_nonneg a (show ((2 ^ 14 : Nat) : Int) ≠ 0 by decide); omega⟩
  simp only at k
  rw [k] at h
  refine ⟨_, _, h.trans (by rw [Int.natCast_add, Int.natCast_mul]; rfl), by omega, by omega, by omega, by omega⟩
theorem or_all : ∀ (lo : Fin 512) (hi : Fin 4), bits .or .i64 ((lo.val : Int) + 4096 * (hi.val : Int)) 2048 = (lo.val : Int) + 4096 * (hi.val : Int) + 2048 ∧ bits .or .i64 ((lo.val : Int) + 4096 * (hi.val : Int)) 32768 = (lo.val : Int) + 4096 * (hi.val : Int) + 32768 := by decide +kernel
theorem or_is (lo hi : Int) (l0 : 0 ≤ lo) (l1 : lo < 512) (h0 : 0 ≤ hi) (h1 : hi < 4) : bits .or .i64 (lo + 4096 * hi) 2048 = lo + 4096 * hi + 2048 ∧ bits .or .i64 (lo + 4096 * hi) 32768 = lo + 4096 * hi + 32768 := by
  have k := or_all ⟨lo.toNat, by omega⟩ ⟨hi.toNat, by omega⟩
  simp only [Int.toNat_of_nonneg l0, Int.toNat_of_nonneg h0] at k
  exact k
theorem bit_at (n k : Int) (j : Nat) (hk : k = (j : Int)) (hj : j < 16) : bitOf n k = n % 65536 / 2 ^ j % 2 := by
  subst hk
  rw [bitOf_in n _ (by omega) (by omega)]
  rfl
/-- The parts that a turned sprite shares with the plain one. -/
theorem turn_same (lo hi : Int) (l0 : 0 ≤ lo) (l1 : lo < 512) (h0 : 0 ≤ hi) (h1 : hi < 4) (e : Int) (he : e = 2048 ∨ e = 32768) :
    sprW (lo + 4096 * hi + e) = sprW (lo + 4096 * hi) ∧ sprH (lo + 4096 * hi + e) = sprH (lo + 4096 * hi) ∧ sprP (lo + 4096 * hi + e) = sprP (lo + 4096 * hi) := by
  refine ⟨?_, ?_, ?_⟩
  · unfold sprW
    rw [bit_at _ 8 8 rfl (by decide), bit_at _ 8 8 rfl (by decide), show (lo + 4096 * hi + e) % 65536 / 2 ^ 8 % 2 = (lo + 4096 * hi) % 65536 / 2 ^ 8 % 2 by rcases he with rfl | rfl <;> omega]
  · unfold sprH
    rw [show (lo + 4096 * hi + e) / 4096 % 4 = (lo + 4096 * hi) / 4096 % 4 by rcases he with rfl | rfl <;> omega]
  · unfold sprP
    rcases he with rfl | rfl <;> omega
theorem turn_bits (lo hi : Int) (l0 : 0 ≤ lo) (l1 : lo < 512) (h0 : 0 ≤ hi) (h1 : hi < 4) :
    (sprB (lo + 4096 * hi) 11 = false ∧ sprB (lo + 4096 * hi) 15 = false) ∧ (sprB (lo + 4096 * hi + 2048) 11 = true ∧ sprB (lo + 4096 * hi + 2048) 15 = false) ∧ (sprB (lo + 4096 * hi + 32768) 11 = false ∧ sprB (lo + 4096 * hi + 32768) 15 = true) := by
  have z (n : Int) (h : n % 65536 / 2 ^ 11 % 2 = 0) : sprB n 11 = false := by unfold sprB; rw [bit_at n 11 11 rfl (by decide), h]; rfl
  have o (n : Int) (h : n % 65536 / 2 ^ 11 % 2 = 1) : sprB n 11 = true := by unfold sprB; rw [bit_at n 11 11 rfl (by decide), h]; rfl
  have z5 (n : Int) (h : n % 65536 / 2 ^ 15 % 2 = 0) : sprB n 15 = false := by unfold sprB; rw [bit_at n 15 15 rfl (by decide), h]; rfl
  have o5 (n : Int) (h : n % 65536 / 2 ^ 15 % 2 = 1) : sprB n 15 = true := by unfold sprB; rw [bit_at n 15 15 rfl (by decide), h]; rfl
  exact ⟨⟨z _ (by omega), z5 _ (by omega)⟩, ⟨o _ (by omega), z5 _ (by omega)⟩, ⟨z _ (by omega), o5 _ (by omega)⟩⟩
def colP (P p : Int) : Int := if p = 0 then 0 else P * 16 + p
/-- A line of one sprite alone, at the picture's upper left corner. -/
theorem runT_corner (g : Int → Int) (T : Nat → Int) (h0 : T 0 = 64) (h1 : T 1 = 32) (hz : ∀ j, 4 ≤ j → T j = 0) (y : Int) (hy0 : 0 ≤ y) (hy1 : y < sprH (T 3)) (i : Nat) :
    ((runT g T y 64).1 i).1 = if (i : Int) < sprW (T 3) then colP (sprP (T 3)) (pixS g (sprC (T 2) (sprW (T 3)) (sprH (T 3))) (sprW (T 3)) (sprH (T 3)) (sprB (T 3) 11) (sprB (T 3) 15) y i) else 0 := by
  have e1 : runT g T y 64 = runT g T y 1 := runT_alone g T y (fun k hk => on_zero T y k hy0 (hz _ (by omega)) (hz _ (by omega))) 63
  have on : onT T y 0 = true := by
    unfold onT
    rw [show T (4 * 0) = 64 from h0, show sprY 64 = 0 from rfl, decide_eq_true hy0, show T (4 * 0 + 3) = T 3 from rfl, decide_eq_true (show y < 0 + sprH (T 3) by omega)]
    rfl
  have hc := cellsT_is T 0
  rw [e1, runT_on g T y 0 rfl on (by show ¬ 16 < (0 : Int) + cellsT T 0; omega)]
  show (stepT g T y 0 (fun _ => (0, false, false, false)) i).1 = _
  rw [stepT_at, show T (4 * 0 + 1) = 32 from h1, show sprX 32 = 0 from rfl, show T (4 * 0 + 3) = T 3 from rfl]
  by_cases hw : (i : Int) < sprW (T 3)
  · rw [if_pos ⟨by omega, by omega⟩, if_pos hw]
    unfold dotT
    rw [show T (4 * 0) = 64 from h0, show sprY 64 = 0 from rfl, show T (4 * 0 + 3) = T 3 from rfl, show T (4 * 0 + 2) = T 2 from rfl, Int.sub_zero, Int.sub_zero]
    unfold layP colP
    split
    · rfl
    · rw [if_pos rfl]
  · rw [if_neg (by omega), if_neg hw]
theorem pix_over (g : Int → Int) (C W H : Int) (d i : Int) : pixS g C W H true false d (W - 1 - i) = pixS g C W H false false d i := by
  unfold pixS overS downS
  rw [if_pos rfl, if_neg (by decide), if_neg (by decide), show W - 1 - (W - 1 - i) = i by omega]
theorem pix_down (g : Int → Int) (C W H : Int) (d i : Int) : pixS g C W H false true (H - 1 - d) i = pixS g C W H false false d i := by
  unfold pixS overS downS
  rw [if_pos rfl, if_neg (by decide), if_neg (by decide), show H - 1 - (H - 1 - d) = d by omega]
end Go.Proofs.YtnlohhgogdiheaaDoor
