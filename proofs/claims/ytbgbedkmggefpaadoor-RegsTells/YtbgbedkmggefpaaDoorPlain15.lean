/- Plain facts on words under a mask: 'and', 'and not', and the document's sum of bits. No word of the program is in it. -/
import Derived.Test.YtbgbedkmggefpaaDoorPlainBits
import Derived.Test.YtbgbedkmggefpaaDoorKit
namespace Go.Proofs.YtbgbedkmggefpaaDoor

/-- The bits of a word that a mask has. -/
def andW (n m : Int) : Int := (((n % 65536).toNat &&& m.toNat : Nat) : Int)
def IsMask (m : Int) : Prop := 0 ≤ m ∧ m < 65536
theorem and_word (n m : Int) (h : IsMask m) : bits .and .i64 n m = andW n m := by
  obtain ⟨h0, h1⟩ := h
  obtain ⟨m, rfl⟩ := Int.eq_ofNat_of_zero_le h0
  have e : (BitVec.ofInt 64 n &&& BitVec.ofInt 64 (m : Int)).toNat = (n % 65536).toNat &&& m := by
    rw [BitVec.toNat_and, BitVec.ofInt_natCast, BitVec.toNat_ofNat, Nat.mod_eq_of_lt (by omega : m < 2 ^ 64), BitVec.toNat_ofInt]
    have h2 : m = m % 2 ^ 16 := (Nat.mod_eq_of_lt (by omega)).symm
    have h3 : (n % 65536).toNat = (n % ((2 ^ 64 : Nat) : Int)).toNat % 2 ^ 16 := by omega
    rw [h3]
    generalize (n % ((2 ^ 64 : Nat) : Int)).toNat = x
    conv => rhs; rw [h2, ← Nat.and_mod_two_pow]
    exact (Nat.mod_eq_of_lt (Nat.and_lt_two_pow _ (by omega))).symm
  show IntKind.i64.wrap ((BitVec.ofInt 64 n &&& BitVec.ofInt 64 (m : Int)).toNat : Nat) = _
  rw [e]
  have hl := Nat.and_lt_two_pow (n % 65536).toNat (n := 16) (y := m) (by omega)
  rw [i64_small _ (by omega) (by omega)]
  unfold andW
  simp
theorem andW_mask (n m : Int) (h : IsMask m) : IsMask (andW n m) := by
  obtain ⟨h0, h1⟩ := h
  unfold andW IsMask
  have hl := Nat.and_lt_two_pow (n % 65536).toNat (n := 16) (y := m.toNat) (by omega)
  omega
theorem andW_mod (n m : Int) : andW (n % 65536) m = andW n m := by unfold andW; rw [Int.emod_emod]
theorem andW_self (n m : Int) (h : IsMask m) : andW (andW n m) m = andW n m := by
  have k := andW_mask n m h
  have e : (andW n m % 65536).toNat = (n % 65536).toNat &&& m.toNat := by
    have : andW n m % 65536 = andW n m := Int.emod_eq_of_lt k.1 k.2
    rw [this]; unfold andW; simp
  show ((((andW n m) % 65536).toNat &&& m.toNat : Nat) : Int) = _
  rw [e, Nat.and_assoc, Nat.and_self]
  rfl

/-- The document's own: bit by bit, the lowest k of them. -/
def onlyTo (n m : Int) : Nat → Int
  | 0 => 0
  | k + 1 => onlyTo n m k + bitOf n k * bitOf m k * 2 ^ k
theorem only_mod (n m : Int) (h : IsMask m) : ∀ k : Nat, k ≤ 16 → onlyTo n m k = ((((n % 65536).toNat &&& m.toNat) % 2 ^ k : Nat) : Int)
  | 0, _ => by simp [onlyTo, Nat.mod_one]
  | k + 1, hk => by
    have ih := only_mod n m h k (by omega)
    have b1 := bitOf_test n k (by omega) (by omega)
    have b2 := bitOf_test m k (by omega) (by omega)
    have hm : m % 65536 = m := Int.emod_eq_of_lt h.1 h.2
    rw [hm] at b2
    simp only [Int.toNat_natCast] at b1 b2
    simp only [onlyTo]
    rw [ih, b1, b2, Nat.mod_pow_succ, ← Nat.toNat_testBit, Nat.testBit_and]
    by_cases c1 : (n % 65536).toNat.testBit k = true <;> by_cases c2 : m.toNat.testBit k = true <;> simp [c1, c2]
theorem only_16 (n m : Int) (h : IsMask m) : onlyTo n m 16 = andW n m := by
  rw [only_mod n m h 16 (by omega), Nat.mod_eq_of_lt (Nat.and_lt_two_pow _ (by have := h.1; have := h.2; omega))]
  rfl
theorem only_le (n m : Int) : ∀ k : Nat, k ≤ 16 → 0 ≤ onlyTo n m k ∧ onlyTo n m k < 2 ^ k
  | 0, _ => by simp [onlyTo]
  | k + 1, hk => by
    have ih := only_le n m k (by omega)
    have b1 := bitOf_01 n k
    have b2 := bitOf_01 m k
    have e : (2 : Int) ^ (k + 1) = 2 ^ k * 2 := by rw [Int.pow_succ]
    simp only [onlyTo, e]
    have c1 : bitOf n k = 0 ∨ bitOf n k = 1 := by omega
    have c2 : bitOf m k = 0 ∨ bitOf m k = 1 := by omega
    rcases c1 with c1 | c1 <;> rcases c2 with c2 | c2 <;> rw [c1, c2] <;> omega

/-- No bit beside the mask's. -/
def fits (n m : Int) : Bool := decide (0 ≤ n ∧ n ≤ 65535 ∧ andW n m = n)
theorem bic_fits (n m : Int) (hn : (Lit.int .i64 n).wf = true) (h : IsMask m) : (bits .andNot .i64 n m != 0) = !fits n m := by
  have hw : IntKind.i64.wrap n = n := by
    have k : IntKind.i64.min ≤ n ∧ n ≤ 9223372036854775807 := by simpa [Lit.wf] using hn
    rw [show IntKind.i64.min = -9223372036854775808 by decide] at k
    rw [IntKind.wrap_i64]
    omega
  have hand := and_word n m h
  have hm := andW_mask n m h
  have hs := bv_whole (BitVec.ofInt 64 n) (BitVec.ofInt 64 m)
  have hb : bits .andNot .i64 n m = IntKind.i64.wrap ((BitVec.ofInt 64 n &&& ~~~ BitVec.ofInt 64 m).toNat : Nat) := rfl
  have ha : bits .and .i64 n m = IntKind.i64.wrap ((BitVec.ofInt 64 n &&& BitVec.ofInt 64 m).toNat : Nat) := rfl
  have hx : ((BitVec.ofInt 64 n).toNat : Int) = n % ((2 ^ 64 : Nat) : Int) := by
    rw [BitVec.toNat_ofInt]
    exact Int.toNat_of_nonneg (Int.emod_nonneg _ (by decide))
  have ht := BitVec.toNat_add_of_and_eq_zero (bv_apart (BitVec.ofInt 64 n) (BitVec.ofInt 64 m))
  rw [hs] at ht
  rw [hand] at ha
  have l1 := (BitVec.ofInt 64 n &&& ~~~ BitVec.ofInt 64 m).isLt
  have l2 := (BitVec.ofInt 64 n &&& BitVec.ofInt 64 m).isLt
  have l3 := (BitVec.ofInt 64 n).isLt
  rw [hb]
  obtain ⟨m0, m1⟩ := hm
  generalize (BitVec.ofInt 64 n &&& ~~~ BitVec.ofInt 64 m).toNat = a at *
  generalize (BitVec.ofInt 64 n &&& BitVec.ofInt 64 m).toNat = b at *
  generalize (BitVec.ofInt 64 n).toNat = c at *
  rw [IntKind.wrap_i64] at ha hw ⊢
  unfold fits
  generalize andW n m = d at *
  by_cases hq : 0 ≤ n ∧ n ≤ 65535 ∧ d = n
  · rw [decide_eq_true hq]
    have : (a : Int) = 0 := by omega
    rw [this]
    decide
  · rw [decide_eq_false hq]
    have : ((a : Int) + 2 ^ 63) % 2 ^ 64 - 2 ^ 63 ≠ 0 := by omega
    simpa using this

/-- A word of two bytes, one of them new. -/
def lowOf (n b : Int) : Int := b % 256 + 256 * (n / 256 % 256)
def highOf (n b : Int) : Int := n % 256 + 256 * (b % 256)
theorem andW_two (x y m : Int) (hx : 0 ≤ x ∧ x < 256) (hy : 0 ≤ y ∧ y < 256) (h : IsMask m) : andW (x + 256 * y) m = ((x.toNat &&& (m.toNat % 256) : Nat) : Int) + 256 * ((y.toNat &&& (m.toNat / 256) : Nat) : Int) := by
  obtain ⟨m0, m1⟩ := h
  obtain ⟨x, rfl⟩ := Int.eq_ofNat_of_zero_le hx.1
  obtain ⟨y, rfl⟩ := Int.eq_ofNat_of_zero_le hy.1
  obtain ⟨m, rfl⟩ := Int.eq_ofNat_of_zero_le m0
  unfold andW
  have e : (((x : Int) + 256 * (y : Int)) % 65536).toNat = x + 256 * y := by omega
  rw [e]
  simp only [Int.toNat_natCast]
  have hmod : (((x + 256 * y) &&& m) % 2 ^ 8) = x &&& (m % 256) := by
    rw [Nat.and_mod_two_pow]
    congr 1
    omega
  have hdiv : (((x + 256 * y) &&& m) / 2 ^ 8) = y &&& (m / 256) := by
    rw [Nat.and_div_two_pow]
    congr 1
    omega
  omega
/-- Written whole, the low byte first. -/
theorem whole_word (w m : Int) (h : IsMask m) : andW (highOf (andW (lowOf 0 w) m) (w / 256)) m = andW w m := by
  have h0 := h
  obtain ⟨m0, m1⟩ := h0
  have e1 : lowOf 0 w = w % 256 + 256 * 0 := by unfold lowOf; omega
  have e2 : andW w m = andW (w % 256 + 256 * (w / 256 % 256)) m := by rw [← andW_mod]; congr 1; omega
  rw [e1, e2, andW_two _ _ m (by omega) (by omega) h, andW_two _ _ m (by omega) (by omega) h]
  have hl : (w % 256).toNat &&& (m.toNat % 256) < 2 ^ 8 := Nat.and_lt_two_pow _ (by omega)
  have e3 : highOf (((((w % 256).toNat &&& (m.toNat % 256) : Nat) : Int)) + 256 * (((0 : Int).toNat &&& (m.toNat / 256) : Nat) : Int)) (w / 256) = (((w % 256).toNat &&& (m.toNat % 256) : Nat) : Int) + 256 * (w / 256 % 256) := by
    unfold highOf
    simp
    omega
  rw [e3, andW_two _ _ m (by omega) (by omega) h]
  simp only [Int.toNat_natCast]
  rw [Nat.and_assoc, Nat.and_self]

/-- The bits that each register may have. -/
def maskL : List Int := [65535, 65535, 65535, 0, 0, 8191, 1023, 1023, 511, 255, 32543, 32639, 65311, 511, 255, 31, 65535, 65535, 65535, 65535]
def mk (k : Nat) : Int := maskL.getD k 0
theorem mk_all : ∀ k : Fin 20, 0 ≤ mk k.val ∧ mk k.val < 65536 ∧ andW (highOf (andW (lowOf 0 255) (mk k.val)) 255) (mk k.val) = mk k.val := by decide +kernel
theorem mk_mask (k : Nat) : IsMask (mk k) := by
  by_cases h : k < 20
  · have := mk_all ⟨k, h⟩
    exact ⟨this.1, this.2.1⟩
  · have e : mk k = 0 := by
      unfold mk
      rw [List.getD_eq_getElem?_getD, List.getElem?_eq_none (by simp [maskL]; omega)]
      rfl
    rw [e]
    exact ⟨by decide, by decide⟩
theorem whole_all (k : Nat) (h : k < 20) : andW (highOf (andW (lowOf 0 255) (mk k)) 255) (mk k) = mk k := (mk_all ⟨k, h⟩).2.2
/-- All registers may be. -/
def okTo (f : Nat → Int) : Nat → Bool
  | 0 => true
  | k + 1 => okTo f k && fits (f k) (mk k)
theorem okTo_iff (f : Nat → Int) : ∀ n : Nat, okTo f n = true ↔ ∀ k, k < n → fits (f k) (mk k) = true
  | 0 => by simp [okTo]
  | n + 1 => by
    simp only [okTo, Bool.and_eq_true, okTo_iff f n]
    constructor
    · rintro ⟨a, b⟩ k hk
      by_cases e : k = n
      · subst e; exact b
      · exact a k (by omega)
    · intro a
      exact ⟨fun k hk => a k (by omega), a n (by omega)⟩
def okR (s : Int) (f : Nat → Int) : Bool := okTo f 20 && decide (0 ≤ s ∧ s ≤ 31)
theorem fits_and (n : Int) (m : Int) (h : IsMask m) : fits (andW n m) m = true := by
  have k := andW_mask n m h
  unfold fits
  rw [andW_self n m h]
  exact decide_eq_true ⟨k.1, by have := k.2; omega, rfl⟩
theorem fits_0 (k : Nat) : fits 0 (mk k) = true := by
  unfold fits
  exact decide_eq_true ⟨by decide, by decide, by simp [andW]⟩
end Go.Proofs.YtbgbedkmggefpaaDoor
