/- Plain facts on numbers and bits that the walks of this seat use: no word of the program is in it. -/
import Derived.Laws.BitsLemmas
namespace Go.Proofs.Ytagpcfjagaegkaa

theorem i64_small (n : Int) (h0 : 0 ≤ n) (h1 : n < 2 ^ 62) : IntKind.i64.wrap n = n := by
  rw [IntKind.wrap_i64]; omega

/-- A mask of the lowest j bits is the rest modulo 2^j, also below 0. -/
theorem and_mask (j : Nat) (hj : j ≤ 62) (n : Int) : bits .and .i64 n ((2 ^ j - 1 : Nat) : Int) = n % ((2 ^ j : Nat) : Int) := by
  have hp : 2 ^ j ≤ 2 ^ 62 := Nat.pow_le_pow_right (by decide) hj
  have hpos : 0 < 2 ^ j := Nat.two_pow_pos j
  have hm : (BitVec.ofInt 64 ((2 ^ j - 1 : Nat) : Int)).toNat = 2 ^ j - 1 := by
    rw [BitVec.ofInt_natCast, BitVec.toNat_ofNat]
    exact Nat.mod_eq_of_lt (by omega)
  have key : (BitVec.ofInt 64 n &&& BitVec.ofInt 64 ((2 ^ j - 1 : Nat) : Int)).toNat = (n % ((2 ^ 64 : Nat) : Int)).toNat % 2 ^ j := by
    rw [BitVec.toNat_and, BitVec.toNat_ofInt, hm, Nat.and_two_pow_sub_one_eq_mod]
  show IntKind.i64.wrap ((BitVec.ofInt 64 n &&& BitVec.ofInt 64 ((2 ^ j - 1 : Nat) : Int)).toNat : Nat) = _
  have hlt : (n % ((2 ^ 64 : Nat) : Int)).toNat % 2 ^ j < 2 ^ j := Nat.mod_lt _ hpos
  rw [key, i64_small _ (by omega) (by omega)]
  have h1 : 0 ≤ n % ((2 ^ 64 : Nat) : Int) := Int.emod_nonneg _ (by decide)
  rw [Int.natCast_emod, Int.toNat_of_nonneg h1]
  exact Int.emod_emod_of_dvd n (by
    have : 2 ^ j ∣ 2 ^ 64 := Nat.pow_dvd_pow 2 (by omega)
    exact_mod_cast this)

theorem and_1 (n : Int) : bits .and .i64 n 1 = n % 2 := and_mask 1 (by decide) n
theorem and_3 (n : Int) : bits .and .i64 n 3 = n % 4 := and_mask 2 (by decide) n
theorem and_7 (n : Int) : bits .and .i64 n 7 = n % 8 := and_mask 3 (by decide) n
theorem and_15 (n : Int) : bits .and .i64 n 15 = n % 16 := and_mask 4 (by decide) n
theorem and_255 (n : Int) : bits .and .i64 n 255 = n % 256 := and_mask 8 (by decide) n
theorem and_65535 (n : Int) : bits .and .i64 n 65535 = n % 65536 := and_mask 16 (by decide) n

theorem and_or_nat (a b : Nat) (ha : a < 2 ^ 62) (hb : b < 2 ^ 62) :
    bits .and .i64 (a : Int) (b : Int) = ((a &&& b : Nat) : Int) ∧ bits .or .i64 (a : Int) (b : Int) = ((a ||| b : Nat) : Int) :=
  bits_nat .i64 62 (by decide) i64_small a b ha hb

theorem or_zero (a : Int) (h0 : 0 ≤ a) (h1 : a < 2 ^ 62) : bits .or .i64 0 a = a := by
  obtain ⟨a, rfl⟩ := Int.eq_ofNat_of_zero_le h0
  have := (and_or_nat 0 a (by decide) (by omega)).2
  simpa using this

theorem or_comm (a b : Int) : bits .or .i64 a b = bits .or .i64 b a := by simp only [bits, BitVec.or_comm]

/-- Two numbers whose bits are apart: or is their sum. -/
theorem or_add (i : Nat) (x y : Int) (hx0 : 0 ≤ x) (hx : x % 2 ^ i = 0) (hx1 : x < 2 ^ 62) (hy0 : 0 ≤ y) (hy : y < 2 ^ i) (hy1 : y < 2 ^ 62) : bits .or .i64 x y = x + y :=
  bits_join .i64 62 (by decide) i64_small i x y hx0 hx hx1 hy0 hy hy1

theorem bv_apart (x y : BitVec 64) : (x &&& y) &&& (x &&& ~~~y) = 0#64 := by
  ext i hi
  simp only [BitVec.getElem_and, BitVec.getElem_not, BitVec.getElem_zero]
  cases x[i] <;> cases y[i] <;> rfl
theorem bv_whole (x y : BitVec 64) : (x &&& y) + (x &&& ~~~y) = x := by
  rw [BitVec.add_eq_or_of_and_eq_zero _ _ (bv_apart x y)]
  ext i hi
  simp only [BitVec.getElem_and, BitVec.getElem_not, BitVec.getElem_or]
  cases x[i] <;> cases y[i] <;> rfl

theorem and_pow (a k : Nat) : a &&& 2 ^ k = (a / 2 ^ k % 2) * 2 ^ k := by
  have hb : a.testBit k = decide (a / 2 ^ k % 2 = 1) := Nat.testBit_eq_decide_div_mod_eq
  apply Nat.eq_of_testBit_eq
  intro i
  rw [Nat.testBit_and, Nat.testBit_two_pow]
  rcases Nat.mod_two_eq_zero_or_one (a / 2 ^ k) with h | h
  · rw [h] at hb ⊢
    by_cases e : k = i
    · subst e; simp [hb]
    · simp [e]
  · rw [h] at hb ⊢
    rw [Nat.one_mul, Nat.testBit_two_pow]
    by_cases e : k = i
    · subst e; simp [hb]
    · simp [e]

/-- A number and one of its bits struck. -/
theorem andNot_pow (a k : Nat) (ha : a < 2 ^ 62) (hk : k < 62) : bits .andNot .i64 (a : Int) ((2 ^ k : Nat) : Int) = ((a - (a / 2 ^ k % 2) * 2 ^ k : Nat) : Int) := by
  have hp : 2 ^ k < 2 ^ 62 := Nat.pow_lt_pow_right (by decide) hk
  have ha' : (BitVec.ofNat 64 a).toNat = a := by rw [BitVec.toNat_ofNat]; exact Nat.mod_eq_of_lt (by omega)
  have hb' : (BitVec.ofNat 64 (2 ^ k)).toNat = 2 ^ k := by rw [BitVec.toNat_ofNat]; exact Nat.mod_eq_of_lt (by omega)
  have ht := BitVec.toNat_add_of_and_eq_zero (bv_apart (BitVec.ofNat 64 a) (BitVec.ofNat 64 (2 ^ k)))
  rw [bv_whole, ha', BitVec.toNat_and (BitVec.ofNat 64 a) (BitVec.ofNat 64 (2 ^ k)), ha', hb', and_pow] at ht
  show IntKind.i64.wrap ((BitVec.ofInt 64 (a : Int) &&& ~~~ BitVec.ofInt 64 ((2 ^ k : Nat) : Int)).toNat : Nat) = _
  rw [BitVec.ofInt_natCast, BitVec.ofInt_natCast]
  have e : (BitVec.ofNat 64 a &&& ~~~ BitVec.ofNat 64 (2 ^ k)).toNat = a - (a / 2 ^ k % 2) * 2 ^ k := by omega
  rw [e, i64_small _ (by omega) (by omega)]

theorem andNot_pow_int (a k : Int) (h0 : 0 ≤ a) (ha : a < 2 ^ 62) (hk0 : 0 ≤ k) (hk : k < 62) : bits .andNot .i64 a (2 ^ k.toNat) = a - a / 2 ^ k.toNat % 2 * 2 ^ k.toNat := by
  obtain ⟨a, rfl⟩ := Int.eq_ofNat_of_zero_le h0
  obtain ⟨k, rfl⟩ := Int.eq_ofNat_of_zero_le hk0
  have h := andNot_pow a k (by omega) (by omega)
  have hle : a / 2 ^ k % 2 * 2 ^ k ≤ a := by rw [← and_pow]; exact Nat.and_le_left
  rw [Int.natCast_sub hle] at h
  simpa using h

/-! ### What the document says of bits -/
/-- The k-th bit of the word of n; 0 where k is not from 0 to 15. -/
def bitOf (n k : Int) : Int := if 0 ≤ k ∧ k < 16 then n % 65536 / 2 ^ k.toNat % 2 else 0
/-- The word of n with the k-th bit set, or not. -/
def putOf (n k : Int) (on : Bool) : Int := if 0 ≤ k ∧ k < 16 then n % 65536 - bitOf n k * 2 ^ k.toNat + (if on = true then 2 ^ k.toNat else 0) else n % 65536
/-- How many of the lowest k bits are set. -/
def onesTo (n : Int) : Nat → Int
  | 0 => 0
  | k + 1 => onesTo n k + bitOf n k
/-- The lowest k bits the other way round. -/
def revTo (n : Int) : Nat → Int
  | 0 => 0
  | k + 1 => revTo n k * 2 + bitOf n k
def signOf (n : Int) : Int := if 128 ≤ n % 256 then n % 256 - 256 else n % 256
/-- All bits of some numbers together. -/
def orAll (zs : List Int) : Int := zs.foldl (bits .or .i64) 0

theorem orAll_step (zs : List Int) (k : Nat) (hk : k < zs.length) : orAll (zs.take (k + 1)) = bits .or .i64 (orAll (zs.take k)) (zs[k]?.getD 0) := by
  unfold orAll
  rw [List.take_add_one, List.foldl_append]
  simp [List.getElem?_eq_getElem hk]

theorem bitOf_01 (n k : Int) : 0 ≤ bitOf n k ∧ bitOf n k ≤ 1 := by unfold bitOf; split <;> omega
theorem onesTo_le (n : Int) : ∀ k : Nat, 0 ≤ onesTo n k ∧ onesTo n k ≤ k
  | 0 => by simp [onesTo]
  | k + 1 => by have := onesTo_le n k; have := bitOf_01 n k; simp only [onesTo]; omega
theorem revTo_le (n : Int) : ∀ k : Nat, 0 ≤ revTo n k ∧ revTo n k < 2 ^ k
  | 0 => by simp [revTo]
  | k + 1 => by
    have h := revTo_le n k; have := bitOf_01 n k
    have e : (2 : Int) ^ (k + 1) = 2 ^ k * 2 := by rw [Int.pow_succ]
    simp only [revTo, e]; omega

theorem pow_16 (k : Int) (h0 : 0 ≤ k) (h1 : k < 16) : (1 : Int) ≤ 2 ^ k.toNat ∧ (2 : Int) ^ k.toNat ≤ 32768 := by
  have : k = 0 ∨ k = 1 ∨ k = 2 ∨ k = 3 ∨ k = 4 ∨ k = 5 ∨ k = 6 ∨ k = 7 ∨ k = 8 ∨ k = 9 ∨ k = 10 ∨ k = 11 ∨ k = 12 ∨ k = 13 ∨ k = 14 ∨ k = 15 := by omega
  rcases this with h | h | h | h | h | h | h | h | h | h | h | h | h | h | h | h <;> subst h <;> decide

def inW (k : Int) : Bool := decide (0 ≤ k ∧ k < 16)
theorem inW_yes {k : Int} (h0 : 0 ≤ k) (h1 : k < 16) : inW k = true := by simp [inW, h0, h1]
theorem inW_no {k : Int} (h : ¬ (0 ≤ k ∧ k < 16)) : inW k = false := by simp only [inW, h, decide_false]

theorem orAll_join (a b : Int) : orAll [a % 256, b % 256 * 256] = a % 256 + 256 * (b % 256) := by
  unfold orAll
  simp only [List.foldl]
  rw [or_zero _ (by omega) (by omega), or_comm, or_add 8 _ _ (by omega) (by omega) (by omega) (by omega) (by omega) (by omega)]
  omega

theorem cases16 {k : Int} (h0 : 0 ≤ k) (h1 : k < 16) : k = 0 ∨ k = 1 ∨ k = 2 ∨ k = 3 ∨ k = 4 ∨ k = 5 ∨ k = 6 ∨ k = 7 ∨ k = 8 ∨ k = 9 ∨ k = 10 ∨ k = 11 ∨ k = 12 ∨ k = 13 ∨ k = 14 ∨ k = 15 := by omega

/-- A word without one of its bits, and then that bit: or is the sum. -/
theorem orAll_put (n k : Int) (h0 : 0 ≤ k) (h1 : k < 16) : orAll [n % 65536 - bitOf n k * 2 ^ k.toNat, 2 ^ k.toNat] = n % 65536 - bitOf n k * 2 ^ k.toNat + 2 ^ k.toNat := by
  have hb : bitOf n k = n % 65536 / 2 ^ k.toNat % 2 := by unfold bitOf; rw [if_pos ⟨h0, h1⟩]
  rw [hb]
  have hw : 0 ≤ n % 65536 ∧ n % 65536 < 65536 := by omega
  generalize n % 65536 = m at *
  obtain ⟨k, rfl⟩ := Int.eq_ofNat_of_zero_le h0
  simp only [Int.toNat_natCast]
  have hk : k < 16 := by omega
  obtain ⟨m, rfl⟩ := Int.eq_ofNat_of_zero_le hw.1
  have hm : m < 65536 := by omega
  clear hw h0 h1 hb
  have hp1 : 0 < 2 ^ k := Nat.two_pow_pos k
  have hp2 : 2 ^ k ≤ 32768 := Nat.pow_le_pow_right (i := k) (j := 15) (by decide) (by omega)
  have hle : m / 2 ^ k % 2 * 2 ^ k ≤ m := by rw [← and_pow]; exact Nat.and_le_left
  have key : bits .or .i64 ((m - m / 2 ^ k % 2 * 2 ^ k : Nat) : Int) ((2 ^ k : Nat) : Int) = ((m - m / 2 ^ k % 2 * 2 ^ k + 2 ^ k : Nat) : Int) := by
    rw [(and_or_nat _ _ (by omega) (by omega)).2]
    congr 1
    have e : m - m / 2 ^ k % 2 * 2 ^ k = 2 ^ (k + 1) * (m / 2 ^ (k + 1)) + m % 2 ^ k := by
      have h1 := Nat.div_add_mod m (2 ^ k)
      have h2 := Nat.div_add_mod (m / 2 ^ k) 2
      rw [Nat.div_div_eq_div_mul, ← Nat.pow_succ] at h2
      have h3 : 2 ^ (k + 1) * (m / 2 ^ (k + 1)) = 2 ^ k * (2 * (m / 2 ^ (k + 1))) := by rw [Nat.pow_succ, Nat.mul_assoc]
      have h4 : 2 ^ k * (m / 2 ^ k) = 2 ^ k * (2 * (m / 2 ^ (k + 1))) + 2 ^ k * (m / 2 ^ k % 2) := by rw [← Nat.mul_add, h2]
      rw [h3, Nat.mul_comm (m / 2 ^ k % 2)]
      omega
    have hlo : m % 2 ^ k < 2 ^ k := Nat.mod_lt _ hp1
    rw [e]
    apply Nat.eq_of_testBit_eq
    intro i
    have hlo' : m % 2 ^ k < 2 ^ (k + 1) := by rw [Nat.pow_succ]; omega
    have hlo2 : 2 ^ k + m % 2 ^ k < 2 ^ (k + 1) := by rw [Nat.pow_succ]; omega
    have hsum : 2 ^ (k + 1) * (m / 2 ^ (k + 1)) + m % 2 ^ k + 2 ^ k = 2 ^ (k + 1) * (m / 2 ^ (k + 1)) + (2 ^ k + m % 2 ^ k) := by omega
    have hor : 2 ^ k + m % 2 ^ k = 2 ^ k ||| m % 2 ^ k := by
      have := Nat.two_pow_add_eq_or_of_lt hlo 1
      simpa using this
    rw [hsum, hor, Nat.two_pow_add_eq_or_of_lt hlo', Nat.two_pow_add_eq_or_of_lt (by rw [← hor]; exact hlo2)]
    simp only [Nat.testBit_or]
    cases (2 ^ (k + 1) * (m / 2 ^ (k + 1))).testBit i <;> cases (m % 2 ^ k).testBit i <;> cases (2 ^ k).testBit i <;> rfl
  unfold orAll
  simp only [List.foldl]
  have c1 : ((m : Int) - (m : Int) / 2 ^ k % 2 * 2 ^ k) = ((m - m / 2 ^ k % 2 * 2 ^ k : Nat) : Int) := by
    rw [Int.natCast_sub hle]; simp
  have c2 : (2 : Int) ^ k = ((2 ^ k : Nat) : Int) := by simp
  rw [c1, c2, or_zero _ (by omega) (by omega), key, Int.natCast_add]

theorem putOf_yes (n k : Int) (h0 : 0 ≤ k) (h1 : k < 16) : putOf n k true = n % 65536 - bitOf n k * 2 ^ k.toNat + 2 ^ k.toNat := by
  unfold putOf; rw [if_pos ⟨h0, h1⟩]; simp
theorem putOf_not (n k : Int) (h0 : 0 ≤ k) (h1 : k < 16) : putOf n k false = n % 65536 - bitOf n k * 2 ^ k.toNat := by
  unfold putOf; rw [if_pos ⟨h0, h1⟩]; simp
theorem putOf_out (n k : Int) (on : Bool) (h : ¬ (0 ≤ k ∧ k < 16)) : putOf n k on = n % 65536 := by
  unfold putOf; rw [if_neg h]
theorem bitOf_in (n k : Int) (h0 : 0 ≤ k) (h1 : k < 16) : bitOf n k = n % 65536 / 2 ^ k.toNat % 2 := by
  unfold bitOf; rw [if_pos ⟨h0, h1⟩]
theorem bitOf_out (n k : Int) (h : ¬ (0 ≤ k ∧ k < 16)) : bitOf n k = 0 := by unfold bitOf; rw [if_neg h]
theorem others (n k : Int) (h0 : 0 ≤ k) (h1 : k < 16) : bits .andNot .i64 (n % 65536) (2 ^ k.toNat) = n % 65536 - bitOf n k * 2 ^ k.toNat := by
  rw [bitOf_in n k h0 h1]
  exact andNot_pow_int _ _ (by omega) (by omega) h0 (by omega)

/-- Eight bits, each at its own place: or is the byte the other way round. -/
theorem orAll_rev (n : Int) : orAll [bitOf n 0 * 128, bitOf n 1 * 64, bitOf n 2 * 32, bitOf n 3 * 16, bitOf n 4 * 8, bitOf n 5 * 4, bitOf n 6 * 2, bitOf n 7] = revTo n 8 := by
  have h0 := bitOf_01 n 0; have h1 := bitOf_01 n 1; have h2 := bitOf_01 n 2; have h3 := bitOf_01 n 3
  have h4 := bitOf_01 n 4; have h5 := bitOf_01 n 5; have h6 := bitOf_01 n 6; have h7 := bitOf_01 n 7
  have hr : revTo n 8 = bitOf n 0 * 128 + bitOf n 1 * 64 + bitOf n 2 * 32 + bitOf n 3 * 16 + bitOf n 4 * 8 + bitOf n 5 * 4 + bitOf n 6 * 2 + bitOf n 7 := by
    simp only [revTo]
    show ((((((((0 : Int) * 2 + bitOf n 0) * 2 + bitOf n 1) * 2 + bitOf n 2) * 2 + bitOf n 3) * 2 + bitOf n 4) * 2 + bitOf n 5) * 2 + bitOf n 6) * 2 + bitOf n 7 = _
    omega
  rw [hr]
  generalize bitOf n 0 = b0 at *; generalize bitOf n 1 = b1 at *; generalize bitOf n 2 = b2 at *; generalize bitOf n 3 = b3 at *
  generalize bitOf n 4 = b4 at *; generalize bitOf n 5 = b5 at *; generalize bitOf n 6 = b6 at *; generalize bitOf n 7 = b7 at *
  unfold orAll
  simp only [List.foldl]
  rw [or_zero _ (by omega) (by omega)]
  rw [or_add 7 (b0 * 128) (b1 * 64) (by omega) (by omega) (by omega) (by omega) (by omega) (by omega)]
  rw [or_add 6 (b0 * 128 + b1 * 64) (b2 * 32) (by omega) (by omega) (by omega) (by omega) (by omega) (by omega)]
  rw [or_add 5 (b0 * 128 + b1 * 64 + b2 * 32) (b3 * 16) (by omega) (by omega) (by omega) (by omega) (by omega) (by omega)]
  rw [or_add 4 (b0 * 128 + b1 * 64 + b2 * 32 + b3 * 16) (b4 * 8) (by omega) (by omega) (by omega) (by omega) (by omega) (by omega)]
  rw [or_add 3 (b0 * 128 + b1 * 64 + b2 * 32 + b3 * 16 + b4 * 8) (b5 * 4) (by omega) (by omega) (by omega) (by omega) (by omega) (by omega)]
  rw [or_add 2 (b0 * 128 + b1 * 64 + b2 * 32 + b3 * 16 + b4 * 8 + b5 * 4) (b6 * 2) (by omega) (by omega) (by omega) (by omega) (by omega) (by omega)]
  rw [or_add 1 (b0 * 128 + b1 * 64 + b2 * 32 + b3 * 16 + b4 * 8 + b5 * 4 + b6 * 2) b7 (by omega) (by omega) (by omega) (by omega) (by omega) (by omega)]

theorem and_16383 (n : Int) : bits .and .i64 n 16383 = n % 16384 := and_mask 14 (by decide) n
theorem and_8191 (n : Int) : bits .and .i64 n 8191 = n % 8192 := and_mask 13 (by decide) n
theorem and_262143 (n : Int) : bits .and .i64 n 262143 = n % 262144 := and_mask 18 (by decide) n
end Go.Proofs.Ytagpcfjagaegkaa
