/- Plain facts on three bits: what is raised and not masked, and which of it is the first. No word of the program is in it. -/
import Derived.Test.YtnmdifgoimoecaaPlain
namespace Go.Proofs.Ytnmdifgoimoecaa

theorem wrap_mod8 (y : Int) : IntKind.i64.wrap y % 8 = y % 8 := by rw [IntKind.wrap_i64]; omega
theorem low_mod8 (n : Int) : (n % ((2 ^ 64 : Nat) : Int)).toNat % 2 ^ 3 = (n % 8).toNat := by omega
/-- Either, and one without the other, of the lowest three bits. -/
def or3 (a b : Int) : Int := (((a % 8).toNat ||| (b % 8).toNat : Nat) : Int)
def bic3 (a b : Int) : Int := (((a % 8).toNat ^^^ ((a % 8).toNat &&& (b % 8).toNat) : Nat) : Int)
def and3 (a b : Int) : Int := (((a % 8).toNat &&& (b % 8).toNat : Nat) : Int)
theorem or_mod8 (a b : Int) : bits .or .i64 a b % 8 = or3 a b := by
  have e : (BitVec.ofInt 64 a ||| BitVec.ofInt 64 b).toNat % 2 ^ 3 = (a % 8).toNat ||| (b % 8).toNat := by
    rw [BitVec.toNat_or, BitVec.toNat_ofInt, BitVec.toNat_ofInt, Nat.or_mod_two_pow, low_mod8, low_mod8]
  show IntKind.i64.wrap ((BitVec.ofInt 64 a ||| BitVec.ofInt 64 b).toNat : Nat) % 8 = _
  rw [wrap_mod8]
  unfold or3
  rw [← e]
  omega
theorem bic_mod8 (a b : Int) : bits .andNot .i64 a b % 8 = bic3 a b := by
  have k : BitVec.ofInt 64 a &&& ~~~ BitVec.ofInt 64 b = BitVec.ofInt 64 a ^^^ (BitVec.ofInt 64 a &&& BitVec.ofInt 64 b) := by
    ext i hi
    simp only [BitVec.getElem_and, BitVec.getElem_not, BitVec.getElem_xor]
    cases (BitVec.ofInt 64 a)[i] <;> cases (BitVec.ofInt 64 b)[i] <;> rfl
  have e : (BitVec.ofInt 64 a &&& ~~~ BitVec.ofInt 64 b).toNat % 2 ^ 3 = (a % 8).toNat ^^^ ((a % 8).toNat &&& (b % 8).toNat) := by
    rw [k, BitVec.toNat_xor, BitVec.toNat_and, BitVec.toNat_ofInt, BitVec.toNat_ofInt, Nat.xor_mod_two_pow, Nat.and_mod_two_pow, low_mod8, low_mod8]
  show IntKind.i64.wrap ((BitVec.ofInt 64 a &&& ~~~ BitVec.ofInt 64 b).toNat : Nat) % 8 = _
  rw [wrap_mod8]
  unfold bic3
  rw [← e]
  omega
/-- A mask of three bits sees three bits alone. -/
theorem and_low3 (n m : Int) (h0 : 0 ≤ m) (h1 : m < 8) : bits .and .i64 n m = and3 n m := by
  obtain ⟨m, rfl⟩ := Int.eq_ofNat_of_zero_le h0
  have hm8 : ((m : Int) % 8).toNat = m := by omega
  have e : (BitVec.ofInt 64 n &&& BitVec.ofInt 64 (m : Int)).toNat = (n % 8).toNat &&& m := by
    rw [BitVec.toNat_and, BitVec.ofInt_natCast, BitVec.toNat_ofNat, Nat.mod_eq_of_lt (by omega : m < 2 ^ 64), BitVec.toNat_ofInt]
    have h2 : m = m % 2 ^ 3 := (Nat.mod_eq_of_lt (by omega)).symm
    rw [← low_mod8]
    generalize (n % ((2 ^ 64 : Nat) : Int)).toNat = x
    conv => rhs; rw [h2, ← Nat.and_mod_two_pow]
    exact (Nat.mod_eq_of_lt (Nat.and_lt_two_pow _ (by omega))).symm
  show IntKind.i64.wrap ((BitVec.ofInt 64 n &&& BitVec.ofInt 64 (m : Int)).toNat : Nat) = _
  rw [e]
  have := Nat.and_lt_two_pow (n % 8).toNat (n := 3) (y := m) (by omega)
  rw [i64_small _ (by omega) (by omega)]
  unfold and3
  rw [hm8]
theorem mod_mod8 (n : Int) : n % 8 % 8 = n % 8 := by omega
theorem or3_mod (a b : Int) : or3 a b = or3 (a % 8) (b % 8) := by unfold or3; rw [mod_mod8, mod_mod8]
theorem bic3_mod (a b : Int) : bic3 a b = bic3 (a % 8) (b % 8) := by unfold bic3; rw [mod_mod8, mod_mod8]
theorem and3_mod (a b : Int) : and3 a b = and3 (a % 8) (b % 8) := by unfold and3; rw [mod_mod8, mod_mod8]
/-- Numbers of three bits, one by one. -/
theorem all_8 {p : Int → Prop} (h : ∀ x : Fin 8, p (x.val : Int)) {n : Int} (h0 : 0 ≤ n) (h1 : n < 8) : p n := by
  have := h ⟨n.toNat, by omega⟩
  have e : ((n.toNat : Nat) : Int) = n := by omega
  simpa only [e] using this
theorem all_88 {p : Int → Int → Prop} (h : ∀ x y : Fin 8, p (x.val : Int) (y.val : Int)) {a b : Int} (a0 : 0 ≤ a) (a1 : a < 8) (b0 : 0 ≤ b) (b1 : b < 8) : p a b :=
  all_8 (p := fun a => p a b) (fun x => all_8 (p := fun b => p (x.val : Int) b) (fun y => h x y) b0 b1) a0 a1
theorem mod8_in (n : Int) : 0 ≤ n % 8 ∧ n % 8 < 8 := by omega
theorem or3_in (a b : Int) : 0 ≤ or3 a b ∧ or3 a b < 8 := by
  rw [or3_mod]
  exact all_88 (p := fun a b => 0 ≤ or3 a b ∧ or3 a b < 8) (by decide +kernel) (mod8_in a).1 (mod8_in a).2 (mod8_in b).1 (mod8_in b).2
theorem bic3_in (a b : Int) : 0 ≤ bic3 a b ∧ bic3 a b < 8 := by
  rw [bic3_mod]
  exact all_88 (p := fun a b => 0 ≤ bic3 a b ∧ bic3 a b < 8) (by decide +kernel) (mod8_in a).1 (mod8_in a).2 (mod8_in b).1 (mod8_in b).2
/-- Which vector is that of the first of the lines x; whether there is one. -/
def vecOf (x : Int) : Int := if 4 ≤ x % 8 then 65530 else if 2 ≤ x % 8 then 65528 else if 1 ≤ x % 8 then 65526 else 0
def anyOf (x : Int) : Bool := decide (1 ≤ x % 8)
theorem and_4 (n : Int) : bits .and .i64 n 4 = if 4 ≤ n % 8 then 4 else 0 := by
  rw [and_low3 n 4 (by decide) (by decide), and3_mod]
  exact all_8 (p := fun x => and3 x (4 % 8) = if 4 ≤ x then 4 else 0) (by decide +kernel) (mod8_in n).1 (mod8_in n).2
theorem and_2 (n : Int) : bits .and .i64 n 2 = if 2 ≤ n % 4 then 2 else 0 := by
  rw [and_low3 n 2 (by decide) (by decide), and3_mod, show n % 4 = n % 8 % 4 by omega]
  exact all_8 (p := fun x => and3 x (2 % 8) = if 2 ≤ x % 4 then 2 else 0) (by decide +kernel) (mod8_in n).1 (mod8_in n).2
theorem or_low3 (a b : Int) (a0 : 0 ≤ a) (a1 : a < 8) (b0 : 0 ≤ b) (b1 : b < 8) : bits .or .i64 a b = or3 a b := by
  obtain ⟨a, rfl⟩ := Int.eq_ofNat_of_zero_le a0
  obtain ⟨b, rfl⟩ := Int.eq_ofNat_of_zero_le b0
  rw [(and_or_nat a b (by omega) (by omega)).2]
  unfold or3
  rw [show ((a : Int) % 8).toNat = a by omega, show ((b : Int) % 8).toNat = b by omega]
theorem bic_low3 (a b : Int) (a0 : 0 ≤ a) (a1 : a < 8) : bits .andNot .i64 a b = bic3 a b := by
  have h := bic_mod8 a b
  obtain ⟨x, rfl⟩ := Int.eq_ofNat_of_zero_le a0
  have e : (BitVec.ofInt 64 (x : Int) &&& ~~~ BitVec.ofInt 64 b).toNat < 8 := by
    rw [BitVec.toNat_and]
    refine Nat.lt_of_le_of_lt Nat.and_le_left ?_
    rw [BitVec.ofInt_natCast, BitVec.toNat_ofNat]
    exact Nat.lt_of_le_of_lt (Nat.mod_le _ _) (by omega)
  have k : bits .andNot .i64 (x : Int) b = (((BitVec.ofInt 64 (x : Int) &&& ~~~ BitVec.ofInt 64 b).toNat : Nat) : Int) := by
    show IntKind.i64.wrap ((BitVec.ofInt 64 (x : Int) &&& ~~~ BitVec.ofInt 64 b).toNat : Nat) = _
    exact i64_small _ (by omega) (by omega)
  rw [k] at h ⊢
  omega
/-- Which of the three lines a number means. -/
theorem line_of (k : Int) : ∃ y j, k.tmod 3 = y ∧ (y + 3).tmod 3 = j ∧ -3 < y ∧ y < 3 ∧ (j = 0 ∨ j = 1 ∨ j = 2) := by
  have h1 := Int.lt_tmod_of_pos k (b := 3) (by decide)
  have h2 := Int.tmod_lt_of_pos k (b := 3) (by decide)
  have h3 : (k.tmod 3 + 3).tmod 3 = (k.tmod 3 + 3) % 3 := Int.tmod_eq_emod_of_nonneg (by omega)
  exact ⟨_, _, rfl, rfl, h1, h2, by omega⟩
end Go.Proofs.Ytnmdifgoimoecaa
