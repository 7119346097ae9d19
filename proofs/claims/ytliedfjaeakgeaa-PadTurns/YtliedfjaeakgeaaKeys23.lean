/- Plain facts on four bits that are read. No word of the program is in it. -/
import Derived.Test.YtliedfjaeakgeaaPlain
namespace Go.Proofs.Ytliedfjaeakgeaa
set_option linter.unusedVariables false

theorem xor_15 : ∀ x : Fin 16, 15 ^^^ x.val = 15 - x.val := by decide
theorem bic_15 (x : Int) : bits .andNot .i64 15 x = 15 - x % 16 := by
  have k : BitVec.ofInt 64 15 &&& ~~~ BitVec.ofInt 64 x = BitVec.ofInt 64 15 ^^^ (BitVec.ofInt 64 x &&& BitVec.ofInt 64 15) := by
    ext i hi
    simp only [BitVec.getElem_and, BitVec.getElem_not, BitVec.getElem_xor]
    cases (BitVec.ofInt 64 15)[i] <;> cases (BitVec.ofInt 64 x)[i] <;> rfl
  have e1 : (BitVec.ofInt 64 15).toNat = 15 := by decide
  have e : (BitVec.ofInt 64 15 &&& ~~~ BitVec.ofInt 64 x).toNat = 15 - (x % 16).toNat := by
    rw [k, BitVec.toNat_xor, BitVec.toNat_and, e1, BitVec.toNat_ofInt]
    have h : (x % ((2 ^ 64 : Nat) : Int)).toNat &&& 15 = (x % 16).toNat := by
      rw [show (15 : Nat) = 2 ^ 4 - 1 from rfl, Nat.and_two_pow_sub_one_eq_mod]
      omega
    rw [h]
    have hx : (x % 16).toNat < 16 := by omega
    exact xor_15 ⟨_, hx⟩
  show IntKind.i64.wrap ((BitVec.ofInt 64 15 &&& ~~~ BitVec.ofInt 64 x).toNat : Nat) = _
  rw [e]
  have hx : (x % 16).toNat < 16 := by omega
  rw [i64_small _ (by omega) (by omega)]
  omega
theorem or_16 : ∀ y : Fin 16, bits .or .i64 176 (y.val : Int) = 176 + (y.val : Int) ∧ bits .or .i64 240 (y.val : Int) = 240 + (y.val : Int) := by decide +kernel
theorem or_176 (x : Int) : bits .or .i64 176 (bits .andNot .i64 15 x) = 191 - x % 16 := by
  rw [bic_15]
  have h := (or_16 ⟨(15 - x % 16).toNat, by omega⟩).1
  have e : (((15 - x % 16).toNat : Nat) : Int) = 15 - x % 16 := by omega
  simp only [e] at h
  omega
theorem or_240 (x : Int) : bits .or .i64 240 (bits .andNot .i64 15 x) = 255 - x % 16 := by
  rw [bic_15]
  have h := (or_16 ⟨(15 - x % 16).toNat, by omega⟩).2
  have e : (((15 - x % 16).toNat : Nat) : Int) = 15 - x % 16 := by omega
  simp only [e] at h
  omega
/-- An odd number of times. -/
def par (k : Nat) : Bool := k % 2 == 1
theorem par_next (k : Nat) : par (k + 1) = !par k := by
  unfold par
  rcases (show k % 2 = 0 ∨ k % 2 = 1 by omega) with h | h
  · rw [h, show (k + 1) % 2 = 1 by omega]; rfl
  · rw [h, show (k + 1) % 2 = 0 by omega]; rfl
end Go.Proofs.Ytliedfjaeakgeaa
