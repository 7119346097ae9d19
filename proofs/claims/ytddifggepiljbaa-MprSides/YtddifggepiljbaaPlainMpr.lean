/- What the document's place on the bus has of the bits of a place: no word of the program is in it but the document's own place ('physOf'). -/
import Derived.Test.YtddifggepiljbaaPlainXor
import Derived.Test.YtddifggepiljbaaMpr
namespace Go.Proofs.Ytddifggepiljbaa

theorem phys_word (f : Nat → Int) (a : Int) : physOf f a = f (a % 65536 / 8192).toNat % 256 * 8192 + a % 65536 % 8192 := by
  unfold physOf; rw [Int.emod_emod_of_dvd a (by decide : (8192 : Int) ∣ 65536)]
theorem phys_le (f : Nat → Int) (a : Int) : 0 ≤ physOf f a ∧ physOf f a < 2097152 := by
  unfold physOf
  generalize f (a % 65536 / 8192).toNat = r
  omega
theorem phys_xor_1 (f : Nat → Int) (a : Int) : bits .xor .i64 (physOf f a) (physOf f (bits .xor .i64 a 1)) = 1 := by
  have hc := xor_1_mod a
  have hl := phys_le f a
  refine xor_part _ _ 0 (by decide) hl.1 (by omega) ?_
  rw [nat_xor_pow _ 0 (by omega) (by decide)]
  rw [phys_word f a] at hl ⊢
  rw [phys_word f (bits .xor .i64 a 1)]
  have hr : bits .xor .i64 a 1 % 65536 / 8192 = a % 65536 / 8192 := by split at hc <;> omega
  rw [hr]
  generalize f (a % 65536 / 8192).toNat = r at *
  generalize bits .xor .i64 a 1 % 65536 = c at *
  simp only [Nat.pow_zero]
  split at hc <;> split <;> omega
theorem phys_xor_4096 (f : Nat → Int) (a : Int) : bits .xor .i64 (physOf f a) (physOf f (bits .xor .i64 a 4096)) = 4096 := by
  have hc := xor_4096_mod a
  have hl := phys_le f a
  refine xor_part _ _ 12 (by decide) hl.1 (by omega) ?_
  rw [nat_xor_pow _ 12 (by omega) (by decide)]
  rw [phys_word f a] at hl ⊢
  rw [phys_word f (bits .xor .i64 a 4096)]
  have hr : bits .xor .i64 a 4096 % 65536 / 8192 = a % 65536 / 8192 := by split at hc <;> omega
  rw [hr]
  generalize f (a % 65536 / 8192).toNat = r at *
  generalize bits .xor .i64 a 4096 % 65536 = c at *
  rw [show 2 ^ 12 = 4096 from rfl]
  split at hc <;> split <;> omega
end Go.Proofs.Ytddifggepiljbaa
