/- Plain facts for the law ModeStays: '^' with a bit beyond the byte, and how far a branch reaches. No word of the program is in it. -/
import Derived.Test.YthjncomokbnegaaPlainXor
import Derived.Test.YthjncomokbnegaaMode
namespace Go.Proofs.Ythjncomokbnegaa
set_option linter.unusedVariables false

theorem xor_256_mod (n : Int) : bits .xor .i64 n 256 % 256 = n % 256 := by
  have h : bits .xor .i64 n 256 % 65536 = if n / 256 % 2 = 0 then n % 65536 + 256 else n % 65536 - 256 := by
    have hr : bits .xor .i64 n 256 = _ := xor_run n 256 (by decide)
    rw [hr, wrap_mod]
    have h := nat_xor_pow (n % ((2 ^ 64 : Nat) : Int)).toNat 8 (low_lt n) (by decide)
    have h2 := low_mod n
    rw [show (2 : Nat) ^ 8 = 256 from rfl] at h
    rw [h]
    have h3 : n / 256 % 2 = n % 65536 / 256 % 2 := by omega
    rw [h3, ← h2]
    generalize (n % ((2 ^ 64 : Nat) : Int)).toNat = X
    clear h h2 h3
    split <;> split <;> omega
  split at h <;> omega
theorem zOf_xor (o x : Int) : zOf (bits .xor .i64 o 256) (bits .xor .i64 x 256) = zOf o x := by
  have h1 := xor_256_mod o
  have h2 := xor_256_mod x
  unfold zOf
  omega
theorem zOf_xor_0 (o : Int) : zOf (bits .xor .i64 o 256) 0 = zOf o 0 := by
  have h1 := xor_256_mod o
  unfold zOf
  omega
theorem signOf_le (o : Int) : -128 ≤ signOf o ∧ signOf o ≤ 127 := by unfold signOf; split <;> omega
theorem reach (p o : Int) (h0 : 0 ≤ p) (h1 : p ≤ 65535) : bits .and .i64 (wOf p (signOf o) - p + 65536 + 128) 65535 = signOf o + 128 := by
  have h := signOf_le o
  rw [and_65535]; unfold wOf; omega
theorem wOf_0 (p : Int) (h0 : 0 ≤ p) (h1 : p ≤ 65535) : wOf p (signOf 0) = p := by
  rw [show signOf 0 = 0 from rfl]; unfold wOf; omega
end Go.Proofs.Ythjncomokbnegaa
