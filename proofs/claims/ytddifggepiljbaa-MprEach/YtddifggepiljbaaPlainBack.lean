/- What the document's Tam, Tma and place have of one register, and of all: no word of the program is in it but the document's own answers. -/
import Derived.Test.YtddifggepiljbaaMpr
namespace Go.Proofs.Ytddifggepiljbaa

theorem bit_pow (q : Int) (h0 : 0 ≤ q) (h1 : q < 8) (i : Nat) (hi : i < 8) : bitOf (2 ^ q.toNat) (i : Int) = if (i : Int) = q then 1 else 0 := by
  have hq : q = 0 ∨ q = 1 ∨ q = 2 ∨ q = 3 ∨ q = 4 ∨ q = 5 ∨ q = 6 ∨ q = 7 := by omega
  have hi8 : i = 0 ∨ i = 1 ∨ i = 2 ∨ i = 3 ∨ i = 4 ∨ i = 5 ∨ i = 6 ∨ i = 7 := by omega
  rcases hq with rfl | rfl | rfl | rfl | rfl | rfl | rfl | rfl <;> rcases hi8 with rfl | rfl | rfl | rfl | rfl | rfl | rfl | rfl <;> decide +kernel
theorem tam_one (f : Nat → Int) (q b : Int) (h0 : 0 ≤ q) (h1 : q < 8) (i : Nat) (hi : i < 8) : tamOf f (2 ^ q.toNat) b i = if (i : Int) = q then b % 256 else f i := by
  unfold tamOf
  rw [bit_pow q h0 h1 i hi]
  by_cases h : (i : Int) = q <;> simp [h]
theorem tma_one (g : Nat → Int) (q l : Int) (h0 : 0 ≤ q) (h1 : q < 8) : tmaOf g (2 ^ q.toNat) l = g q.toNat % 256 := by
  have b0 := bit_pow q h0 h1 0 (by decide); have b1 := bit_pow q h0 h1 1 (by decide); have b2 := bit_pow q h0 h1 2 (by decide); have b3 := bit_pow q h0 h1 3 (by decide)
  have b4 := bit_pow q h0 h1 4 (by decide); have b5 := bit_pow q h0 h1 5 (by decide); have b6 := bit_pow q h0 h1 6 (by decide); have b7 := bit_pow q h0 h1 7 (by decide)
  have hq : q = 0 ∨ q = 1 ∨ q = 2 ∨ q = 3 ∨ q = 4 ∨ q = 5 ∨ q = 6 ∨ q = 7 := by omega
  unfold tmaOf
  simp only [tmaFrom, Nat.reduceAdd]
  rw [b0, b1, b2, b3, b4, b5, b6, b7]
  rcases hq with rfl | rfl | rfl | rfl | rfl | rfl | rfl | rfl <;> simp
theorem bit_zero (k : Nat) : bitOf 0 (k : Int) = 0 := by
  unfold bitOf; split <;> simp
theorem tma_none (g : Nat → Int) (l : Int) : tmaOf g 0 l = l % 256 := by
  unfold tmaOf
  simp only [tmaFrom, bit_zero]
  simp
theorem phys_first (g : Nat → Int) (q : Int) (h0 : 0 ≤ q) (h1 : q < 8) : physOf g (q * 8192) = g q.toNat % 256 * 8192 := by
  unfold physOf
  rw [show q * 8192 % 65536 / 8192 = q by omega, show q * 8192 % 8192 = 0 by omega]
  omega
end Go.Proofs.Ytddifggepiljbaa
