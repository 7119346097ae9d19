/- Noise on plain numbers: a step on 18 bits, so many steps, and that they are linear over exclusive or: no word of the program is in it. -/
import Derived.Test.YtcpilhbinkamiaaDoorPlain
namespace Go.Proofs.YtcpilhbinkamiaaDoor
set_option linter.unusedVariables false

/-- Whether an odd number of the bits 0, 1, 11, 12, 17 are set. -/
def oddN (s : Nat) : Nat := (s + s / 2 + s / 2 / 1024 + s / 2 / 2048 + s / 2 / 65536) % 2
def stepN (s : Nat) : Nat := s / 2 + 131072 * oddN s
def jumpN (s : Nat) : Nat → Nat
  | 0 => s
  | n + 1 => stepN (jumpN s n)
/-- The state that a number is. -/
def stOf (s : Int) : Nat := if s % 262144 = 0 then 1 else (s % 262144).toNat

theorem stOf_in (s : Int) : 0 < stOf s ∧ stOf s < 262144 := by unfold stOf; split <;> omega
theorem stOf_same {s : Nat} (h0 : 0 < s) (h1 : s < 262144) : stOf (s : Int) = s := by unfold stOf; split <;> omega
theorem oddN_le (s : Nat) : oddN s < 2 := Nat.mod_lt _ (by decide)
theorem stepN_lt {s : Nat} (h : s < 262144) : stepN s < 262144 := by
  have := oddN_le s
  unfold stepN
  omega
theorem stepN_pos {s : Nat} (h0 : 0 < s) (h : s < 262144) : 0 < stepN s := by
  unfold stepN
  by_cases e : s = 1
  · subst e; decide
  · omega
theorem stepN_inj {s t : Nat} (hs : s < 262144) (ht : t < 262144) (h : stepN s = stepN t) : s = t := by
  have h1 := oddN_le s
  have h2 := oddN_le t
  unfold stepN at h
  have e1 : s / 2 = t / 2 := by omega
  have e2 : oddN s = oddN t := by omega
  unfold oddN at e2
  rw [e1] at e2
  omega
theorem jumpN_in {s : Nat} (h0 : 0 < s) (h : s < 262144) : ∀ n, 0 < jumpN s n ∧ jumpN s n < 262144
  | 0 => ⟨h0, h⟩
  | n + 1 => ⟨stepN_pos (jumpN_in h0 h n).1 (jumpN_in h0 h n).2, stepN_lt (jumpN_in h0 h n).2⟩
theorem jumpN_lt {s : Nat} (h : s < 262144) : ∀ n, jumpN s n < 262144
  | 0 => h
  | n + 1 => stepN_lt (jumpN_lt h n)
theorem jumpN_add (s a : Nat) : ∀ b, jumpN s (a + b) = jumpN (jumpN s a) b
  | 0 => rfl
  | b + 1 => by
    show stepN (jumpN s (a + b)) = stepN (jumpN (jumpN s a) b)
    rw [jumpN_add s a b]

/-! ### Exclusive or -/
theorem xor_two (a b : Nat) : (a ^^^ b) % 2 = (a + b) % 2 := by
  have h := Nat.xor_mod_two_eq_one (a := a) (b := b)
  omega
theorem xor_half (a b : Nat) : (a ^^^ b) / 2 = a / 2 ^^^ b / 2 := by
  have h := Nat.xor_div_two_pow (a := a) (b := b) (n := 1)
  simpa using h
theorem xor_quot (a b k : Nat) : (a ^^^ b) / 2 ^ k = a / 2 ^ k ^^^ b / 2 ^ k := Nat.xor_div_two_pow
theorem xor_rest (a b k : Nat) : (a ^^^ b) % 2 ^ k = a % 2 ^ k ^^^ b % 2 ^ k := Nat.xor_mod_two_pow
theorem eq_parts {a b : Nat} (k : Nat) (h1 : a / 2 ^ k = b / 2 ^ k) (h2 : a % 2 ^ k = b % 2 ^ k) : a = b := by
  rw [← Nat.div_add_mod a (2 ^ k), ← Nat.div_add_mod b (2 ^ k), h1, h2]
theorem xor_18 {a b : Nat} (ha : a < 262144) (hb : b < 262144) : a ^^^ b < 262144 := Nat.xor_lt_two_pow (n := 18) ha hb
/-- A number below 2^k, and the bit k. -/
theorem xor_high {x k : Nat} (h : x < 2 ^ k) : x ^^^ 2 ^ k = x + 2 ^ k := by
  have hp : 0 < 2 ^ k := Nat.two_pow_pos k
  apply eq_parts k
  · rw [xor_quot, Nat.div_eq_of_lt h, Nat.div_self hp, Nat.add_div_right _ hp, Nat.div_eq_of_lt h]
    rfl
  · rw [xor_rest, Nat.mod_self, Nat.add_mod_right, Nat.xor_zero]
theorem oddN_xor (a b : Nat) : oddN (a ^^^ b) = (oddN a + oddN b) % 2 := by
  unfold oddN
  have e0 := xor_two a b
  have e1 := xor_two (a / 2) (b / 2)
  have e2 := xor_two (a / 2 / 1024) (b / 2 / 1024)
  have e3 := xor_two (a / 2 / 2048) (b / 2 / 2048)
  have e4 := xor_two (a / 2 / 65536) (b / 2 / 65536)
  rw [xor_half, show (a / 2 ^^^ b / 2) / 1024 = a / 2 / 1024 ^^^ b / 2 / 1024 from xor_quot _ _ 10, show (a / 2 ^^^ b / 2) / 2048 = a / 2 / 2048 ^^^ b / 2 / 2048 from xor_quot _ _ 11, show (a / 2 ^^^ b / 2) / 65536 = a / 2 / 65536 ^^^ b / 2 / 65536 from xor_quot _ _ 16]
  generalize a ^^^ b = x0 at *
  generalize a / 2 / 1024 ^^^ b / 2 / 1024 = x2 at *
  generalize a / 2 / 2048 ^^^ b / 2 / 2048 = x3 at *
  generalize a / 2 / 65536 ^^^ b / 2 / 65536 = x4 at *
  generalize a / 2 ^^^ b / 2 = x1 at *
  generalize a / 2 / 1024 = a2 at *
  generalize a / 2 / 2048 = a3 at *
  generalize a / 2 / 65536 = a4 at *
  generalize a / 2 = a1 at *
  generalize b / 2 / 1024 = b2 at *
  generalize b / 2 / 2048 = b3 at *
  generalize b / 2 / 65536 = b4 at *
  generalize b / 2 = b1 at *
  omega
/-- A step is linear. -/
theorem stepN_xor {a b : Nat} (ha : a < 262144) (hb : b < 262144) : stepN (a ^^^ b) = stepN a ^^^ stepN b := by
  have h1 := oddN_le a
  have h2 := oddN_le b
  have hx := xor_18 ha hb
  have ho := oddN_xor a b
  apply eq_parts 17
  · rw [xor_quot]
    have e0 : stepN (a ^^^ b) / 2 ^ 17 = oddN (a ^^^ b) := by unfold stepN; omega
    have e1 : stepN a / 2 ^ 17 = oddN a := by unfold stepN; omega
    have e2 : stepN b / 2 ^ 17 = oddN b := by unfold stepN; omega
    rw [e0, e1, e2, ho]
    generalize oddN a = p at *
    generalize oddN b = q at *
    have hp : p = 0 ∨ p = 1 := by omega
    have hq : q = 0 ∨ q = 1 := by omega
    rcases hp with rfl | rfl <;> rcases hq with rfl | rfl <;> rfl
  · rw [xor_rest]
    have e0 : stepN (a ^^^ b) % 2 ^ 17 = (a ^^^ b) / 2 := by unfold stepN; omega
    have e1 : stepN a % 2 ^ 17 = a / 2 := by unfold stepN; omega
    have e2 : stepN b % 2 ^ 17 = b / 2 := by unfold stepN; omega
    rw [e0, e1, e2, xor_half]
theorem jumpN_xor {a b : Nat} (ha : a < 262144) (hb : b < 262144) : ∀ n, jumpN (a ^^^ b) n = jumpN a n ^^^ jumpN b n
  | 0 => rfl
  | n + 1 => by
    show stepN (jumpN (a ^^^ b) n) = stepN (jumpN a n) ^^^ stepN (jumpN b n)
    rw [jumpN_xor ha hb n, stepN_xor (jumpN_lt ha n) (jumpN_lt hb n)]
theorem jumpN_zero : ∀ n, jumpN 0 n = 0
  | 0 => rfl
  | n + 1 => by
    show stepN (jumpN 0 n) = 0
    rw [jumpN_zero n]
    rfl

/-! ### What each bit becomes -/
/-- The first k bits of s, each by what it becomes. -/
def fromTo (f : Nat → Nat) (s : Nat) : Nat → Nat
  | 0 => 0
  | k + 1 => fromTo f s k ^^^ f k * (s / 2 ^ k % 2)
theorem fromTo_lt {f : Nat → Nat} (hf : ∀ i, i < 18 → f i < 262144) (s : Nat) : ∀ k, k ≤ 18 → fromTo f s k < 262144
  | 0, _ => by show 0 < 262144; decide
  | k + 1, h => by
    have h1 := hf k (by omega)
    have h2 : s / 2 ^ k % 2 = 0 ∨ s / 2 ^ k % 2 = 1 := by omega
    refine xor_18 (fromTo_lt hf s k (by omega)) ?_
    rcases h2 with e | e <;> rw [e] <;> omega
theorem from_is {f : Nat → Nat} (m : Nat) (hf : ∀ i, i < 18 → f i = jumpN (2 ^ i) m) (s : Nat) : ∀ k, k ≤ 18 → fromTo f s k = jumpN (s % 2 ^ k) m
  | 0, _ => by
    rw [Nat.pow_zero, Nat.mod_one, jumpN_zero]
    rfl
  | k + 1, h => by
    have hlt : s % 2 ^ k < 2 ^ k := Nat.mod_lt _ (Nat.two_pow_pos k)
    have hp : 2 ^ k ≤ 2 ^ 17 := Nat.pow_le_pow_right (by decide) (by omega)
    show fromTo f s k ^^^ f k * (s / 2 ^ k % 2) = _
    rw [from_is m hf s k (by omega), hf k (by omega), Nat.mod_pow_succ]
    have h2 : s / 2 ^ k % 2 = 0 ∨ s / 2 ^ k % 2 = 1 := by omega
    rcases h2 with e | e
    · rw [e, Nat.mul_zero, Nat.mul_zero, Nat.xor_zero, Nat.add_zero]
    · rw [e, Nat.mul_one, Nat.mul_one, ← xor_high hlt, jumpN_xor (by omega) (by omega)]
theorem from_all {f : Nat → Nat} (m : Nat) (hf : ∀ i, i < 18 → f i = jumpN (2 ^ i) m) {s : Nat} (h : s < 262144) : fromTo f s 18 = jumpN s m := by
  rw [from_is m hf s 18 (Nat.le_refl _), Nat.mod_eq_of_lt h]
end Go.Proofs.YtcpilhbinkamiaaDoor
