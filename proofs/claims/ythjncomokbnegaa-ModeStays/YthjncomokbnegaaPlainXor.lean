/- Plain facts on '^' with one bit, and on the place on the bus: no word of the program is in it. -/
import Derived.Test.YthjncomokbnegaaPlain
namespace Go.Proofs.Ythjncomokbnegaa

theorem bv_xor_add (x y : BitVec 64) (h : x &&& y = 0#64) : (x ^^^ y).toNat = x.toNat + y.toNat := by
  have e : x ^^^ y = x + y := by
    rw [BitVec.add_eq_or_of_and_eq_zero _ _ h]
    ext i hi
    have h2 : (x &&& y)[i] = (0#64)[i] := by rw [h]
    rw [BitVec.getElem_and, BitVec.getElem_zero] at h2
    rw [BitVec.getElem_xor, BitVec.getElem_or]
    revert h2
    cases x[i] <;> cases y[i] <;> decide
  rw [e, BitVec.toNat_add_of_and_eq_zero h]

theorem nat_xor_clear (X k : Nat) (hX : X < 2 ^ 64) (hk : k < 64) (h : X / 2 ^ k % 2 = 0) : X ^^^ 2 ^ k = X + 2 ^ k := by
  have hp : 2 ^ k < 2 ^ 64 := Nat.pow_lt_pow_right (by decide) hk
  have hx : (BitVec.ofNat 64 X).toNat = X := by rw [BitVec.toNat_ofNat]; exact Nat.mod_eq_of_lt hX
  have hy : (BitVec.ofNat 64 (2 ^ k)).toNat = 2 ^ k := by rw [BitVec.toNat_ofNat]; exact Nat.mod_eq_of_lt hp
  have hz : BitVec.ofNat 64 X &&& BitVec.ofNat 64 (2 ^ k) = 0#64 := by
    apply BitVec.eq_of_toNat_eq
    rw [BitVec.toNat_and, hx, hy, and_pow, h]
    simp
  have := bv_xor_add _ _ hz
  rw [BitVec.toNat_xor, hx, hy] at this
  exact this
theorem nat_xor_pow (X k : Nat) (hX : X < 2 ^ 64) (hk : k < 64) : X ^^^ 2 ^ k = if X / 2 ^ k % 2 = 0 then X + 2 ^ k else X - 2 ^ k := by
  split
  · exact nat_xor_clear X k hX hk (by assumption)
  · rename_i h
    have hp : 2 ^ k < 2 ^ 64 := Nat.pow_lt_pow_right (by decide) hk
    have hb : X.testBit k = true := by rw [Nat.testBit_eq_decide_div_mod_eq, decide_eq_true_eq]; omega
    have hY : (X ^^^ 2 ^ k) / 2 ^ k % 2 = 0 := by
      have : (X ^^^ 2 ^ k).testBit k = false := by rw [Nat.testBit_xor, hb, Nat.testBit_two_pow_self]; rfl
      rw [Nat.testBit_eq_decide_div_mod_eq, decide_eq_false_iff_not] at this
      omega
    have := nat_xor_clear (X ^^^ 2 ^ k) k (Nat.xor_lt_two_pow hX hp) hk hY
    rw [Nat.xor_assoc, Nat.xor_self, Nat.xor_zero] at this
    omega

theorem xor_run (n : Int) (c : Nat) (hc : c < 2 ^ 64) : bits .xor .i64 n (c : Int) = IntKind.i64.wrap (((n % ((2 ^ 64 : Nat) : Int)).toNat ^^^ c : Nat) : Int) := by
  show IntKind.i64.wrap ((BitVec.ofInt 64 n ^^^ BitVec.ofInt 64 (c : Int)).toNat : Nat) = _
  rw [BitVec.toNat_xor, BitVec.toNat_ofInt, BitVec.ofInt_natCast, BitVec.toNat_ofNat, Nat.mod_eq_of_lt hc]

theorem wrap_mod (y : Int) : IntKind.i64.wrap y % 65536 = y % 65536 := by rw [IntKind.wrap_i64]; omega
theorem low_mod (n : Int) : ((n % ((2 ^ 64 : Nat) : Int)).toNat : Int) % 65536 = n % 65536 := by omega
theorem low_lt (n : Int) : (n % ((2 ^ 64 : Nat) : Int)).toNat < 2 ^ 64 := by omega
theorem xor_1_mod (n : Int) : bits .xor .i64 n 1 % 65536 = if n % 2 = 0 then n % 65536 + 1 else n % 65536 - 1 := by
  rw [show (1 : Int) = ((1 : Nat) : Int) from rfl, xor_run n 1 (by decide), wrap_mod]
  have h := nat_xor_pow (n % ((2 ^ 64 : Nat) : Int)).toNat 0 (low_lt n) (by decide)
  have h2 := low_mod n
  rw [Nat.pow_zero] at h
  rw [h]
  have h3 : n % 2 = n % 65536 % 2 := by omega
  rw [h3, ← h2]
  generalize (n % ((2 ^ 64 : Nat) : Int)).toNat = X
  clear h h2 h3
  split <;> split <;> omega
theorem xor_4096_mod (n : Int) : bits .xor .i64 n 4096 % 65536 = if n / 4096 % 2 = 0 then n % 65536 + 4096 else n % 65536 - 4096 := by
  rw [show (4096 : Int) = ((4096 : Nat) : Int) from rfl, xor_run n 4096 (by decide), wrap_mod]
  have h := nat_xor_pow (n % ((2 ^ 64 : Nat) : Int)).toNat 12 (low_lt n) (by decide)
  have h2 := low_mod n
  rw [show 2 ^ 12 = 4096 from rfl] at h
  rw [h]
  have h3 : n / ((4096 : Nat) : Int) % 2 = n % 65536 / ((4096 : Nat) : Int) % 2 := by omega
  rw [h3, ← h2]
  generalize (n % ((2 ^ 64 : Nat) : Int)).toNat = X
  clear h h2 h3
  split <;> split <;> omega

theorem xor_small (a c : Nat) (ha : a < 2 ^ 62) (hc : c < 2 ^ 62) : bits .xor .i64 (a : Int) (c : Int) = ((a ^^^ c : Nat) : Int) := by
  have h : a ^^^ c < 2 ^ 62 := Nat.xor_lt_two_pow ha hc
  rw [xor_run _ _ (by omega), show ((a : Int) % ((2 ^ 64 : Nat) : Int)).toNat = a by omega]
  exact i64_small _ (by omega) (by omega)
/-- Two numbers that part in one bit. -/
theorem xor_part (p q : Int) (k : Nat) (hk : k < 62) (h0 : 0 ≤ p) (h1 : p < 2 ^ 61) (h : q = ((p.toNat ^^^ 2 ^ k : Nat) : Int)) : bits .xor .i64 p q = ((2 ^ k : Nat) : Int) := by
  obtain ⟨p, rfl⟩ := Int.eq_ofNat_of_zero_le h0
  have hp : 2 ^ k < 2 ^ 62 := Nat.pow_lt_pow_right (by decide) hk
  rw [h, Int.toNat_natCast, xor_small _ _ (by omega) (Nat.xor_lt_two_pow (by omega) hp), ← Nat.xor_assoc, Nat.xor_self, Nat.zero_xor]
end Go.Proofs.Ythjncomokbnegaa
