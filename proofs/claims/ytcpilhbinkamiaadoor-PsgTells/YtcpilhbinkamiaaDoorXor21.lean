/- The operators of a step on integers: no word of the program is in it. -/
import Derived.Test.YtcpilhbinkamiaaDoorPlain21
namespace Go.Proofs.YtcpilhbinkamiaaDoor
theorem xor_nat (a b : Nat) (ha : a < 2 ^ 62) (hb : b < 2 ^ 62) : bits .xor .i64 (a : Int) (b : Int) = ((a ^^^ b : Nat) : Int) := by
  have ha' : a % 2 ^ 64 = a := Nat.mod_eq_of_lt (by omega)
  have hb' : b % 2 ^ 64 = b := Nat.mod_eq_of_lt (by omega)
  have h : a ^^^ b < 2 ^ 62 := Nat.xor_lt_two_pow ha hb
  show IntKind.i64.wrap ((BitVec.ofInt 64 (a : Int) ^^^ BitVec.ofInt 64 (b : Int)).toNat : Nat) = _
  rw [BitVec.ofInt_natCast, BitVec.ofInt_natCast, BitVec.toNat_xor, BitVec.toNat_ofNat, BitVec.toNat_ofNat, ha', hb']
  exact i64_small _ (by omega) (by omega)
theorem xor_18i (a b : Nat) (ha : a < 262144) (hb : b < 262144) : bits .xor .i64 (a : Int) (b : Int) = ((a ^^^ b : Nat) : Int) := xor_nat a b (by omega) (by omega)
/-- What Step computes of a state. -/
def oddX (x : Int) : Int := bits .and .i64 (bits .xor .i64 (bits .xor .i64 (bits .xor .i64 (bits .xor .i64 x (x / 2)) (x / 2048)) (x / 4096)) (x / 131072)) 1
theorem oddX_is (s : Nat) (h : s < 262144) : oddX (s : Int) = (oddN s : Nat) := by
  unfold oddX
  have e1 : (s : Int) / 2 = ((s / 2 : Nat) : Int) := by omega
  have e2 : (s : Int) / 2048 = ((s / 2 / 1024 : Nat) : Int) := by omega
  have e3 : (s : Int) / 4096 = ((s / 2 / 2048 : Nat) : Int) := by omega
  have e4 : (s : Int) / 131072 = ((s / 2 / 65536 : Nat) : Int) := by omega
  rw [e1, e2, e3, e4]
  have l1 : s / 2 < 262144 := by omega
  have l2 : s / 2 / 1024 < 262144 := by omega
  have l3 : s / 2 / 2048 < 262144 := by omega
  have l4 : s / 2 / 65536 < 262144 := by omega
  have x1 := xor_18 h l1
  have x2 := xor_18 x1 l2
  have x3 := xor_18 x2 l3
  rw [xor_18i _ _ h l1, xor_18i _ _ x1 l2, xor_18i _ _ x2 l3, xor_18i _ _ x3 l4, and_1]
  unfold oddN
  have y1 := xor_two s (s / 2)
  have y2 := xor_two (s ^^^ s / 2) (s / 2 / 1024)
  have y3 := xor_two (s ^^^ s / 2 ^^^ s / 2 / 1024) (s / 2 / 2048)
  have y4 := xor_two (s ^^^ s / 2 ^^^ s / 2 / 1024 ^^^ s / 2 / 2048) (s / 2 / 65536)
  generalize s ^^^ s / 2 ^^^ s / 2 / 1024 ^^^ s / 2 / 2048 ^^^ s / 2 / 65536 = q4 at *
  generalize s ^^^ s / 2 ^^^ s / 2 / 1024 ^^^ s / 2 / 2048 = q3 at *
  generalize s ^^^ s / 2 ^^^ s / 2 / 1024 = q2 at *
  generalize s ^^^ s / 2 = q1 at *
  generalize s / 2 / 1024 = a2 at *
  generalize s / 2 / 2048 = a3 at *
  generalize s / 2 / 65536 = a4 at *
  generalize s / 2 = a1 at *
  omega
theorem oddX_le (s : Nat) (h : s < 262144) : 0 ≤ oddX (s : Int) ∧ oddX (s : Int) < 2 := by
  rw [oddX_is s h]
  have := oddN_le s
  omega
theorem stepX (s : Nat) (h : s < 262144) : bits .or .i64 ((s : Int) / 2) (oddX (s : Int) * 131072) = (stepN s : Nat) := by
  rw [oddX_is s h]
  have h2 := oddN_le s
  have e : stepN s = s / 2 + 131072 * oddN s := rfl
  rw [e]
  generalize oddN s = p at *
  rw [or_comm, or_add 17 _ _ (by omega) (by omega) (by omega) (by omega) (by omega) (by omega)]
  omega
end Go.Proofs.YtcpilhbinkamiaaDoor
