/- What the laws of layer 2 ask of the document's answers. -/
import Derived.Test.YtjainjpfmmonbaaAluDo
namespace Go.Proofs.Ytjainjpfmmonbaa
open Go.RowKit
theorem b0 : IsByte 0 := ⟨by decide, by decide⟩
theorem do_ok (op a m p r q : Int) (ha : IsByte a) (hm : IsByte m) (hp : IsByte p) (h : doOf op a m p = (r, q)) (w : World) :
    Calls Try.prog 9 #[.int .i64 op, .int .i64 a, .int .i64 m, .int .i64 p] w fun e w' => e = .returned (.tuple #[.int .i64 r, .int .i64 q]) ∧ Below w.heap.size w w' := by
  have k := do_any op a m p w
  rw [byte_self ha, byte_self hm, byte_self hp, h] at k
  exact k
theorem do_at (op a m p r q : Int) (h : doOf op (a % 256) (m % 256) (p % 256) = (r, q)) (w : World) :
    Calls Try.prog 9 #[.int .i64 op, .int .i64 a, .int .i64 m, .int .i64 p] w fun e w' => e = .returned (.tuple #[.int .i64 r, .int .i64 q]) ∧ Below w.heap.size w w' := by
  have k := do_any op a m p w
  rw [h] at k
  exact k
/-- The carry behind it was set, or not. -/
theorem set1_mod (p : Int) (on : Bool) : setOf p 1 on % 2 = b01 on := by
  unfold setOf b01; cases on <;> simp <;> omega
theorem b01_yes {P : Prop} [Decidable P] (h : P) : b01 (decide P) = 1 := by simp [b01, h]
theorem b01_no {P : Prop} [Decidable P] (h : ¬ P) : b01 (decide P) = 0 := by simp [b01, h]
/-- What N and Z leave, bit by bit. -/
theorem nz_bits (p b : Int) : nzOf p b / 2 % 2 = b01 (decide (b % 256 = 0)) ∧ nzOf p b / 128 % 2 = b01 (decide (128 ≤ b % 256)) ∧ nzOf p b / 4 % 32 = p / 4 % 32 ∧ nzOf p b % 2 = p % 2 := by
  unfold nzOf
  generalize decide (128 ≤ b % 256) = x
  generalize decide (b % 256 = 0) = y
  unfold setOf b01
  cases x <;> cases y <;> simp <;> omega
theorem set1_z (p : Int) (on : Bool) : setOf p 1 on / 2 % 2 = p / 2 % 2 := by
  unfold setOf; cases on <;> simp <;> omega
theorem two_bits (p m : Int) (z : Bool) (hp : IsByte p) (hm : IsByte m) : twoOf p m z / 2 % 2 = b01 z ∧ twoOf p m z / 64 % 4 = m / 64 % 4 := by
  obtain ⟨h0, h1⟩ := hp
  obtain ⟨m0, m1⟩ := hm
  unfold twoOf
  by_cases hx : 128 ≤ m <;> by_cases hy : m / 64 % 2 = 1 <;> cases z <;> simp only [hx, hy, decide_true, decide_false, setOf, b01, if_true, if_false, Bool.false_eq_true] <;> omega
/-! ### Both, one, either -/
theorem bytes_eq {x y : Nat} (h : ∀ k, x.testBit k = y.testBit k) : ((x : Nat) : Int) = ((y : Nat) : Int) := by
  rw [Nat.eq_of_testBit_eq h]
theorem xor_xor {a m : Int} (ha : IsByte a) (hm : IsByte m) : xorB (xorB a m) m = a := by
  obtain ⟨a, rfl⟩ := Int.eq_ofNat_of_zero_le ha.1
  obtain ⟨m, rfl⟩ := Int.eq_ofNat_of_zero_le hm.1
  unfold xorB
  simp only [Int.toNat_natCast]
  exact bytes_eq fun k => by
    simp only [Nat.testBit_xor]
    cases a.testBit k <;> cases m.testBit k <;> rfl
theorem or_bic {a m : Int} (ha : IsByte a) (hm : IsByte m) : orB a (bicB m a) = orB m a := by
  obtain ⟨a, rfl⟩ := Int.eq_ofNat_of_zero_le ha.1
  obtain ⟨m, rfl⟩ := Int.eq_ofNat_of_zero_le hm.1
  unfold orB bicB
  simp only [Int.toNat_natCast]
  exact bytes_eq fun k => by
    simp only [Nat.testBit_xor, Nat.testBit_and, Nat.testBit_or]
    cases a.testBit k <;> cases m.testBit k <;> rfl
theorem each_add (f g h l : Int → Int → Int) (a m : Int) (H : ∀ x y, f x y + g x y = h x y + l x y) : ∀ n, eachTo f a m n + eachTo g a m n = eachTo h a m n + eachTo l a m n
  | 0 => rfl
  | n + 1 => by
    have ih := each_add f g h l a m H n
    have e := H (bitOf a n) (bitOf m n)
    have e2 : f (bitOf a n) (bitOf m n) * 2 ^ n + g (bitOf a n) (bitOf m n) * 2 ^ n = h (bitOf a n) (bitOf m n) * 2 ^ n + l (bitOf a n) (bitOf m n) * 2 ^ n := by
      rw [← Int.add_mul, e, Int.add_mul]
    simp only [eachTo]
    omega
theorem nat_of {a : Int} (ha : IsByte a) : ((a.toNat : Nat) : Int) = a := Int.toNat_of_nonneg ha.1
theorem each_fst {a m : Int} (ha : IsByte a) (hm : IsByte m) : eachTo (fun x _ => x) a m 8 = a :=
  (each_8 _ (fun x _ => x) (by decide) ha hm a.toNat (by rw [nat_of ha]; exact ha.2) (fun k => rfl)).trans (nat_of ha)
theorem each_snd {a m : Int} (ha : IsByte a) (hm : IsByte m) : eachTo (fun _ y => y) a m 8 = m :=
  (each_8 _ (fun _ y => y) (by decide) ha hm m.toNat (by rw [nat_of hm]; exact hm.2) (fun k => rfl)).trans (nat_of hm)
theorem and_add_or {a m : Int} (ha : IsByte a) (hm : IsByte m) : andB a m + orB a m = a + m := by
  have h := each_add (fun x y => x * y) (fun x y => x + y - x * y) (fun x _ => x) (fun _ y => y) a m (fun x y => by omega) 8
  rw [each_and ha hm, each_or ha hm, each_fst ha hm, each_snd ha hm] at h
  exact h
theorem xor_is {a m : Int} (ha : IsByte a) (hm : IsByte m) : xorB a m = orB a m - andB a m := by
  have h := each_add (fun x y => x + y - 2 * x * y) (fun x y => x * y) (fun x y => x + y - x * y) (fun x y => x - x) a m (fun x y => by simp only [Int.mul_assoc]; omega) 8
  have z := each_add (fun x y => x - x) (fun x y => x - x) (fun x y => x - x) (fun x y => 0) a m (fun x y => by omega) 8
  have z0 : ∀ n, eachTo (fun x y => 0) a m n = 0 := by
    intro n
    induction n with
    | zero => rfl
    | succ n ih => simp only [eachTo]; rw [ih]; omega
  rw [each_and ha hm, each_or ha hm, each_xor ha hm] at h
  rw [z0 8] at z
  omega
theorem nzOf_self (p b : Int) : nzOf (p % 256) (b % 256) = nzOf p b := by unfold nzOf; rw [Int.emod_emod, Int.emod_emod]
/-! ### Turns of nine bits -/
def stepL (v : Int) : Int := v * 2 % 512 + v / 256
def stepR (v : Int) : Int := v / 2 + v % 2 * 256
def rotL (v : Int) : Nat → Int
  | 0 => v
  | k + 1 => stepL (rotL v k)
def rotR (v : Int) : Nat → Int
  | 0 => v
  | k + 1 => stepR (rotR v k)
theorem rot_nine : ∀ v : Fin 512, rotL (v.val : Int) 9 = (v.val : Int) ∧ rotR (v.val : Int) 9 = (v.val : Int) := by decide +kernel
theorem rot_9 (v : Int) (h0 : 0 ≤ v) (h1 : v < 512) : rotL v 9 = v ∧ rotR v 9 = v := by
  have h := rot_nine ⟨v.toNat, by omega⟩
  have e : ((v.toNat : Nat) : Int) = v := by omega
  simpa only [e] using h
theorem there_nine : ∀ v : Fin 512, stepR (stepL (v.val : Int)) = (v.val : Int) := by decide +kernel
theorem there_back (v : Int) (h0 : 0 ≤ v) (h1 : v < 512) : stepR (stepL v) = v := by
  have h := there_nine ⟨v.toNat, by omega⟩
  have e : ((v.toNat : Nat) : Int) = v := by omega
  simpa only [e] using h
theorem rol_step {x : Int} (q : Int) (hx : IsByte x) : ∃ r s, doOf 10 0 x q = (r, s) ∧ IsByte r ∧ IsByte s ∧ r + 256 * (s % 2) = stepL (x + 256 * (q % 2)) := by
  refine ⟨_, _, rfl, ?_, setOf_byte _ (nzOf_byte _ _) f1, ?_⟩
  · obtain ⟨h0, h1⟩ := hx
    exact ⟨by omega, by omega⟩
  · rw [set1_mod]
    obtain ⟨h0, h1⟩ := hx
    unfold stepL
    by_cases h : 128 ≤ x
    · rw [b01_yes h]; omega
    · rw [b01_no h]; omega
theorem ror_step {x : Int} (q : Int) (hx : IsByte x) : ∃ r s, doOf 12 0 x q = (r, s) ∧ IsByte r ∧ IsByte s ∧ r + 256 * (s % 2) = stepR (x + 256 * (q % 2)) := by
  refine ⟨_, _, rfl, ?_, setOf_byte _ (nzOf_byte _ _) f1, ?_⟩
  · obtain ⟨h0, h1⟩ := hx
    exact ⟨by omega, by omega⟩
  · rw [set1_mod]
    obtain ⟨h0, h1⟩ := hx
    unfold stepR
    by_cases h : x % 2 = 1
    · rw [b01_yes h]; omega
    · rw [b01_no h]; omega
/-! ### All operations -/
/-- A byte whose flags I, D, B and T are those of p. -/
def Keeps (p q : Int) : Prop := IsByte q ∧ q / 4 % 16 = p / 4 % 16
theorem keeps_set {p q f : Int} (on : Bool) (h : Keeps p q) (hf : IsFlag f) : Keeps p (setOf q f on) := by
  refine ⟨setOf_byte on h.1 hf, ?_⟩
  rw [← h.2]
  unfold setOf
  rcases hf with rfl | rfl | rfl | rfl <;> cases on <;> simp <;> omega
theorem keeps_nz {p q : Int} (b : Int) (h : Keeps p q) : Keeps p (nzOf q b) := by
  unfold nzOf
  rw [byte_self h.1]
  exact keeps_set _ (keeps_set _ h f128) f2
theorem keeps_two {p q : Int} (m : Int) (z : Bool) (h : Keeps p q) : Keeps p (twoOf q m z) := keeps_set _ (keeps_set _ (keeps_set _ h f128) f64) f2
theorem halves_byte (x y : Int) : IsByte (x % 16 * 16 + y % 16) := ⟨by omega, by omega⟩
theorem adc_ok {a m p : Int} (hp : IsByte p) : IsByte (adcOf a m p).1 ∧ Keeps p (adcOf a m p).2 := by
  have hk : Keeps p p := ⟨hp, rfl⟩
  unfold adcOf
  split
  · exact ⟨halves_byte _ _, keeps_set _ (keeps_nz _ hk) f1⟩
  · exact ⟨isByte_mod _, keeps_set _ (keeps_set _ (keeps_nz _ hk) f1) f64⟩
theorem sbc_ok {a m p : Int} (hp : IsByte p) : IsByte (sbcOf a m p).1 ∧ Keeps p (sbcOf a m p).2 := by
  have hk : Keeps p p := ⟨hp, rfl⟩
  unfold sbcOf
  split
  · exact ⟨halves_byte _ _, keeps_nz _ (keeps_set _ hk f1)⟩
  · exact ⟨isByte_mod _, keeps_set _ (keeps_set _ (keeps_nz _ hk) f1) f64⟩
theorem all_ok (op : Int) {a m p : Int} (ha : IsByte a) (hm : IsByte m) (hp : IsByte p) : IsByte (doOf op a m p).1 ∧ Keeps p (doOf op a m p).2 := by
  have hk : Keeps p p := ⟨hp, rfl⟩
  have m0 := hm.1
  have m1 := hm.2
  rcases cases17 op with rfl | rfl | rfl | rfl | rfl | rfl | rfl | rfl | rfl | rfl | rfl | rfl | rfl | rfl | rfl | rfl | h | h
  · exact ⟨orB_byte ha hm, keeps_nz _ hk⟩
  · exact ⟨andB_byte hm, keeps_nz _ hk⟩
  · exact ⟨xorB_byte ha hm, keeps_nz _ hk⟩
  · exact adc_ok hp
  · exact sbc_ok hp
  · exact ⟨ha, keeps_set _ (keeps_nz _ hk) f1⟩
  · exact ⟨ha, keeps_two _ _ hk⟩
  · exact ⟨orB_byte ha hm, keeps_two _ _ hk⟩
  · exact ⟨bicB_byte hm ha, keeps_two _ _ hk⟩
  · exact ⟨isByte_mod _, keeps_set _ (keeps_nz _ hk) f1⟩
  · exact ⟨⟨by show 0 ≤ m * 2 % 256 + p % 2; omega, by show m * 2 % 256 + p % 2 < 256; omega⟩, keeps_set _ (keeps_nz _ hk) f1⟩
  · exact ⟨⟨by show 0 ≤ m / 2; omega, by show m / 2 < 256; omega⟩, keeps_set _ (keeps_nz _ hk) f1⟩
  · exact ⟨⟨by show 0 ≤ m / 2 + p % 2 * 128; omega, by show m / 2 + p % 2 * 128 < 256; omega⟩, keeps_set _ (keeps_nz _ hk) f1⟩
  · exact ⟨isByte_mod _, keeps_nz _ hk⟩
  · exact ⟨isByte_mod _, keeps_nz _ hk⟩
  · exact ⟨hm, keeps_nz _ hk⟩
  · rw [doOf_none (.inl h)]; exact ⟨ha, hk⟩
  · rw [doOf_none (.inr h)]; exact ⟨ha, hk⟩
/-! ### Sums, and sums of decimal numbers -/
theorem set64_mod (p : Int) (on : Bool) : setOf p 64 on % 2 = p % 2 := by
  unfold setOf; cases on <;> simp <;> omega
theorem b01_is (x : Bool) : (b01 x == 1) = x := by cases x <;> rfl
theorem add_two {a m c : Int} (ha : IsByte a) (hm : IsByte m) (hc : 0 ≤ c ∧ c ≤ 1) : ∃ q, doOf 3 a m c = ((a + m + c) % 256, q) ∧ q % 2 = (a + m + c) / 256 := by
  have e : c % 2 = c := by omega
  have d : doOf 3 a m c = adcTwo a m c := by show adcOf a m c = _; unfold adcOf; rw [if_neg (by omega)]
  rw [d]
  unfold adcTwo
  simp only [e]
  refine ⟨_, rfl, ?_⟩
  rw [set64_mod, set1_mod]
  obtain ⟨a0, a1⟩ := ha
  obtain ⟨m0, m1⟩ := hm
  by_cases h : 255 < a + m + c
  · rw [b01_yes h]; omega
  · rw [b01_no h]; omega
theorem sub_two {a m c : Int} (ha : IsByte a) (hm : IsByte m) (hc : 0 ≤ c ∧ c ≤ 1) : ∃ q, doOf 4 ((a + m + c) % 256) m (1 - c) = (a, q) := by
  have e : (1 - c) % 2 = 1 - c := by omega
  have d : doOf 4 ((a + m + c) % 256) m (1 - c) = sbcTwo ((a + m + c) % 256) m (1 - c) := by show sbcOf _ _ _ = _; unfold sbcOf; rw [if_neg (by omega)]
  rw [d]
  unfold sbcTwo
  simp only [e]
  obtain ⟨a0, a1⟩ := ha
  obtain ⟨m0, m1⟩ := hm
  have h : ((a + m + c) % 256 - m - 1 + (1 - c)) % 256 = a := by omega
  rw [h]
  exact ⟨_, rfl⟩
/-- A number below 100 in two halves. -/
def bcdOf (n : Int) : Int := n / 10 * 16 + n % 10
theorem bcd_byte {n : Int} (h : 0 ≤ n ∧ n < 100) : IsByte (bcdOf n) := by unfold bcdOf; exact ⟨by omega, by omega⟩
theorem add_ten {x y c : Int} (hx : 0 ≤ x ∧ x < 100) (hy : 0 ≤ y ∧ y < 100) (hc : 0 ≤ c ∧ c ≤ 1) :
    ∃ q, doOf 3 (bcdOf x) (bcdOf y) (8 + c) = (bcdOf ((x + y + c) % 100), q) ∧ q % 2 = b01 (decide (99 < x + y + c)) := by
  have d : doOf 3 (bcdOf x) (bcdOf y) (8 + c) = adcTen (bcdOf x) (bcdOf y) (8 + c) := by show adcOf _ _ _ = _; unfold adcOf; rw [if_pos (by omega)]
  have e1 : bcdOf x % 16 = x % 10 := by unfold bcdOf; omega
  have e2 : bcdOf y % 16 = y % 10 := by unfold bcdOf; omega
  have e3 : bcdOf x / 16 = x / 10 := by unfold bcdOf; omega
  have e4 : bcdOf y / 16 = y / 10 := by unfold bcdOf; omega
  have e5 : (8 + c) % 2 = c := by omega
  rw [d]
  unfold adcTen
  simp only [e1, e2, e3, e4, e5]
  have hl : (x % 10 + y % 10 + c ≤ 9) ∨ (9 < x % 10 + y % 10 + c) := by omega
  have key : tenUp (x / 10 + y / 10 + carryUp (x % 10 + y % 10 + c)) % 16 * 16 + tenUp (x % 10 + y % 10 + c) % 16 = bcdOf ((x + y + c) % 100) ∧ (15 < tenUp (x / 10 + y / 10 + carryUp (x % 10 + y % 10 + c)) ↔ 99 < x + y + c) := by
    unfold bcdOf
    rcases hl with hl | hl
    · rw [(tenUp_low hl).1, (tenUp_low hl).2]
      rcases Int.lt_or_le 9 (x / 10 + y / 10 + 0) with hh | hh
      · rw [(tenUp_high hh).1]; omega
      · rw [(tenUp_low hh).1]; omega
    · rw [(tenUp_high hl).1, (tenUp_high hl).2]
      rcases Int.lt_or_le 9 (x / 10 + y / 10 + 1) with hh | hh
      · rw [(tenUp_high hh).1]; omega
      · rw [(tenUp_low hh).1]; omega
  rw [key.1]
  refine ⟨_, rfl, ?_⟩
  rw [set1_mod]
  simp only [key.2]
theorem sub_ten {x y c : Int} (hx : 0 ≤ x ∧ x < 100) (hy : 0 ≤ y ∧ y < 100) (hc : 0 ≤ c ∧ c ≤ 1) :
    ∃ q, doOf 4 (bcdOf x) (bcdOf y) (8 + c) = (bcdOf ((x - y - 1 + c + 100) % 100), q) ∧ q % 2 = b01 (decide (0 ≤ x - y - 1 + c)) := by
  have d : doOf 4 (bcdOf x) (bcdOf y) (8 + c) = sbcTen (bcdOf x) (bcdOf y) (8 + c) := by show sbcOf _ _ _ = _; unfold sbcOf; rw [if_pos (by omega)]
  have e1 : bcdOf x % 16 = x % 10 := by unfold bcdOf; omega
  have e2 : bcdOf y % 16 = y % 10 := by unfold bcdOf; omega
  have e3 : bcdOf x / 16 = x / 10 := by unfold bcdOf; omega
  have e4 : bcdOf y / 16 = y / 10 := by unfold bcdOf; omega
  have e5 : (8 + c) % 2 = c := by omega
  rw [d]
  unfold sbcTen
  simp only [e1, e2, e3, e4, e5]
  have hl : (0 ≤ x % 10 - y % 10 - 1 + c) ∨ (x % 10 - y % 10 - 1 + c < 0) := by omega
  have key : tenDown (x / 10 - y / 10 - carryDown (x % 10 - y % 10 - 1 + c)) % 16 * 16 + tenDown (x % 10 - y % 10 - 1 + c) % 16 = bcdOf ((x - y - 1 + c + 100) % 100) ∧ (0 ≤ x / 10 - y / 10 - carryDown (x % 10 - y % 10 - 1 + c) ↔ 0 ≤ x - y - 1 + c) := by
    unfold bcdOf
    rcases hl with hl | hl
    · rw [(tenDown_high hl).1, (tenDown_high hl).2]
      rcases Int.lt_or_le (x / 10 - y / 10 - 0) 0 with hh | hh
      · rw [(tenDown_low hh).1]; omega
      · rw [(tenDown_high hh).1]; omega
    · rw [(tenDown_low hl).1, (tenDown_low hl).2]
      rcases Int.lt_or_le (x / 10 - y / 10 - 1) 0 with hh | hh
      · rw [(tenDown_low hh).1]; omega
      · rw [(tenDown_high hh).1]; omega
  rw [key.1]
  refine ⟨_, rfl, ?_⟩
  rw [(nz_bits _ _).2.2.2, set1_mod]
  simp only [key.2]
end Go.Proofs.Ytjainjpfmmonbaa
