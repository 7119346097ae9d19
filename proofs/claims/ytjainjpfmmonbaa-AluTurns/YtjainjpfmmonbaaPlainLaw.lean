/- What the laws of layer 2 ask of the document's answers. -/
import Derived.Test.YtjainjpfmmonbaaAluDo
namespace Go.Proofs.Ytjainjpfmmonbaa
open Go.RowKit
theorem b0 : IsByte 0 := ⟨by decide, by decide⟩
theorem do_ok (op a m p r q : Int) (ha : IsByte a) (hm : IsByte m) (hp : IsByte p) (h : doOf op a m p = (r, q)) (w : World) :
    Calls Try.prog 9 #[.int .i64 op, .int .i64 a, .int .i64 m, .int .i64 p] w fun e w' => e = .returned (.tuple #[.int .i64 r, .int .i64 q]) ∧ Below w.heap.size w w' := by
  have k := do_any op a m p w
  rw [byte_self ha, byte_self hm, byte_self hp, h] at k
  exact k
theorem do_at (op a m p r q : Int) (h : doOf op (a % 256) (m % 256) (p % 256) = (r, q)) (w : World) :
    Calls Try.prog 9 #[.int .i64 op, .int .i64 a, .int .i64 m, .int .i64 p] w fun e w' => e = .returned (.tuple #[.int .i64 r, .int .i64 q]) ∧ Below w.heap.size w w' := by
  have k := do_any op a m p w
  rw [h] at k
  exact k
/-- The carry behind it was set, or not. -/
theorem set1_mod (p : Int) (on : Bool) : setOf p 1 on % 2 = b01 on := by
  unfold setOf b01; cases on <;> simp <;> omega
theorem b01_yes {P : Prop} [Decidable P] (h : P) : b01 (decide P) = 1 := by simp [b01, h]
theorem b01_no {P : Prop} [Decidable P] (h : ¬ P) : b01 (decide P) = 0 := by simp [b01, h]
/-- What N and Z leave, bit by bit. -/
theorem nz_bits (p b : Int) : nzOf p b / 2 % 2 = b01 (decide (b % 256 = 0)) ∧ nzOf p b / 128 % 2 = b01 (decide (128 ≤ b % 256)) ∧ nzOf p b / 4 % 32 = p / 4 % 32 ∧ nzOf p b % 2 = p % 2 := by
  unfold nzOf
  generalize decide (128 ≤ b % 256) = x
  generalize decide (b % 256 = 0) = y
  unfold setOf b01
  cases x <;> cases y <;> simp <;> omega
theorem set1_z (p : Int) (on : Bool) : setOf p 1 on / 2 % 2 = p / 2 % 2 := by
  unfold setOf; cases on <;> simp <;> omega
theorem two_bits (p m : Int) (z : Bool) (hp : IsByte p) (hm : IsByte m) : twoOf p m z / 2 % 2 = b01 z ∧ twoOf p m z / 64 % 4 = m / 64 % 4 := by
  obtain ⟨h0, h1⟩ := hp
  obtain ⟨m0, m1⟩ := hm
  unfold twoOf
  by_cases hx : 128 ≤ m <;> by_cases hy : m / 64 % 2 = 1 <;> cases z <;> simp only [hx, hy, decide_true, decide_false, setOf, b01, if_true, if_false, Bool.false_eq_true] <;> omega
/-! ### Both, one, either -/
theorem bytes_eq {x y : Nat} (h : ∀ k, x.testBit k = y.testBit k) : ((x : Nat) : Int) = ((y : Nat) : Int) := by
  rw [Nat.eq_of_testBit_eq h]
theorem xor_xor {a m : Int} (ha : IsByte a) (hm : IsByte m) : xorB (xorB a m) m = a := by
  obtain ⟨a, rfl⟩ := Int.eq_ofNat_of_zero_le ha.1
  obtain ⟨m, rfl⟩ := Int.eq_ofNat_of_zero_le hm.1
  unfold xorB
  simp only [Int.toNat_natCast]
  exact bytes_eq fun k => by
    simp only [Nat.testBit_xor]
    cases a.testBit k <;> cases m.testBit k <;> rfl
theorem or_bic {a m : Int} (ha : IsByte a) (hm : IsByte m) : orB a (bicB m a) = orB m a := by
  obtain ⟨a, rfl⟩ := Int.eq_ofNat_of_zero_le ha.1
  obtain ⟨m, rfl⟩ := Int.eq_ofNat_of_zero_le hm.1
  unfold orB bicB
  simp only [Int.toNat_natCast]
  exact bytes_eq fun k => by
    simp only [Nat.testBit_xor, Nat.testBit_and, Nat.testBit_or]
    cases a.testBit k <;> cases m.testBit k <;> rfl
theorem each_add (f g h l : Int → Int → Int) (a m : Int) (H : ∀ x y, f x y + g x y = h x y + l x y) : ∀ n, eachTo f a m n + eachTo g a m n = eachTo h a m n + eachTo l a m n
  | 0 => rfl
  | n + 1 => by
    have ih := each_add f g h l a m H n
    have e := H (bitOf a n) (bitOf m n)
    have e2 : f (bitOf a n) (bitOf m n) * 2 ^ n + g (bitOf a n) (bitOf m n) * 2 ^ n = h (bitOf a n) (bitOf m n) * 2 ^ n + l (bitOf a n) (bitOf m n) * 2 ^ n := by
      rw [← Int.add_mul, e, Int.add_mul]
    simp only [eachTo]
    omega
theorem nat_of {a : Int} (ha : IsByte a) : ((a.toNat : Nat) : Int) = a := Int.toNat_of_nonneg ha.1
theorem each_fst {a m : Int} (ha : IsByte a) (hm : IsByte m) : eachTo (fun x _ => x) a m 8 = a :=
  (each_8 _ (fun x _ => x) (by decide) ha hm a.toNat (by rw [nat_of ha]; exact ha.2) (fun k => rfl)).trans (nat_of ha)
theorem each_snd {a m : Int} (ha : IsByte a) (hm : IsByte m) : eachTo (fun _ y => y) a m 8 = m :=
  (each_8 _ (fun _ y => y) (by decide) ha hm m.toNat (by rw [nat_of hm]; exact hm.2) (fun k => rfl)).trans (nat_of hm)
theorem and_add_or {a m : Int} (ha : IsByte a) (hm : IsByte m) : andB a m + orB a m = a + m := by
  have h := each_add (fun x y => x * y) (fun x y => x + y - x * y) (fun x _ => x) (fun _ y => y) a m (fun x y => by omega) 8
  rw [each_and ha hm, each_or ha hm, each_fst ha hm, each_snd ha hm] at h
  exact h
theorem xor_is {a m : Int} (ha : IsByte a) (hm : IsByte m) : xorB a m = orB a m - andB a m := by
  have h := each_add (fun x y => x + y - 2 * x * y) (fun x y => x * y) (fun x y => x + y - x * y) (fun x y => x - x) a m (fun x y => by simp only [Int.mul_assoc]; omega) 8
  have z := each_add (fun x y => x - x) (fun x y => x - x) (fun x y => x - x) (fun x y => 0) a m (fun x y => by omega) 8
  have z0 : ∀ n, eachTo (fun x y => 0) a m n = 0 := by
    intro n
    induction n with
    | zero => rfl
    | succ n ih => simp only [eachTo]; rw [ih]; omega
  rw [each_and ha hm, each_or ha hm, each_xor ha hm] at h
  rw [z0 8] at z
  omega
theorem nzOf_self (p b : Int) : nzOf (p % 256) (b % 256) = nzOf p b := by unfold nzOf; rw [Int.emod_emod, Int.emod_emod]
/-! ### Turns of nine bits -/
def stepL (v : Int) : Int := v * 2 % 512 + v / 256
def stepR (v : Int) : Int := v / 2 + v % 2 * 256
def rotL (v : Int) : Nat → Int
  | 0 => v
  | k + 1 => stepL (rotL v k)
def rotR (v : Int) : Nat → Int
  | 0 => v
  | k + 1 => stepR (rotR v k)
theorem rot_nine : ∀ v : Fin 512, rotL (v.val : Int) 9 = (v.val : Int) ∧ rotR (v.val : Int) 9 = (v.val : Int) := by decide +kernel
theorem rot_9 (v : Int) (h0 : 0 ≤ v) (h1 : v < 512) : rotL v 9 = v ∧ rotR v 9 = v := by
  have h := rot_nine ⟨v.toNat, by omega⟩
  have e : ((v.toNat : Nat) : Int) = v := by omega
  simpa only [e] using h
theorem there_nine : ∀ v : Fin 512, stepR (stepL (v.val : Int)) = (v.val : Int) := by decide +kernel
theorem there_back (v : Int) (h0 : 0 ≤ v) (h1 : v < 512) : stepR (stepL v) = v := by
  have h := there_nine ⟨v.toNat, by omega⟩
  have e : ((v.toNat : Nat) : Int) = v := by omega
  simpa only [e] using h
theorem rol_step {x : Int} (q : Int) (hx : IsByte x) : ∃ r s, doOf 10 0 x q = (r, s) ∧ IsByte r ∧ IsByte s ∧ r + 256 * (s % 2) = stepL (x + 256 * (q % 2)) := by
  refine ⟨_, _, rfl, ?_, setOf_byte _ (nzOf_byte _ _) f1, ?_⟩
  · obtain ⟨h0, h1⟩ := hx
    exact ⟨by omega, by omega⟩
  · rw [set1_mod]
    obtain ⟨h0, h1⟩ := hx
    unfold stepL
    by_cases h : 128 ≤ x
    · rw [b01_yes h]; omega
    · rw [b01_no h]; omega
theorem ror_step {x : Int} (q : Int) (hx : IsByte x) : ∃ r s, doOf 12 0 x q = (r, s) ∧ IsByte r ∧ IsByte s ∧ r + 256 * (s % 2) = stepR (x + 256 * (q % 2)) := by
  refine ⟨_, _, rfl, ?_, setOf_byte _ (nzOf_byte _ _) f1, ?_⟩
  · obtain ⟨h0, h1⟩ := hx
    exact ⟨by omega, by omega⟩
  · rw [set1_mod]
    obtain ⟨h0, h1⟩ := hx
    unfold stepR
    by_cases h : x % 2 = 1
    · rw [b01_yes h]; omega
    · rw [b01_no h]; omega
end Go.Proofs.Ytjainjpfmmonbaa
