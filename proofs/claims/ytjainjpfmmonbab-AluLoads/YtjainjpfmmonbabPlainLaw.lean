/- What the laws of layer 2 ask of the document's answers. -/
import Derived.Test.YtjainjpfmmonbabAluDo
namespace Go.Proofs.Ytjainjpfmmonbab
open Go.RowKit
theorem b0 : IsByte 0 := ⟨by decide, by decide⟩
theorem do_ok (op a m p r q : Int) (ha : IsByte a) (hm : IsByte m) (hp : IsByte p) (h : doOf op a m p = (r, q)) (w : World) :
    Calls Try.prog 5 #[.int .i64 op, .int .i64 a, .int .i64 m, .int .i64 p] w fun e w' => e = .returned (.tuple #[.int .i64 r, .int .i64 q]) ∧ Below w.heap.size w w' := by
  have k := do_any op a m p w
  rw [byte_self ha, byte_self hm, byte_self hp, h] at k
  exact k
theorem do_at (op a m p r q : Int) (h : doOf op (a % 256) (m % 256) (p % 256) = (r, q)) (w : World) :
    Calls Try.prog 5 #[.int .i64 op, .int .i64 a, .int .i64 m, .int .i64 p] w fun e w' => e = .returned (.tuple #[.int .i64 r, .int .i64 q]) ∧ Below w.heap.size w w' := by
  have k := do_any op a m p w
  rw [h] at k
  exact k
/-- The carry behind it was set, or not. -/
theorem set1_mod (p : Int) (on : Bool) : setOf p 1 on % 2 = b01 on := by
  unfold setOf b01; cases on <;> simp <;> omega
theorem b01_yes {P : Prop} [Decidable P] (h : P) : b01 (decide P) = 1 := by simp [b01, h]
theorem b01_no {P : Prop} [Decidable P] (h : ¬ P) : b01 (decide P) = 0 := by simp [b01, h]
/-- What N and Z leave, bit by bit. -/
theorem nz_bits (p b : Int) : nzOf p b / 2 % 2 = b01 (decide (b % 256 = 0)) ∧ nzOf p b / 128 % 2 = b01 (decide (128 ≤ b % 256)) ∧ nzOf p b / 4 % 32 = p / 4 % 32 ∧ nzOf p b % 2 = p % 2 := by
  unfold nzOf
  generalize decide (128 ≤ b % 256) = x
  generalize decide (b % 256 = 0) = y
  unfold setOf b01
  cases x <;> cases y <;> simp <;> omega
theorem nzOf_self (p b : Int) : nzOf (p % 256) (b % 256) = nzOf p b := by unfold nzOf; rw [Int.emod_emod, Int.emod_emod]
end Go.Proofs.Ytjainjpfmmonbab
