/- Package psg: bits, and a channel's index. -/
import Derived.Test.YtcpilhbinkamiaaDoorValP22
import Derived.Test.YtcpilhbinkamiaaDoorBits
namespace Go.Proofs.YtcpilhbinkamiaaDoor
open Go.RowKit
set_option linter.unusedVariables false

theorem isSet_any (n k : Int) (w : World) : Calls Tryd.prog 32 #[.int .i64 n, .int .i64 k] w fun e w' => e = Ending.returned (.bool (bitOf n k == 1)) ∧ w' = w := by
  have K := hide (fun w => bit_any n k w)
  generalize bitOf n k = x at *
  go_enter Tryd.func32, Tryd.ntmps32
  go_wp2_with (go_at_call 48; refine (K.out _).mono ?_; rintro e w' ⟨rfl, hw⟩; subst w')
  go_ret
  exact ⟨rfl, rfl⟩
theorem bit_7 {n : Int} (h0 : 0 ≤ n) (h1 : n ≤ 255) : (bitOf n 7 == 1) = decide (128 ≤ n) := by
  have e : bitOf n 7 = n % 65536 / 128 % 2 := rfl
  rw [e, Bool.eq_iff_iff, beq_iff_eq, decide_eq_true_iff]
  omega
theorem bit_6 {n : Int} (h0 : 0 ≤ n) (h1 : n ≤ 255) : (bitOf n 6 == 1) = decide (n / 64 % 2 = 1) := by
  have e : bitOf n 6 = n % 65536 / 64 % 2 := rfl
  rw [e, Bool.eq_iff_iff, beq_iff_eq, decide_eq_true_iff]
  omega
theorem set_7 {n : Int} (h0 : 0 ≤ n) (h1 : n ≤ 255) (w : World) : Calls Tryd.prog 32 #[.int .i64 n, .int .i64 7] w fun e w' => e = Ending.returned (.bool (decide (128 ≤ n))) ∧ w' = w := by
  rw [← bit_7 h0 h1]
  exact isSet_any n 7 w
theorem set_6 {n : Int} (h0 : 0 ≤ n) (h1 : n ≤ 255) (w : World) : Calls Tryd.prog 32 #[.int .i64 n, .int .i64 6] w fun e w' => e = Ending.returned (.bool (decide (n / 64 % 2 = 1))) ∧ w' = w := by
  rw [← bit_6 h0 h1]
  exact isSet_any n 6 w
theorem mask_31 (n : Int) : bits .and .i64 n 31 = n % 32 := and_mask 5 (by decide) n
theorem mask_4095 (n : Int) : bits .and .i64 n 4095 = n % 4096 := and_mask 12 (by decide) n
theorem turn_any (b o : Nat) (x n : Int) (w : World) (c : w.cell? ⟨b, o + 36, none⟩ = some (.int .i64 x)) (fr : w.frozen? ⟨b, o + 36, none⟩ = false) (x0 : 0 ≤ x) (x1 : x ≤ 31) (n0 : 0 ≤ n) (n1 : n ≤ 16777670) :
    Calls Tryd.prog 52 #[.pointer (some ⟨b, o, none⟩), .int .i64 n] w fun e w' => e = Ending.returned (.tuple #[]) ∧ w' = w.setCell ⟨b, o + 36, none⟩ (.int .i64 ((x + n) % 32)) := by
  have m := mask_31 (x + n)
  go_enter Tryd.func52, Tryd.ntmps52
  go_wp2
  go_end0
  exact ⟨rfl, rfl⟩
end Go.Proofs.YtcpilhbinkamiaaDoor
