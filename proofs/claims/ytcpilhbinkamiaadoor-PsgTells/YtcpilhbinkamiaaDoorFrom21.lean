/- Package noise: the contract of a leap's 'from'. -/
import Derived.Test.YtcpilhbinkamiaaDoorRow21
namespace Go.Proofs.YtcpilhbinkamiaaDoor
open Go.RowKit
set_option linter.unusedVariables false

theorem shr_bit (s k : Nat) : bits .and .i64 ((s : Int) / 2 ^ k) 1 = ((s / 2 ^ k % 2 : Nat) : Int) := by
  have e : (s : Int) / 2 ^ k = ((s / 2 ^ k : Nat) : Int) := by
    rw [Int.natCast_ediv, Int.natCast_pow]
    rfl
  rw [e, and_1]
  omega
theorem from_step (t x s k : Nat) (ht : t < 262144) (hx : x < 262144) : bits .xor .i64 (t : Int) (wrap64 ((x : Int) * bits .and .i64 ((s : Int) / 2 ^ k) 1)) = ((t ^^^ x * (s / 2 ^ k % 2) : Nat) : Int) := by
  rw [shr_bit]
  have h2 : s / 2 ^ k % 2 = 0 ∨ s / 2 ^ k % 2 = 1 := by omega
  have e : wrap64 ((x : Int) * ((s / 2 ^ k % 2 : Nat) : Int)) = ((x * (s / 2 ^ k % 2) : Nat) : Int) := by
    rcases h2 with e | e <;> rw [e] <;> unfold wrap64 <;> omega
  have l : x * (s / 2 ^ k % 2) < 262144 := by rcases h2 with e | e <;> rw [e] <;> omega
  rw [e, xor_18i _ _ ht l]
theorem from_any (f : Nat → Nat) (hf : ∀ i, i < 18 → f i < 262144) (s : Nat) (hs : s < 262144) (w : World) :
    Calls Tryd.prog 65 #[.agg (rowL f), .int .i64 ((s : Nat) : Int)] w fun e w' => e = .returned (.int .i64 ((fromTo f s 18 : Nat) : Int)) ∧ Below w.heap.size w w' := by
  have N := hide (hasL_new w f)
  have HF := hide hf
  clear hf
  go_enter Tryd.func65, Tryd.ntmps65
  go_wp2_with (refine wpList_load_row rfl 93 (.tmp 2) rfl w.heap.size rfl _ _ _ _ N.out Tryd.underlying93 rfl (info_L f) ?_)
  go_loop [5, 9] (fun t i => ∃ k : Nat, k ≤ 18 ∧ i = .int .i64 k ∧ t = .int .i64 ((fromTo f s k : Nat) : Int)) (fun _ i => 18 - (intOf i).toNat)
  case atStart => exact ⟨0, Nat.zero_le _, rfl, rfl⟩
  case round =>
    obtain ⟨k, hk, rfl, rfl⟩ := hrel
    by_cases hlt : k < 18
    · have hi := fun w => leap_index f k hlt w
      have hF := HF.out k hlt
      have hT := fromTo_lt HF.out s k (by omega)
      have HS := hide (show fromTo f s (k + 1) = fromTo f s k ^^^ f k * (s / 2 ^ k % 2) from rfl)
      generalize f k = x at *
      generalize fromTo f s k = t at *
      go_wp2
      go_round
      case rel => exact ⟨k + 1, by omega, by go_num, by rw [HS.out, from_step t x s k hT hF]⟩
      case measure => simp [intOf]; omega
    · obtain rfl : k = 18 := by omega
      go_wp2
      go_ret
      exact ⟨rfl, (Below.refl _ w).alloc (Nat.le_refl _) _⟩
end Go.Proofs.YtcpilhbinkamiaaDoor
