/- Package noise: the contracts of stateOf, Step, Out, Period. -/
import Derived.Test.YtcpilhbinkamiaaDoorRows
import Derived.Test.YtcpilhbinkamiaaDoorPlain21
import Derived.Test.YtcpilhbinkamiaaDoorKit
import Derived.Test.YtcpilhbinkamiaaDoorXor21
import Derived.Test.YtcpilhbinkamiaaDoorVol20
namespace Go.Proofs.YtcpilhbinkamiaaDoor
open Go.RowKit
set_option linter.unusedVariables false

theorem stateOf_any (s : Int) (w : World) : Calls Tryd.prog 61 #[.int .i64 s] w fun e w' => e = .returned (.int .i64 (stOf s : Nat)) ∧ w' = w := by
  have e := and_262143 s
  by_cases h : s % 262144 = 0
  · have HQ : Hid (((stOf s : Nat) : Int) = 1) := by unfold stOf; rw [if_pos h]; rfl
    rw [h] at e
    clear h
    go_enter Tryd.func61, Tryd.ntmps61
    go_wp2
    go_ret
    exact ⟨ret_int HQ.out.symm, rfl⟩
  · have HQ : Hid (((stOf s : Nat) : Int) = s % 262144) := by unfold stOf; rw [if_neg h]; show ((s % 262144).toNat : Int) = s % 262144; omega
    generalize s % 262144 = z at *
    go_enter Tryd.func61, Tryd.ntmps61
    go_wp2
    go_ret
    exact ⟨ret_int HQ.out.symm, rfl⟩

def perOf (b : Int) : Int := if b % 32 = 31 then 64 else 128 * (31 - b % 32)
theorem period_any (b : Int) (w : World) : Calls Tryd.prog 49 #[.int .i64 b] w fun e w' => e = .returned (.int .i64 (perOf b)) ∧ w' = w := by
  have e := and_31 b
  have h0 : 0 ≤ b % 32 ∧ b % 32 < 32 := by omega
  by_cases h : b % 32 = 31
  · have HQ : Hid (perOf b = 64) := hide (by unfold perOf; rw [if_pos h])
    rw [h] at e
    clear h
    go_enter Tryd.func49, Tryd.ntmps49
    go_wp2
    go_ret
    exact ⟨ret_int HQ.out.symm, rfl⟩
  · have HQ : Hid (perOf b = 128 * (31 - b % 32)) := hide (by unfold perOf; rw [if_neg h])
    generalize b % 32 = z at *
    go_enter Tryd.func49, Tryd.ntmps49
    go_wp2
    go_ret
    exact ⟨ret_int HQ.out.symm, rfl⟩

theorem out_any (s : Int) (w : World) : Calls Tryd.prog 53 #[.int .i64 s] w fun e w' => e = .returned (.int .i64 (31 * ((stOf s : Nat) % 2 : Int))) ∧ w' = w := by
  have h1 := and_1 ((stOf s : Nat) : Int)
  have h2 : 0 ≤ ((stOf s : Nat) : Int) % 2 ∧ ((stOf s : Nat) : Int) % 2 < 2 := by omega
  go_enter Tryd.func53, Tryd.ntmps53
  go_wp2_with (go_at_call 61; refine (stateOf_any _ _).mono ?_; rintro e w' ⟨rfl, rfl⟩)
  go_ret
  exact ⟨rfl, rfl⟩

theorem step_any (s : Int) (w : World) : Calls Tryd.prog 66 #[.int .i64 s] w fun e w' => e = .returned (.int .i64 (stepN (stOf s) : Nat)) ∧ w' = w := by
  obtain ⟨h0, h1⟩ := stOf_in s
  have HS := hide (stepX (stOf s) h1)
  have hO := oddX_le (stOf s) h1
  have K := fun w => stateOf_any s w
  obtain ⟨x, hx⟩ : ∃ x, x = stOf s := ⟨_, rfl⟩
  rw [← hx] at h0 h1 HS K hO ⊢
  clear hx
  have hs : ((x : Nat) : Int) < 262144 := by omega
  unfold oddX at hO HS
  go_enter Tryd.func66, Tryd.ntmps66
  go_wp2_with (go_at_call 61; refine (K _).mono ?_; rintro e w' ⟨rfl, rfl⟩)
  go_ret
  exact ⟨ret_int HS.out, rfl⟩
end Go.Proofs.YtcpilhbinkamiaaDoor
