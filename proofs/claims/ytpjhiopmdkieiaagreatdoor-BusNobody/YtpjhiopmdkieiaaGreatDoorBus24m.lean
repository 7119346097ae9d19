/- The program's machine where there is none: nil, and one that no call made. -/
import Derived.Test.YtpjhiopmdkieiaaGreatDoorBus24t
import Derived.Test.YtpjhiopmdkieiaaGreatDoorCard
namespace Go.Proofs.YtpjhiopmdkieiaaGreatDoor.L24
open Go.Proofs.YtpjhiopmdkieiaaGreatDoor.C3 Go.Proofs.YtpjhiopmdkieiaaGreatDoor.G6 Go.Proofs.YtpjhiopmdkieiaaGreatDoor.P22 Go.Proofs.YtpjhiopmdkieiaaGreatDoor.R15 Go.Proofs.YtpjhiopmdkieiaaGreatDoor.W13
open Go.RowKit
set_option linter.unusedVariables false

theorem missing_none (w : World) : Calls Tryz.prog 29 #[.pointer none] w fun e w' => e = Ending.returned (.bool true) ∧ w' = w := by
  set_option maxRecDepth 20000 in
  go_enter Tryz.func29, Tryz.ntmps29
  set_option maxRecDepth 20000 in
  go_wp2
  set_option maxRecDepth 20000 in
  go_ret
  exact ⟨rfl, rfl⟩
theorem missing_plain {w : World} {b : Nat} (h : w.cell? ⟨b, 281, none⟩ = some (.pointer none)) : Calls Tryz.prog 29 #[.pointer (some ⟨b, 0, none⟩)] w fun e w' => e = Ending.returned (.bool true) ∧ w' = w := by
  have KP := hide (pages_nil w)
  set_option maxRecDepth 20000 in
  go_enter Tryz.func29, Tryz.ntmps29
  set_option maxRecDepth 20000 in
  go_wp2_with (first | (go_at_call 48; refine KP.out.mono ?_; rintro e w' ⟨rfl, hw⟩; subst w'))
  set_option maxRecDepth 20000 in
  go_ret
  exact ⟨rfl, rfl⟩
theorem read_miss {p : Value} {w : World} (K : Calls Tryz.prog 29 #[p] w fun e w' => e = Ending.returned (.bool true) ∧ w' = w) (a : Int) : Calls Tryz.prog 11 #[p, .int .i64 a] w fun e w' => e = Ending.returned (.int .i64 0) ∧ w' = w := by
  have K0 := hide K
  clear K
  set_option maxRecDepth 20000 in
  go_enter Tryz.func11, Tryz.ntmps11
  set_option maxRecDepth 20000 in
  go_wp2_with (first | (go_at_call 29; refine K0.out.mono ?_; rintro e w' ⟨rfl, hw⟩; subst w'))
  set_option maxRecDepth 20000 in
  go_ret
  exact ⟨rfl, rfl⟩
theorem write_miss {p : Value} {w : World} (K : Calls Tryz.prog 29 #[p] w fun e w' => e = Ending.returned (.bool true) ∧ w' = w) (a n : Int) : Calls Tryz.prog 13 #[p, .int .i64 a, .int .i64 n] w fun e w' => e = Ending.returned (.tuple #[]) ∧ w' = w := by
  have K0 := hide K
  clear K
  set_option maxRecDepth 20000 in
  go_enter Tryz.func13, Tryz.ntmps13
  set_option maxRecDepth 20000 in
  go_wp2_with (first | (go_at_call 29; refine K0.out.mono ?_; rintro e w' ⟨rfl, hw⟩; subst w'))
  refine bodyPost_ret (results_none rfl _ _ _) rfl ?_
  exact ⟨rfl, rfl⟩
theorem settle_miss {p : Value} {w : World} (K : Calls Tryz.prog 29 #[p] w fun e w' => e = Ending.returned (.bool true) ∧ w' = w) : Calls Tryz.prog 21 #[p] w fun e w' => e = Ending.returned (.tuple #[]) ∧ w' = w := by
  have K0 := hide K
  clear K
  set_option maxRecDepth 20000 in
  go_enter Tryz.func21, Tryz.ntmps21
  set_option maxRecDepth 20000 in
  go_wp2_with (first | (go_at_call 29; refine K0.out.mono ?_; rintro e w' ⟨rfl, hw⟩; subst w'))
  refine bodyPost_ret (results_none rfl _ _ _) rfl ?_
  exact ⟨rfl, rfl⟩
theorem tell_miss {p : Value} {w : World} (K : Calls Tryz.prog 29 #[p] w fun e w' => e = Ending.returned (.bool true) ∧ w' = w) (n : Int) (may : Bool) : Calls Tryz.prog 16 #[p, .int .i64 n, .bool may] w fun e w' => e = Ending.returned (.tuple #[]) ∧ w' = w := by
  have K0 := hide K
  clear K
  set_option maxRecDepth 20000 in
  go_enter Tryz.func16, Tryz.ntmps16
  set_option maxRecDepth 20000 in
  go_wp2_with (first | (go_at_call 29; refine K0.out.mono ?_; rintro e w' ⟨rfl, hw⟩; subst w'))
  refine bodyPost_ret (results_none rfl _ _ _) rfl ?_
  exact ⟨rfl, rfl⟩
theorem new_none (w : World) : Calls Tryz.prog 20 #[.pointer none] w fun e w' => e = Ending.returned (.pointer none) ∧ w' = w := by
  have KP := hide (pages_nil w)
  set_option maxRecDepth 20000 in
  go_enter Tryz.func20, Tryz.ntmps20
  set_option maxRecDepth 20000 in
  go_wp2_with (first | (go_at_call 48; refine KP.out.mono ?_; rintro e w' ⟨rfl, hw⟩; subst w'))
  set_option maxRecDepth 20000 in
  go_ret
  exact ⟨rfl, rfl⟩
theorem new_plain {w : World} {c : Nat} (h : w.cell? ⟨c, 0, none⟩ = some (.slice none 0 0)) : Calls Tryz.prog 20 #[.pointer (some ⟨c, 0, none⟩)] w fun e w' => e = Ending.returned (.pointer none) ∧ w' = w := by
  have KP := hide (pages_of ⟨c, 0, none⟩ none 0 0 w (by decide) h)
  rw [show ((0 / 8192 : Nat) : Int) = 0 from rfl] at KP
  clear h
  set_option maxRecDepth 20000 in
  go_enter Tryz.func20, Tryz.ntmps20
  set_option maxRecDepth 20000 in
  go_wp2_with (first | (go_at_call 48; refine KP.out.mono ?_; rintro e w' ⟨rfl, hw⟩; subst w'))
  set_option maxRecDepth 20000 in
  go_ret
  exact ⟨rfl, rfl⟩
/-- A machine that no call made. -/
theorem l0_sum : psum L0 = 9263 := of_decide_eq_true (by kernel_rfl)
theorem built_0 (w : World) : (Instr.build 64 #[]).run Tryz.prog w = .ok (.agg (rowF (segs L0) 9263)) w := by
  have e1 : rowF (segs L0) 9263 = (pl L0).toArray := pl_row L0 l0_sum
  have e2 := builtB_of []
  rw [fill_nil, ← e1] at e2
  exact run_build w _ _ _ e2
end Go.Proofs.YtpjhiopmdkieiaaGreatDoor.L24
