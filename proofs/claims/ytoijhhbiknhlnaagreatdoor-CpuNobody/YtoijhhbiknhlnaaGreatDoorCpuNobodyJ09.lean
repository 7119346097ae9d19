/- The program's machine where there is none: nil, and one that no call made. -/
import Derived.Test.YtoijhhbiknhlnaaGreatDoorCpuNobodyJ07
import Derived.Test.YtoijhhbiknhlnaaGreatDoorCpuNobodyJ03
namespace Go.Proofs.YtoijhhbiknhlnaaGreatDoor.L24
set_option maxRecDepth 20000
open C3 G6 R15 W13
open Go.RowKit
set_option linter.unusedVariables false
theorem missing_none (w : World) : Calls Tryz.prog 29 #[.pointer none] w fun e w' => e = Ending.returned (.bool true) ∧ w' = w := by
  go_enter Tryz.func29, Tryz.ntmps29
  go_wp2
  go_ret
  exact ⟨rfl, rfl⟩
theorem missing_plain {w : World} {b : Nat} (h : w.cell? ⟨b, 281, none⟩ = some (.pointer none)) : Calls Tryz.prog 29 #[.pointer (some ⟨b, 0, none⟩)] w fun e w' => e = Ending.returned (.bool true) ∧ w' = w := by
  have KP := hide (pages_nil w)
  go_enter Tryz.func29, Tryz.ntmps29
  go_wp2_with (first | (go_at_call 80; refine KP.out.mono ?_; rintro e w' ⟨rfl, hw⟩; subst w'))
  go_ret
  exact ⟨rfl, rfl⟩
theorem read_miss {p : Value} {w : World} (K : Calls Tryz.prog 29 #[p] w fun e w' => e = Ending.returned (.bool true) ∧ w' = w) (a : Int) : Calls Tryz.prog 28 #[p, .int .i64 a] w fun e w' => e = Ending.returned (.int .i64 0) ∧ w' = w := by
  have K0 := hide K
  clear K
  go_enter Tryz.func28, Tryz.ntmps28
  go_wp2_with (first | (go_at_call 29; refine K0.out.mono ?_; rintro e w' ⟨rfl, hw⟩; subst w'))
  go_ret
  exact ⟨rfl, rfl⟩
theorem l0_sum : psum L0 = 9263 := of_decide_eq_true (by kernel_rfl)
theorem built_0 (w : World) : (Instr.build 55 #[]).run Tryz.prog w = .ok (.agg (rowF (segs L0) 9263)) w := by
  have e1 : rowF (segs L0) 9263 = (pl L0).toArray := pl_row L0 l0_sum
  have e2 := builtB_of []
  rw [fill_nil, ← e1] at e2
  exact run_build w _ _ _ e2
end Go.Proofs.YtoijhhbiknhlnaaGreatDoor.L24
