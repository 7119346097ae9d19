/- The program's machine where there is none: nil, and one that no call made. -/
import Derived.Test.YtnoggfnidaifkaaGreatDoorConsoleNobodyJ13
import Derived.Test.YtnoggfnidaifkaaGreatDoorConsoleNobodyJ03
namespace Go.Proofs.YtnoggfnidaifkaaGreatDoor.L24
set_option maxRecDepth 20000
open C3 G6 P22 R15 W13
open Go.RowKit
set_option linter.unusedVariables false
theorem new_none (w : World) : Calls Tryz.prog 12 #[.pointer none] w fun e w' => e = Ending.returned (.pointer none) ∧ w' = w := by
  have KP := hide (pages_nil w)
  go_enter Tryz.func12, Tryz.ntmps12
  go_wp2_with (first | (go_at_call 29; refine KP.out.mono ?_; rintro e w' ⟨rfl, hw⟩; subst w'))
  go_ret
  exact ⟨rfl, rfl⟩
theorem new_plain {w : World} {c : Nat} (h : w.cell? ⟨c, 0, none⟩ = some (.slice none 0 0)) : Calls Tryz.prog 12 #[.pointer (some ⟨c, 0, none⟩)] w fun e w' => e = Ending.returned (.pointer none) ∧ w' = w := by
  have KP := hide (pages_of ⟨c, 0, none⟩ none 0 0 w (by decide) h)
  rw [show ((0 / 8192 : Nat) : Int) = 0 from rfl] at KP
  clear h
  go_enter Tryz.func12, Tryz.ntmps12
  go_wp2_with (first | (go_at_call 29; refine KP.out.mono ?_; rintro e w' ⟨rfl, hw⟩; subst w'))
  go_ret
  exact ⟨rfl, rfl⟩
theorem l0_sum : psum L0 = 9263 := of_decide_eq_true (by kernel_rfl)
theorem built_0 (w : World) : (Instr.build 70 #[]).run Tryz.prog w = .ok (.agg (rowF (segs L0) 9263)) w := by
  have e1 : rowF (segs L0) 9263 = (pl L0).toArray := pl_row L0 l0_sum
  have e2 := builtB_of []
  rw [fill_nil, ← e1] at e2
  exact run_build w _ _ _ e2
end Go.Proofs.YtnoggfnidaifkaaGreatDoor.L24
