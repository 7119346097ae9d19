/- The document's own answers for layer 12: contracts. -/
import Derived.Test.YtnhjhmfiapjenaaDoorBig12
namespace Go.Proofs.YtnhjhmfiapjenaaDoor.V12
open Go.RowKit
set_option linter.unusedVariables false

theorem rnine_any (n : Int) (w : World) : Calls Tryd.prog 49 #[.int .i64 n] w fun e w' => e = .returned (.int .i64 (n % 512)) ∧ w' = w := by
  go_enter Tryd.func49, Tryd.ntmps49
  go_wp2_with (go_at_call 56; refine (mod_any _ _ _ (by decide) (by decide)).mono ?_; rintro e w' ⟨rfl, rfl⟩)
  go_ret
  exact ⟨rfl, rfl⟩
theorem rcolour_any (c a k : Int) (f : Nat → Int) (w : World) (i : Nat) (hi : k % 512 = (i : Int)) : Calls Tryd.prog 27 #[.agg (rowV c a f), .int .i64 k] w fun e w' => e = .returned (.int .i64 (colOf (f i % 512) (bitOf c 7 == 1))) ∧ Below w.heap.size w w' := by
  have c0 := (hasV_new 46 w c a f).c0
  have h0 : i < 512 := by omega
  have ci := (hasV_new 46 w c a f).at i h0
  have hb := bitOf_01 c 7
  obtain ⟨x, hx, x0, x1⟩ : ∃ x, f i % 512 = x ∧ 0 ≤ x ∧ x < 512 := ⟨_, rfl, by omega, by omega⟩
  rw [hx]
  have hq : bitOf c 7 = 0 ∨ bitOf c 7 = 1 := by omega
  rcases hq with h7 | h7
  · rw [h7]
    show Calls Tryd.prog 27 _ w fun e w' => e = .returned (.int .i64 x) ∧ Below w.heap.size w w'
    go_enter Tryd.func27, Tryd.ntmps27
    go_wp2_with (first | (go_at_call 49; refine (rnine_any _ _).mono ?_; rintro e w' ⟨rfl, rfl⟩) | (go_at_call 45; refine (rbit_any _ _ _).mono ?_; rintro e w' ⟨rfl, rfl⟩))
    go_ret
    exact ⟨rfl, (Below.refl _ w).alloc (Nat.le_refl _) _⟩
  · rw [h7]
    show Calls Tryd.prog 27 _ w fun e w' => e = .returned (.int .i64 ((x / 64 * 4 + x / 8 % 8 * 2 + x % 8) / 7 * 73)) ∧ Below w.heap.size w w'
    go_enter Tryd.func27, Tryd.ntmps27
    go_wp2_with (first | (go_at_call 49; refine (rnine_any _ _).mono ?_; rintro e w' ⟨rfl, rfl⟩) | (go_at_call 45; refine (rbit_any _ _ _).mono ?_; rintro e w' ⟨rfl, rfl⟩))
    go_ret
    exact ⟨rfl, (Below.refl _ w).alloc (Nat.le_refl _) _⟩
theorem zero_R : zeroC = rowV 0 0 (fun _ => 0) := rfl
theorem info_R (c a : Int) (f : Nat → Int) : (Tryd.prog.info? 46).map (·.size) = some (rowV c a f).size := by
  rw [rowV_size]
  kernel_rfl
end Go.Proofs.YtnhjhmfiapjenaaDoor.V12
