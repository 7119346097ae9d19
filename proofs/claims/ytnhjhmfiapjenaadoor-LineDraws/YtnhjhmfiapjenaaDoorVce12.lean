/- Package vce: the contracts of nine, grey, Colour, Dot, Lines. -/
import Derived.Test.YtnhjhmfiapjenaaDoorDoes12
namespace Go.Proofs.YtnhjhmfiapjenaaDoor.V12
open Go.RowKit
set_option linter.unusedVariables false

theorem nine_any (n : Int) (w : World) : Calls Tryd.prog 43 #[.int .i64 n] w fun e w' => e = .returned (.int .i64 (n % 512)) ∧ w' = w := by
  have h := and_511 n
  go_enter Tryd.func43, Tryd.ntmps43
  go_wp2
  go_ret
  exact ⟨rfl, rfl⟩
theorem grey_any (x : Int) (w : World) (h0 : 0 ≤ x) (h1 : x < 512) : Calls Tryd.prog 44 #[.int .i64 x] w fun e w' => e = .returned (.int .i64 (colOf x true)) ∧ w' = w := by
  have u1 := and_7 (x / 64)
  have u2 := and_7 (x / 8)
  have u3 := and_7 x
  have u4 : x / 64 % 8 = x / 64 := by omega
  show Calls Tryd.prog 44 #[.int .i64 x] w fun e w' => e = .returned (.int .i64 ((x / 64 * 4 + x / 8 % 8 * 2 + x % 8) / 7 * 73)) ∧ w' = w
  go_enter Tryd.func44, Tryd.ntmps44
  go_wp2
  go_ret
  exact ⟨ret_int (by omega), rfl⟩
theorem colour_at (c a k : Int) (f : Nat → Int) (w : World) (i : Nat) (hi : k % 512 = (i : Int)) : Calls Tryd.prog 22 #[.agg (rowV c a f), .int .i64 k] w fun e w' => e = .returned (.int .i64 (colOf (f i % 512) (bitOf c 7 == 1))) ∧ Below w.heap.size w w' := by
  have c0 := (hasV_new 34 w c a f).c0
  have h0 : i < 512 := by omega
  have ci := (hasV_new 34 w c a f).at i h0
  have hb := bitOf_01 c 7
  obtain ⟨x, hx, x0, x1⟩ : ∃ x, f i % 512 = x ∧ 0 ≤ x ∧ x < 512 := ⟨_, rfl, by omega, by omega⟩
  rw [hx]
  have hq : bitOf c 7 = 0 ∨ bitOf c 7 = 1 := by omega
  rcases hq with h7 | h7
  · rw [h7]
    show Calls Tryd.prog 22 _ w fun e w' => e = .returned (.int .i64 x) ∧ Below w.heap.size w w'
    go_enter Tryd.func22, Tryd.ntmps22
    go_wp2_with (first | (go_at_call 43; refine (nine_any _ _).mono ?_; rintro e w' ⟨rfl, rfl⟩) | (go_at_call 29; refine (bit_any _ _ _).mono ?_; rintro e w' ⟨rfl, rfl⟩))
    go_ret
    exact ⟨rfl, (Below.refl _ w).alloc (Nat.le_refl _) _⟩
  · rw [h7]
    show Calls Tryd.prog 22 _ w fun e w' => e = .returned (.int .i64 (colOf x true)) ∧ Below w.heap.size w w'
    go_enter Tryd.func22, Tryd.ntmps22
    go_wp2_with (first | (go_at_call 43; refine (nine_any _ _).mono ?_; rintro e w' ⟨rfl, rfl⟩) | (go_at_call 29; refine (bit_any _ _ _).mono ?_; rintro e w' ⟨rfl, rfl⟩) | (go_at_call 44; refine (grey_any _ _ x0 x1).mono ?_; rintro e w' ⟨rfl, rfl⟩))
    go_ret
    exact ⟨rfl, (Below.refl _ w).alloc (Nat.le_refl _) _⟩
theorem colour_does : ColourDoes := fun c a f k w => colour_at c a k f w (k % 512).toNat (by omega)
end Go.Proofs.YtnhjhmfiapjenaaDoor.V12
