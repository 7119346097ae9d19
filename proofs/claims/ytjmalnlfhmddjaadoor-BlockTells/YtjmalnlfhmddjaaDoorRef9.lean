/- Contracts of the document's answer for layer 9, and that the program's are the same, for each kind. -/
import Derived.Test.YtjmalnlfhmddjaaDoorStep
import Derived.Test.YtjmalnlfhmddjaaDoorKinds
namespace Go.Proofs.YtjmalnlfhmddjaaDoor
open Go.RowKit
set_option linter.unusedVariables false

theorem radd_any (a b : Int) (w : World) : Calls Tryd.prog 16 #[.int .i64 a, .int .i64 b] w fun e w' => e = .returned (.int .i64 (goOf a b)) ∧ w' = w := by
  go_enter Tryd.func16, Tryd.ntmps16
  go_wp2_with (go_at_call 15; refine (rword_any _ _).mono ?_; rintro e w' ⟨rfl, rfl⟩)
  go_ret
  exact ⟨ret_int (by unfold goOf; omega), rfl⟩
theorem rcount_any (n : Int) (w : World) : Calls Tryd.prog 11 #[.int .i64 n] w fun e w' => e = .returned (.int .i64 (countOf n)) ∧ w' = w := by
  unfold countOf
  by_cases h : n % 65536 = 0
  · rw [if_pos h]
    go_enter Tryd.func11, Tryd.ntmps11
    go_wp2_with (go_at_call 15; refine (rword_any _ _).mono ?_; rintro e w' ⟨rfl, rfl⟩)
    go_ret
    exact ⟨rfl, rfl⟩
  · rw [if_neg h]
    go_enter Tryd.func11, Tryd.ntmps11
    go_wp2_with (go_at_call 15; refine (rword_any _ _).mono ?_; rintro e w' ⟨rfl, rfl⟩)
    go_ret
    exact ⟨rfl, rfl⟩

theorem rstep_0 (i a b : Int) (w : World) : Calls Tryd.prog 7 #[.int .i64 0, .int .i64 i, .int .i64 a, .int .i64 b] w fun e w' =>
    e = .returned (.tuple #[.int .i64 (goOf a (i % 65536)), .int .i64 (goOf b (i % 65536))]) ∧ w' = w := by
  go_enter Tryd.func7, Tryd.ntmps7
  go_wp2_with (first
    | (go_at_call 15; refine (rword_any _ _).mono ?_; rintro e w' ⟨rfl, rfl⟩)
    | (go_at_call 16; refine (radd_any _ _ _).mono ?_; rintro e w' ⟨rfl, rfl⟩))
  go_ret2
  exact ⟨ret_two (by unfold goOf; omega) (by unfold goOf; omega), rfl⟩
theorem rstep_1 (i a b : Int) (w : World) : Calls Tryd.prog 7 #[.int .i64 1, .int .i64 i, .int .i64 a, .int .i64 b] w fun e w' =>
    e = .returned (.tuple #[.int .i64 (goOf a (-(i % 65536))), .int .i64 (goOf b (-(i % 65536)))]) ∧ w' = w := by
  go_enter Tryd.func7, Tryd.ntmps7
  go_wp2_with (first
    | (go_at_call 15; refine (rword_any _ _).mono ?_; rintro e w' ⟨rfl, rfl⟩)
    | (go_at_call 16; refine (radd_any _ _ _).mono ?_; rintro e w' ⟨rfl, rfl⟩))
  go_ret2
  exact ⟨ret_two (by unfold goOf; omega) (by unfold goOf; omega), rfl⟩
theorem rstep_2 (i a b : Int) (w : World) : Calls Tryd.prog 7 #[.int .i64 2, .int .i64 i, .int .i64 a, .int .i64 b] w fun e w' =>
    e = .returned (.tuple #[.int .i64 (goOf a (i % 65536)), .int .i64 (goOf b (0))]) ∧ w' = w := by
  go_enter Tryd.func7, Tryd.ntmps7
  go_wp2_with (first
    | (go_at_call 15; refine (rword_any _ _).mono ?_; rintro e w' ⟨rfl, rfl⟩)
    | (go_at_call 16; refine (radd_any _ _ _).mono ?_; rintro e w' ⟨rfl, rfl⟩))
  go_ret2
  exact ⟨ret_two (by unfold goOf; omega) (by unfold goOf; omega), rfl⟩
theorem rstep_3 (i a b : Int) (w : World) : Calls Tryd.prog 7 #[.int .i64 3, .int .i64 i, .int .i64 a, .int .i64 b] w fun e w' =>
    e = .returned (.tuple #[.int .i64 (goOf a (i % 65536)), .int .i64 (goOf b (i % 2))]) ∧ w' = w := by
  go_enter Tryd.func7, Tryd.ntmps7
  go_wp2_with (first
    | (go_at_call 15; refine (rword_any _ _).mono ?_; rintro e w' ⟨rfl, rfl⟩)
    | (go_at_call 16; refine (radd_any _ _ _).mono ?_; rintro e w' ⟨rfl, rfl⟩))
  go_ret2
  exact ⟨ret_two (by unfold goOf; omega) (by unfold goOf; omega), rfl⟩
theorem rstep_4 (i a b : Int) (w : World) : Calls Tryd.prog 7 #[.int .i64 4, .int .i64 i, .int .i64 a, .int .i64 b] w fun e w' =>
    e = .returned (.tuple #[.int .i64 (goOf a (i % 2)), .int .i64 (goOf b (i % 65536))]) ∧ w' = w := by
  go_enter Tryd.func7, Tryd.ntmps7
  go_wp2_with (first
    | (go_at_call 15; refine (rword_any _ _).mono ?_; rintro e w' ⟨rfl, rfl⟩)
    | (go_at_call 16; refine (radd_any _ _ _).mono ?_; rintro e w' ⟨rfl, rfl⟩))
  go_ret2
  exact ⟨ret_two (by unfold goOf; omega) (by unfold goOf; omega), rfl⟩
theorem rstep_no (k i a b : Int) (w : World) (h0 : k ≠ 0) (h1 : k ≠ 1) (h2 : k ≠ 2) (h3 : k ≠ 3) (h4 : k ≠ 4) : Calls Tryd.prog 7 #[.int .i64 k, .int .i64 i, .int .i64 a, .int .i64 b] w fun e w' =>
    e = .returned (.tuple #[.int .i64 0, .int .i64 0]) ∧ w' = w := by
  go_enter Tryd.func7, Tryd.ntmps7
  go_wp2_with (go_at_call 15; refine (rword_any _ _).mono ?_; rintro e w' ⟨rfl, rfl⟩)
  go_ret2
  exact ⟨rfl, rfl⟩

theorem step_both (k i a b : Int) : ∃ x y : Int,
    (∀ w, HasPaths w → Calls Tryd.prog 6 #[.int .i64 k, .int .i64 i, .agg #[.int .i64 a, .int .i64 b]] w fun e w' => e = .returned (.tuple #[.int .i64 x, .int .i64 y]) ∧ Below w.heap.size w w') ∧
    (∀ w, Calls Tryd.prog 7 #[.int .i64 k, .int .i64 i, .int .i64 a, .int .i64 b] w fun e w' => e = .returned (.tuple #[.int .i64 x, .int .i64 y]) ∧ w' = w) := by
  by_cases h0 : k = 0
  · subst h0; exact ⟨_, _, step_0 i a b, rstep_0 i a b⟩
  by_cases h1 : k = 1
  · subst h1; exact ⟨_, _, step_1 i a b, rstep_1 i a b⟩
  by_cases h2 : k = 2
  · subst h2; exact ⟨_, _, step_2 i a b, rstep_2 i a b⟩
  by_cases h3 : k = 3
  · subst h3; exact ⟨_, _, step_3 i a b, rstep_3 i a b⟩
  by_cases h4 : k = 4
  · subst h4; exact ⟨_, _, step_4 i a b, rstep_4 i a b⟩
  exact ⟨0, 0, fun w _ => step_no k i a b w (by omega), fun w => rstep_no k i a b w h0 h1 h2 h3 h4⟩
end Go.Proofs.YtjmalnlfhmddjaaDoor
