/- Contracts of package timing: one a function. -/
import Derived.Test.YtakacojablpfoaaBits
import Derived.Test.YtakacojablpfoaaKept
import Derived.Test.YtakacojablpfoaaRets
import Derived.Handy
import Derived.Deep.RegionHeld3
namespace Go.Proofs.Ytakacojablpfoaa
open Go.RowKit
set_option linter.unusedVariables false

/-- A number kept within two bounds: the nearer one, where it is beyond them. -/
def inB (a b n : Int) : Int := max a (min n b)
def aboveOf (v : Int) : Int := v % 32 + v / 256 % 256 + 3
def heightOf (v : Int) : Int := v % 512 + 1
def widthOf (v : Int) : Int := 8 * (v % 128 + 1)
theorem aboveOf_le (v : Int) : 3 ≤ aboveOf v ∧ aboveOf v ≤ 289 := by unfold aboveOf; omega
theorem heightOf_le (v : Int) : 1 ≤ heightOf v ∧ heightOf v ≤ 512 := by unfold heightOf; omega
theorem widthOf_le (v : Int) : 8 ≤ widthOf v ∧ widthOf v ≤ 1024 := by unfold widthOf; omega
theorem inB_le (a b n : Int) (h : a ≤ b) : a ≤ inB a b n ∧ inB a b n ≤ b := by unfold inB; omega
theorem and_31 (n : Int) : bits .and .i64 n 31 = n % 32 := and_mask 5 (by decide) n
theorem and_127 (n : Int) : bits .and .i64 n 127 = n % 128 := and_mask 7 (by decide) n
theorem and_511 (n : Int) : bits .and .i64 n 511 = n % 512 := and_mask 9 (by decide) n

theorem line_low (t : Int) (w : World) (h : t < 0) : Calls Try.prog 10 #[.int .i64 t] w fun e w' => e = .returned (.tuple #[.int .i64 0, .int .i64 0]) ∧ w' = w := by
  go_enter Try.func10, Try.ntmps10
  go_wp2
  go_ret2
  exact ⟨rfl, rfl⟩
theorem line_any (t : Int) (w : World) (h : 0 ≤ t) (h1 : t < 9223372036854775808) : Calls Try.prog 10 #[.int .i64 t] w fun e w' => e = .returned (.tuple #[.int .i64 (t / 1365), .int .i64 (t % 1365)]) ∧ w' = w := by
  have e1 : Int.tdiv t 1365 = t / 1365 := Int.tdiv_eq_ediv_of_nonneg h
  have e2 : Int.tmod t 1365 = t % 1365 := Int.tmod_eq_emod_of_nonneg h
  go_enter Try.func10, Try.ntmps10
  go_wp2
  go_ret2
  exact ⟨rfl, rfl⟩

theorem next_low (t : Int) (w : World) (h : t < 0) : Calls Try.prog 14 #[.int .i64 t] w fun e w' => e = .returned (.int .i64 1365) ∧ w' = w := by
  go_enter Try.func14, Try.ntmps14
  go_wp2_with (go_at_call 10; refine (line_low _ _ h).mono ?_; rintro e w' ⟨rfl, rfl⟩)
  go_ret
  exact ⟨rfl, rfl⟩
theorem next_any (t : Int) (w : World) (h : 0 ≤ t) (h1 : t < 9223372036854775808) : Calls Try.prog 14 #[.int .i64 t] w fun e w' => e = .returned (.int .i64 (1365 - t % 1365)) ∧ w' = w := by
  go_enter Try.func14, Try.ntmps14
  go_wp2_with (go_at_call 10; refine (line_any _ _ h h1).mono ?_; rintro e w' ⟨rfl, rfl⟩)
  go_ret
  exact ⟨rfl, rfl⟩

theorem between_any (a b : Int) (w : World) : Calls Try.prog 17 #[.int .i64 a, .int .i64 b] w fun e w' =>
    e = .returned (.func (.func 23) #[] #[.pointer (some ⟨w.heap.size, 0, none⟩), .pointer (some ⟨w.heap.size + 1, 0, none⟩)]) ∧ w' = (w.alloc (.cells #[.int .i64 a] 3)).alloc (.cells #[.int .i64 b] 3) := by
  go_enter Try.func17, Try.ntmps17
  go_wp2
  go_ret
  exact ⟨rfl, rfl⟩
theorem kept_any (a b n : Int) (x y : Nat) (w : World) (hx : w.cell? ⟨x, 0, none⟩ = some (.int .i64 a)) (hy : w.cell? ⟨y, 0, none⟩ = some (.int .i64 b)) :
    Calls Try.prog 23 #[.int .i64 n, .pointer (some ⟨x, 0, none⟩), .pointer (some ⟨y, 0, none⟩)] w fun e w' => e = .returned (.int .i64 (inB a b n)) ∧ w' = w := by
  go_enter Try.func23, Try.ntmps23
  go_wp2
  all_goals (go_ret; exact ⟨ret_int (by unfold inB; omega), rfl⟩)
theorem above_any (v : Int) (w : World) : Calls Try.prog 18 #[.int .i64 v] w fun e w' => e = .returned (.int .i64 (aboveOf v)) ∧ w' = w := by
  have e1 := and_31 (v % 256)
  go_enter Try.func18, Try.ntmps18
  go_wp2_with (go_at_call 24; refine (split_any _ _).mono ?_; rintro e w' ⟨rfl, rfl⟩)
  go_ret
  exact ⟨ret_int (by unfold aboveOf; omega), rfl⟩
theorem height_any (v : Int) (w : World) : Calls Try.prog 19 #[.int .i64 v] w fun e w' => e = .returned (.int .i64 (heightOf v)) ∧ w' = w := by
  have e1 := and_511 (v % 65536)
  go_enter Try.func19, Try.ntmps19
  go_wp2_with (go_at_call 25; refine (word_any _ _).mono ?_; rintro e w' ⟨rfl, rfl⟩)
  go_ret
  exact ⟨ret_int (by unfold heightOf; omega), rfl⟩
theorem width_any (v : Int) (w : World) : Calls Try.prog 20 #[.int .i64 v] w fun e w' => e = .returned (.int .i64 (widthOf v)) ∧ w' = w := by
  have e1 := and_127 (v % 65536)
  go_enter Try.func20, Try.ntmps20
  go_wp2_with (go_at_call 25; refine (word_any _ _).mono ?_; rintro e w' ⟨rfl, rfl⟩)
  go_ret
  exact ⟨ret_int (by unfold widthOf; omega), rfl⟩
theorem shown_no (a b c d f n : Int) (w : World) (h : n < b ∨ c ≤ n) : Calls Try.prog 12 #[.agg #[.int .i64 a, .int .i64 b, .int .i64 c, .int .i64 d, .int .i64 f], .int .i64 n] w fun e w' => e = .returned (.int .i64 (-1)) ∧ Below w.heap.size w w' := by
  by_cases h1 : n < b
  all_goals
    go_enter Try.func12, Try.ntmps12
    go_wp2
    go_ret
    exact ⟨rfl, (Below.refl _ w).alloc (Nat.le_refl _) _⟩
theorem shown_yes (a b c d f n : Int) (w : World) (h0 : b ≤ n) (h1 : n < c) (b0 : 0 ≤ b) (c0 : c ≤ 1000) : Calls Try.prog 12 #[.agg #[.int .i64 a, .int .i64 b, .int .i64 c, .int .i64 d, .int .i64 f], .int .i64 n] w fun e w' => e = .returned (.int .i64 (n - b)) ∧ Below w.heap.size w w' := by
  go_enter Try.func12, Try.ntmps12
  go_wp2
  go_ret
  exact ⟨rfl, (Below.refl _ w).alloc (Nat.le_refl _) _⟩
theorem frame_any (a b c d f : Int) (w : World) (h0 : 0 ≤ f) (h1 : f ≤ 1000) : Calls Try.prog 16 #[.agg #[.int .i64 a, .int .i64 b, .int .i64 c, .int .i64 d, .int .i64 f]] w fun e w' => e = .returned (.int .i64 (f * 1365)) ∧ Below w.heap.size w w' := by
  go_enter Try.func16, Try.ntmps16
  go_wp2
  go_ret
  exact ⟨rfl, (Below.refl _ w).alloc (Nat.le_refl _) _⟩
end Go.Proofs.Ytakacojablpfoaa
