/- The document's own Level and Gain: the same answers. -/
import Derived.Test.YtcpilhbinkamiaaDoorVol20
import Derived.Test.YtcpilhbinkamiaaDoorBits
namespace Go.Proofs.YtcpilhbinkamiaaDoor
open Go.RowKit
set_option linter.unusedVariables false

/-- The row of the levels, made anew. -/
theorem row_at (w : World) (t k : Nat) (hk : k < 32) : (w.alloc (.cells levelCells t)).cell? ⟨w.heap.size, k, none⟩ = some (.int .i64 (levelAt k)) := by
  have := level_cell ⟨k, hk⟩
  simp only at this
  simp [levelCells, this]

theorem rlevel_up (n : Int) (w : World) (h : 31 < n) : Calls Tryd.prog 41 #[.int .i64 n] w fun e w' => e = .returned (.int .i64 (levelOf n)) ∧ Below w.heap.size w w' := by
  have e : levelOf n = 0 := level_end (by omega)
  rw [e]
  clear e
  go_enter Tryd.func41, Tryd.ntmps41
  go_wp2
  go_ret
  exact ⟨rfl, Below.refl _ _⟩
theorem rlevel_low (n : Int) (w : World) (h : n < 0) : Calls Tryd.prog 41 #[.int .i64 n] w fun e w' => e = .returned (.int .i64 (levelOf n)) ∧ Below w.heap.size w w' := by
  have e : levelOf n = 1024 := by unfold levelOf clip; rw [if_pos h]; decide
  rw [e]
  clear e
  go_enter Tryd.func41, Tryd.ntmps41
  go_wp2_with fail
  go_ret
  exact ⟨rfl, (Below.refl _ w).alloc (Nat.le_refl _) _⟩
theorem rlevel_in (n : Int) (w : World) (h0 : 0 ≤ n) (h1 : n ≤ 31) : Calls Tryd.prog 41 #[.int .i64 n] w fun e w' => e = .returned (.int .i64 (levelOf n)) ∧ Below w.heap.size w w' := by
  have e : levelOf n = levelAt n.toNat := by unfold levelOf clip; rw [if_neg (by omega), if_neg (by omega)]
  rw [e]
  clear e
  have c : (w.alloc (.cells #[.int .i64 1024, .int .i64 862, .int .i64 725, .int .i64 610, .int .i64 513, .int .i64 432, .int .i64 363, .int .i64 306, .int .i64 257, .int .i64 216, .int .i64 182, .int .i64 153, .int .i64 129, .int .i64 108, .int .i64 91, .int .i64 77, .int .i64 65, .int .i64 54, .int .i64 46, .int .i64 38, .int .i64 32, .int .i64 27, .int .i64 23, .int .i64 19, .int .i64 16, .int .i64 14, .int .i64 11, .int .i64 10, .int .i64 8, .int .i64 7, .int .i64 6, .int .i64 0] 3)).cell? ⟨w.heap.size, n.toNat, none⟩ = some (.int .i64 (levelAt n.toNat)) := row_at w 3 n.toNat (by omega)
  go_enter Tryd.func41, Tryd.ntmps41
  go_wp2_with fail
  go_ret
  exact ⟨rfl, (Below.refl _ w).alloc (Nat.le_refl _) _⟩
theorem rlevel_any (n : Int) (w : World) : Calls Tryd.prog 41 #[.int .i64 n] w fun e w' => e = .returned (.int .i64 (levelOf n)) ∧ Below w.heap.size w w' := by
  by_cases h0 : n < 0
  · exact rlevel_low n w h0
  · by_cases h1 : 31 < n
    · exact rlevel_up n w h1
    · exact rlevel_in n w (by omega) (by omega)

theorem rgain_any (v b m : Int) (w : World) : Calls Tryd.prog 24 #[.int .i64 v, .int .i64 b, .int .i64 m] w fun e w' => e = .returned (.int .i64 (gainOf v b m)) ∧ Below w.heap.size w w' := by
  have v0 : 0 ≤ v % 32 ∧ v % 32 < 32 := by omega
  have b0 : 0 ≤ b % 16 ∧ b % 16 < 16 := by omega
  have m0 : 0 ≤ m % 16 ∧ m % 16 < 16 := by omega
  go_enter Tryd.func24, Tryd.ntmps24
  go_wp2_with (first | (go_at_call 42; refine (mod_any _ _ _ (by decide) (by decide)).mono ?_; rintro e w' ⟨rfl, rfl⟩) | (go_at_call 41; refine (rlevel_any _ _).mono ?_; rintro e w' ⟨rfl, bw⟩))
  go_ret
  exact ⟨rfl, bw⟩
end Go.Proofs.YtcpilhbinkamiaaDoor
