/- The document's own answer for layer 15: the contracts of mask, only, effect, Valid, Write. -/
import Derived.Test.YtbgbedkmggefpaaDoorWrite15
import Derived.Test.YtbgbedkmggefpaaDoorValid15
namespace Go.Proofs.YtbgbedkmggefpaaDoor
open Go.RowKit
set_option linter.unusedVariables false

theorem lit_is : (#[.int .i64 65535, .int .i64 65535, .int .i64 65535, .int .i64 0, .int .i64 0, .int .i64 8191, .int .i64 1023, .int .i64 1023, .int .i64 511, .int .i64 255, .int .i64 32543, .int .i64 32639, .int .i64 65311, .int .i64 511, .int .i64 255, .int .i64 31, .int .i64 65535, .int .i64 65535, .int .i64 65535, .int .i64 65535] : Array Value) = maskCells := rfl
theorem lit_at (k : Nat) (hk : k < 20) : (#[.int .i64 65535, .int .i64 65535, .int .i64 65535, .int .i64 0, .int .i64 0, .int .i64 8191, .int .i64 1023, .int .i64 1023, .int .i64 511, .int .i64 255, .int .i64 32543, .int .i64 32639, .int .i64 65311, .int .i64 511, .int .i64 255, .int .i64 31, .int .i64 65535, .int .i64 65535, .int .i64 65535, .int .i64 65535] : Array Value)[k]? = some (.int .i64 (mk k)) := by
  rw [lit_is]
  have := mask_cell ⟨k, hk⟩
  simp only at this
  simp [maskCells, this]
theorem rmask_any (k : Nat) (hk : k < 20) (m : Int) (hm : mk k = m) (w : World) : Calls Tryd.prog 24 #[.int .i64 (k : Int)] w fun e w' => e = .returned (.int .i64 m) ∧ Below w.heap.size w w' := by
  have c : (w.alloc (.cells #[.int .i64 65535, .int .i64 65535, .int .i64 65535, .int .i64 0, .int .i64 0, .int .i64 8191, .int .i64 1023, .int .i64 1023, .int .i64 511, .int .i64 255, .int .i64 32543, .int .i64 32639, .int .i64 65311, .int .i64 511, .int .i64 255, .int .i64 31, .int .i64 65535, .int .i64 65535, .int .i64 65535, .int .i64 65535] 3)).cell? ⟨w.heap.size, k, none⟩ = some (.int .i64 m) := by
    rw [← hm, ← lit_at k hk]
    exact cell_of_row _ w.heap.size k _ _ _ (heap_alloc_new _ _)
  clear hm
  go_enter Tryd.func24, Tryd.ntmps24
  go_wp2_with fail
  go_ret
  exact ⟨rfl, (Below.refl _ w).alloc (Nat.le_refl _) _⟩
theorem ronly_any (n m x : Int) (hm : IsMask m) (hx : andW n m = x) (w : World) : Calls Tryd.prog 23 #[.int .i64 n, .int .i64 m] w fun e w' => e = .returned (.int .i64 x) ∧ w' = w := by
  have HX := hide ((only_16 n m hm).trans hx)
  clear hx hm
  go_enter Tryd.func23, Tryd.ntmps23
  go_wp2_with fail
  go_loop [5, 6] (fun t i => ∃ k : Nat, k ≤ 16 ∧ i = .int .i64 (k : Int) ∧ t = .int .i64 (onlyTo n m k)) (fun _ i => 16 - (intOf i).toNat)
  case atStart => exact ⟨0, Nat.zero_le _, rfl, rfl⟩
  case round =>
    obtain ⟨k, hk, rfl, rfl⟩ := hrel
    by_cases h : k < 16
    · have ho := only_le n m k hk
      have hp := pow_16 (k : Int) (by omega) (by omega)
      have h16 : (2 : Int) ^ k ≤ 32768 := by simpa using hp.2
      have h1 : (1 : Int) ≤ 2 ^ k := by simpa using hp.1
      have HS := hide (show onlyTo n m (k + 1) = onlyTo n m k + bitOf n k * bitOf m k * 2 ^ k from rfl)
      have C1 := hide (rbit_any n (k : Int))
      have C2 := hide (rbit_any m (k : Int))
      have CP := hide (fun w => power_any (k : Int) w (by omega) (by omega))
      simp only [Int.toNat_natCast] at CP
      have b1 := bitOf_01 n k
      have b2 := bitOf_01 m k
      have e1 : bitOf n k = 0 ∨ bitOf n k = 1 := by omega
      have e2 : bitOf m k = 0 ∨ bitOf m k = 1 := by omega
      clear b1 b2 hp
      generalize onlyTo n m k = o at *
      generalize (2 : Int) ^ k = p at *
      rcases e1 with e1 | e1 <;> rcases e2 with e2 | e2
      all_goals
        rw [e1] at C1 HS
        rw [e2] at C2 HS
        clear e1 e2
        go_wp2_with fail
        refine (C1.out _).mono ?_
        rintro e w' ⟨rfl, hw⟩
        subst w'
        go_wp2_with fail
        refine (C2.out _).mono ?_
        rintro e w' ⟨rfl, hw⟩
        subst w'
        go_wp2_with fail
        refine (CP.out _).mono ?_
        rintro e w' ⟨rfl, hw⟩
        subst w'
        go_wp2_with fail
        go_round
        case rel => exact ⟨k + 1, by omega, by go_num, by rw [HS.out]; congr 1; omega⟩
        case measure => simp [intOf]; omega
    · obtain rfl : k = 16 := by omega
      go_wp2_with fail
      go_ret
      exact ⟨ret_int HX.out, rfl⟩
end Go.Proofs.YtbgbedkmggefpaaDoor
