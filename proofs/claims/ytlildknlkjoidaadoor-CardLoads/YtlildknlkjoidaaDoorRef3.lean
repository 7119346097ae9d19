/- The document's answer for card: Class and Check. -/
import Derived.Test.YtlildknlkjoidaaDoorCardSay
namespace Go.Proofs.YtlildknlkjoidaaDoor
open Go.RowKit
set_option linter.unusedVariables false

theorem rclass_any (n : Int) (w : World) :
    Calls Tryd.prog 12 #[.int .i64 n] w fun e w' => e = .returned (.tuple #[.int .i64 (kindOf n), .bool (known n)]) ∧ w' = w := by
  go_enter Tryd.func12, Tryd.ntmps12
  go_wp2
  all_goals (go_ret2; refine ⟨ret_kb ?_ ?_, rfl⟩ <;> first | rfl | (simp_all [kindOf, known]; done))

theorem rcheck_any (n : Nat) (w : World) (hn : n < 4611686018427387904) :
    Calls Tryd.prog 10 #[.int .i64 (n : Int)] w fun e w' => e = .returned (.tuple #[.int .i64 (if errOf (n - fromOf n) = 0 then (fromOf n : Int) else 0), .int .i64 (errOf (n - fromOf n))]) ∧ w' = w := by
  by_cases h : n % 8192 = 512
  · have e : fromOf n = 512 := by unfold fromOf; rw [if_pos h]
    rw [e]
    have g2 : (n : Int) % 8192 = 512 := by omega
    obtain ⟨m, hm⟩ : ∃ m, m = n - 512 := ⟨_, rfl⟩
    rw [← hm]
    have gm : (n : Int) - 512 = (m : Int) := by omega
    have hn2 : m < 4611686018427387904 := by omega
    clear h e hm
    by_cases h1 : m = 0
    · rw [err_1 h1, if_neg (by decide)]
      have h1' : (m : Int) = 0 := by omega
      clear h1
      go_enter Tryd.func10, Tryd.ntmps10
      go_wp2
      go_ret2
      exact ⟨rfl, rfl⟩
    · by_cases h2 : m % 8192 ≠ 0
      · rw [err_2 h1 h2, if_neg (by decide)]
        have h1' : ¬ (m : Int) = 0 := by omega
        have h2' : ¬ (m : Int) % 8192 = 0 := by omega
        clear h1 h2
        go_enter Tryd.func10, Tryd.ntmps10
        go_wp2
        all_goals (go_ret2; exact ⟨rfl, rfl⟩)
      · have h1' : ¬ (m : Int) = 0 := by omega
        have h2' : (m : Int) % 8192 = 0 := by omega
        obtain ⟨k, hk⟩ : ∃ k : Int, k = ((m / 8192 : Nat) : Int) := ⟨_, rfl⟩
        have hd : (m : Int) / 8192 = k := by omega
        have HK := hide hk
        clear hk
        by_cases h3 : 320 < m / 8192
        · rw [err_3 h1 h2 h3, if_neg (by decide)]
          have h3' : 320 < k := by rw [HK.out]; omega
          clear h1 h2 h3
          go_enter Tryd.func10, Tryd.ntmps10
          go_wp2
          go_ret2
          exact ⟨rfl, rfl⟩
        · have h3' : ¬ 320 < k := by rw [HK.out]; omega
          cases h4 : known ((m / 8192 : Nat) : Int)
          · rw [err_5 h1 h2 h3 (by rw [h4]; decide), if_neg (by decide)]
            rw [← HK.out] at h4
            clear h1 h2 h3
            go_enter Tryd.func10, Tryd.ntmps10
            go_wp2_with (first | (go_at_call 12; refine (rclass_any _ _).mono ?_; rintro e w' ⟨rfl, rfl⟩))
            go_ret2
            exact ⟨rfl, rfl⟩
          · rw [err_4 h1 h2 h3 h4, if_pos rfl]
            rw [← HK.out] at h4
            clear h1 h2 h3
            go_enter Tryd.func10, Tryd.ntmps10
            go_wp2_with (first | (go_at_call 12; refine (rclass_any _ _).mono ?_; rintro e w' ⟨rfl, rfl⟩))
            go_ret2
            exact ⟨rfl, rfl⟩
  · have e : fromOf n = 0 := by unfold fromOf; rw [if_neg h]
    rw [e, Nat.sub_zero]
    have g2 : ¬ (n : Int) % 8192 = 512 := by omega
    clear h e
    obtain ⟨m, hm⟩ : ∃ m, m = n := ⟨_, rfl⟩
    subst hm
    by_cases h1 : m = 0
    · rw [err_1 h1, if_neg (by decide)]
      have h1' : (m : Int) = 0 := by omega
      clear h1
      go_enter Tryd.func10, Tryd.ntmps10
      go_wp2
      go_ret2
      exact ⟨rfl, rfl⟩
    · by_cases h2 : m % 8192 ≠ 0
      · rw [err_2 h1 h2, if_neg (by decide)]
        have h1' : ¬ (m : Int) = 0 := by omega
        have h2' : ¬ (m : Int) % 8192 = 0 := by omega
        clear h1 h2
        go_enter Tryd.func10, Tryd.ntmps10
        go_wp2
        all_goals (go_ret2; exact ⟨rfl, rfl⟩)
      · have h1' : ¬ (m : Int) = 0 := by omega
        have h2' : (m : Int) % 8192 = 0 := by omega
        obtain ⟨k, hk⟩ : ∃ k : Int, k = ((m / 8192 : Nat) : Int) := ⟨_, rfl⟩
        have hd : (m : Int) / 8192 = k := by omega
        have HK := hide hk
        clear hk
        by_cases h3 : 320 < m / 8192
        · rw [err_3 h1 h2 h3, if_neg (by decide)]
          have h3' : 320 < k := by rw [HK.out]; omega
          clear h1 h2 h3
          go_enter Tryd.func10, Tryd.ntmps10
          go_wp2
          go_ret2
          exact ⟨rfl, rfl⟩
        · have h3' : ¬ 320 < k := by rw [HK.out]; omega
          cases h4 : known ((m / 8192 : Nat) : Int)
          · rw [err_5 h1 h2 h3 (by rw [h4]; decide), if_neg (by decide)]
            rw [← HK.out] at h4
            clear h1 h2 h3
            go_enter Tryd.func10, Tryd.ntmps10
            go_wp2_with (first | (go_at_call 12; refine (rclass_any _ _).mono ?_; rintro e w' ⟨rfl, rfl⟩))
            go_ret2
            exact ⟨rfl, rfl⟩
          · rw [err_4 h1 h2 h3 h4, if_pos rfl]
            rw [← HK.out] at h4
            clear h1 h2 h3
            go_enter Tryd.func10, Tryd.ntmps10
            go_wp2_with (first | (go_at_call 12; refine (rclass_any _ _).mono ?_; rintro e w' ⟨rfl, rfl⟩))
            go_ret2
            exact ⟨rfl, rfl⟩
end Go.Proofs.YtlildknlkjoidaaDoor
