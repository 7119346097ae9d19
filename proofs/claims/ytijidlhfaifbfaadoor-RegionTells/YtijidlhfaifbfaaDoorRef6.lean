/- The document's answer for layer 6 (by its function), and that it is the contracts' own. -/
import Derived.Test.YtijidlhfaifbfaaDoorRegion
import Derived.OwnWalk
namespace Go.Proofs.YtijidlhfaifbfaaDoor
open Go.RowKit
set_option linter.unusedVariables false

theorem ret_three {a b c x y z : Int} (h : a = x) (k : b = y) (l : c = z) : Ending.returned (.tuple #[.int .i64 a, .int .i64 b, .int .i64 c]) = .returned (.tuple #[.int .i64 x, .int .i64 y, .int .i64 z]) := by rw [h, k, l]
theorem rwhere_any (p : Int) (w : World) : Calls Tryd.prog 7 #[.int .i64 p] w fun e w' => e = .returned (.tuple #[.int .i64 (kindW p), .int .i64 (pageW p), .int .i64 (atW p)]) ∧ w' = w := by
  by_cases h1 : p < 0 ∨ 2097152 ≤ p
  · have ek : kindW p = 8 := by unfold kindW; rw [if_pos h1]
    have eg : pageW p = 0 := by unfold pageW; rw [if_neg (by omega)]
    have ea : atW p = 0 := by unfold atW; rw [ek]; rfl
    rw [ek, eg, ea]
    by_cases k1 : p < 0
    · clear h1 ek eg ea
      go_enter Tryd.func7, Tryd.ntmps7
      go_wp2
      go_ret3
      exact ⟨ret_three (by first | rfl | omega) (by first | rfl | omega) (by first | rfl | omega), rfl⟩
    · have k2 : 2097151 < p := by omega
      clear h1 ek eg ea
      go_enter Tryd.func7, Tryd.ntmps7
      go_wp2
      go_ret3
      exact ⟨ret_three (by first | rfl | omega) (by first | rfl | omega) (by first | rfl | omega), rfl⟩
  · obtain ⟨g, hg⟩ : ∃ g, g = p / 8192 := ⟨_, rfl⟩
    obtain ⟨r, hr⟩ : ∃ r, r = p % 8192 := ⟨_, rfl⟩
    have p0 : 0 ≤ p := by omega
    have p1 : p ≤ 2097151 := by omega
    have fg : p / 8192 = g := hg.symm
    have fr : p % 8192 = r := hr.symm
    by_cases h2 : p < 1048576
    · have ek : kindW p = 0 := by unfold kindW; rw [if_neg h1, if_pos h2]
      have eg : pageW p = p / 8192 := by unfold pageW; rw [if_pos (by omega)]
      have ea : atW p = p % 8192 := by unfold atW; rw [ek]; rfl
      rw [ek, eg, ea, fg, fr]
      have l1 : g < 128 := by omega
      clear hg hr h1 ek eg ea
      go_enter Tryd.func7, Tryd.ntmps7
      go_wp2
      go_ret3
      exact ⟨ret_three (by first | rfl | omega) (by first | rfl | omega) (by first | rfl | omega), rfl⟩
    · have eg : pageW p = 0 := by unfold pageW; rw [if_neg (by omega)]
      by_cases h3 : 2031616 ≤ p ∧ p < 2064384
      · have ek : kindW p = 1 := by unfold kindW; rw [if_neg h1, if_neg h2, if_pos h3]
        have ea : atW p = p % 8192 := by unfold atW; rw [ek]; rfl
        rw [ek, eg, ea, fr]
        have l1 : 248 ≤ g := by omega
        have l2 : g ≤ 251 := by omega
        clear hg hr h1 ek eg ea h3
        go_enter Tryd.func7, Tryd.ntmps7
        go_wp2
        go_ret3
        exact ⟨ret_three (by first | rfl | omega) (by first | rfl | omega) (by first | rfl | omega), rfl⟩
      · by_cases h4 : p < 2088960
        · have ek : kindW p = 8 := by unfold kindW; rw [if_neg h1, if_neg h2, if_neg h3, if_pos (by omega)]
          have ea : atW p = 0 := by unfold atW; rw [ek]; rfl
          rw [ek, eg, ea]
          have l1 : 128 ≤ g := by omega
          have l2 : ¬ g = 255 := by omega
          by_cases l3 : 248 ≤ g
          · have l4 : 251 < g := by omega
            clear hg hr h1 ek eg ea h3
            go_enter Tryd.func7, Tryd.ntmps7
            go_wp2
            go_ret3
            exact ⟨ret_three (by first | rfl | omega) (by first | rfl | omega) (by first | rfl | omega), rfl⟩
          · clear hg hr h1 ek eg ea h3
            go_enter Tryd.func7, Tryd.ntmps7
            go_wp2
            go_ret3
            exact ⟨ret_three (by first | rfl | omega) (by first | rfl | omega) (by first | rfl | omega), rfl⟩
        · have g5 : g = 255 := by omega
          obtain ⟨q, hq⟩ : ∃ q, q = r / 1024 := ⟨_, rfl⟩
          have fq : r / 1024 = q := hq.symm
          have r0 : 0 ≤ r := by omega
          by_cases h5 : 2095104 ≤ p
          · have ek : kindW p = 8 := by unfold kindW; rw [if_neg h1, if_neg h2, if_neg h3, if_pos (by omega)]
            have ea : atW p = 0 := by unfold atW; rw [ek]; rfl
            rw [ek, eg, ea]
            have l2 : 5 < q := by omega
            clear hg hr h1 ek eg ea h3 hq
            subst g5
            go_enter Tryd.func7, Tryd.ntmps7
            go_wp2
            go_ret3
            exact ⟨ret_three (by first | rfl | omega) (by first | rfl | omega) (by first | rfl | omega), rfl⟩
          · have ek : kindW p = 2 + q := by unfold kindW; rw [if_neg h1, if_neg h2, if_neg h3, if_neg (by omega)]; omega
            have q6 : q = 0 ∨ q = 1 ∨ q = 2 ∨ q = 3 ∨ q = 4 ∨ q = 5 := by omega
            rw [eg]
            clear hg h1 eg h3 hq
            subst g5
            rcases q6 with rfl | rfl | rfl | rfl | rfl | rfl
            · have ea : atW p = r % 4 := by unfold atW; rw [ek]; show p % 4 = r % 4; omega
              rw [ek, ea]; clear ek ea hr
              go_enter Tryd.func7, Tryd.ntmps7
              go_wp2
              go_ret3
              exact ⟨ret_three (by first | rfl | omega) (by first | rfl | omega) (by first | rfl | omega), rfl⟩
            · have ea : atW p = r % 8 := by unfold atW; rw [ek]; show p % 8 = r % 8; omega
              rw [ek, ea]; clear ek ea hr
              go_enter Tryd.func7, Tryd.ntmps7
              go_wp2
              go_ret3
              exact ⟨ret_three (by first | rfl | omega) (by first | rfl | omega) (by first | rfl | omega), rfl⟩
            · have ea : atW p = r % 16 := by unfold atW; rw [ek]; show p % 16 = r % 16; omega
              rw [ek, ea]; clear ek ea hr
              go_enter Tryd.func7, Tryd.ntmps7
              go_wp2
              go_ret3
              exact ⟨ret_three (by first | rfl | omega) (by first | rfl | omega) (by first | rfl | omega), rfl⟩
            · have ea : atW p = r % 2 := by unfold atW; rw [ek]; show p % 2 = r % 2; omega
              rw [ek, ea]; clear ek ea hr
              go_enter Tryd.func7, Tryd.ntmps7
              go_wp2
              go_ret3
              exact ⟨ret_three (by first | rfl | omega) (by first | rfl | omega) (by first | rfl | omega), rfl⟩
            · have ea : atW p = 0 := by unfold atW; rw [ek]; rfl
              rw [ek, ea]; clear ek ea hr
              go_enter Tryd.func7, Tryd.ntmps7
              go_wp2
              go_ret3
              exact ⟨ret_three (by first | rfl | omega) (by first | rfl | omega) (by first | rfl | omega), rfl⟩
            · have ea : atW p = r % 4 := by unfold atW; rw [ek]; show p % 4 = r % 4; omega
              rw [ek, ea]; clear ek ea hr
              go_enter Tryd.func7, Tryd.ntmps7
              go_wp2
              go_ret3
              exact ⟨ret_three (by first | rfl | omega) (by first | rfl | omega) (by first | rfl | omega), rfl⟩
end Go.Proofs.YtijidlhfaifbfaaDoor
