/- The document's answer for layer 4 (by its functions), and that it is the contracts' own. -/
import Derived.Test.YtemljklgjhnibaaDoorBanks
namespace Go.Proofs.YtemljklgjhnibaaDoor
open Go.RowKit
set_option linter.unusedVariables false

theorem rmod4_any (l : Int) (w : World) : Calls Tryd.prog 17 #[.int .i64 l, .int .i64 4] w fun e w' => e = .returned (.int .i64 (l % 4)) ∧ w' = w := by
  obtain ⟨r, hr⟩ : ∃ r, r = Int.tmod l 4 := ⟨_, rfl⟩
  have r0 : -4 < r ∧ r < 4 ∧ l % 4 = if r < 0 then r + 4 else r := by
    rw [hr]
    have h1 := Int.tmod_lt_of_pos l (show (0 : Int) < 4 by decide)
    have h2 := Int.lt_tmod_of_pos l (show (0 : Int) < 4 by decide)
    refine ⟨by omega, h1, ?_⟩
    have h3 := Int.tmod_eq_emod (a := l) (b := 4)
    have h4 := Int.mul_tdiv_add_tmod l 4
    split <;> omega
  obtain ⟨r1, r2, r3⟩ := r0
  rw [r3]
  have et : Int.tmod l 4 = r := hr.symm
  clear r3 hr
  by_cases h : r < 0
  · rw [if_pos h]
    go_enter Tryd.func17, Tryd.ntmps17
    go_wp2
    go_ret
    exact ⟨rfl, rfl⟩
  · rw [if_neg h]
    go_enter Tryd.func17, Tryd.ntmps17
    go_wp2
    go_ret
    exact ⟨rfl, rfl⟩

theorem rclass_any (n : Int) (w : World) : Calls Tryd.prog 16 #[.int .i64 n] w fun e w' => e = .returned (.tuple #[.int .i64 (kindOf n), .bool (known n)]) ∧ w' = w := by
  by_cases h : known n = true
  · unfold known at h
    rw [decide_eq_true_eq] at h
    rcases h with rfl | rfl | rfl | rfl | rfl | rfl | rfl | rfl | rfl | rfl | rfl
    all_goals
      go_enter Tryd.func16, Tryd.ntmps16
      go_wp2
      go_ret2
      exact ⟨rfl, rfl⟩
  · have e1 : known n = false := by simpa using h
    have e2 : kindOf n = 0 := by
      unfold known at e1; rw [decide_eq_false_iff_not] at e1
      unfold kindOf; rw [if_neg (by omega), if_neg (by omega)]
    rw [e1, e2]
    unfold known at e1
    rw [decide_eq_false_iff_not] at e1
    have n1 : ¬ n = 1 := by omega
    have n2 : ¬ n = 2 := by omega
    have n3 : ¬ n = 4 := by omega
    have n4 : ¬ n = 8 := by omega
    have n5 : ¬ n = 16 := by omega
    have n6 : ¬ n = 32 := by omega
    have n7 : ¬ n = 64 := by omega
    have n8 : ¬ n = 128 := by omega
    have n9 : ¬ n = 48 := by omega
    have nA : ¬ n = 96 := by omega
    have nB : ¬ n = 320 := by omega
    clear e1 e2 h
    go_enter Tryd.func16, Tryd.ntmps16
    go_wp2
    go_ret2
    exact ⟨rfl, rfl⟩

theorem rlatch_any (n l a : Int) (w : World) : Calls Tryd.prog 11 #[.int .i64 n, .int .i64 l, .int .i64 a] w fun e w' => e = .returned (.int .i64 (latchOf n l a)) ∧ w' = w := by
  have c := hide (rclass_any n w)
  have kn : known n = true ∧ kindOf n = 2 ↔ n = 320 := by
    constructor
    · rintro ⟨h1, h2⟩
      have := kind_cases h1
      omega
    · rintro rfl; decide
  obtain ⟨q, hq⟩ : ∃ q, q = latchOf n l a := ⟨_, rfl⟩
  rw [← hq]
  unfold latchOf at hq
  generalize hk : known n = kw at *
  generalize hd : kindOf n = kd at *
  go_enter Tryd.func11, Tryd.ntmps11
  go_wp2_with fail
  refine c.out.mono ?_
  rintro e w1 ⟨rfl, hw⟩
  subst w1
  cases kw with
  | false =>
    rw [if_neg (by intro h; exact Bool.noConfusion (kn.2 h.1).1)] at hq
    go_wp2_with fail
    go_ret
    exact ⟨ret_int (by first | rfl | exact hq.symm), rfl⟩
  | true =>
    by_cases h2 : kd = 2
    · have hn := kn.1 ⟨rfl, h2⟩
      by_cases h3 : 8176 ≤ a
      · by_cases h4 : a < 8180
        · rw [if_pos ⟨hn, h3, h4⟩] at hq
          go_wp2_with fail
          go_ret
          exact ⟨ret_int (by first | rfl | exact hq.symm), rfl⟩
        · rw [if_neg (by omega)] at hq
          go_wp2_with fail
          go_ret
          exact ⟨ret_int (by first | rfl | exact hq.symm), rfl⟩
      · rw [if_neg (by omega)] at hq
        go_wp2_with fail
        go_ret
        exact ⟨ret_int (by first | rfl | exact hq.symm), rfl⟩
    · rw [if_neg (by intro h; exact h2 (kn.2 h.1).2)] at hq
      go_wp2_with fail
      go_ret
      exact ⟨ret_int (by first | rfl | exact hq.symm), rfl⟩

theorem rpage_any (n l p : Int) (w : World) : Calls Tryd.prog 9 #[.int .i64 n, .int .i64 l, .int .i64 p] w fun e w' => e = .returned (.int .i64 (pageOf n l p)) ∧ w' = w := by
  have c := hide (rclass_any n w)
  have cm := hide (rmod4_any l w)
  obtain ⟨q, hq⟩ : ∃ q, q = pageOf n l p := ⟨_, rfl⟩
  rw [← hq]
  have HQ := hide hq
  clear hq
  obtain ⟨kw, hkw⟩ : ∃ kw, kw = known n := ⟨_, rfl⟩
  obtain ⟨kd, hkd⟩ : ∃ kd, kd = kindOf n := ⟨_, rfl⟩
  rw [← hkw, ← hkd] at c
  have HKD := hide hkd
  have HKW := hide hkw
  clear hkd hkw
  cases kw with
  | false =>
    have HQ2 : Hid (q = -1) := hide (by rw [HQ.out]; unfold pageOf; rw [← HKW.out]; simp)
    go_enter Tryd.func9, Tryd.ntmps9
    go_wp2_with fail
    refine c.out.mono ?_
    rintro e w1 ⟨rfl, hw⟩
    subst w1
    go_wp2_with fail
    go_ret
    exact ⟨ret_int HQ2.out.symm, rfl⟩
  | true =>
    by_cases hp : p < 0
    · have HQ2 : Hid (q = -1) := hide (by rw [HQ.out]; unfold pageOf; rw [if_neg (by omega)])
      go_enter Tryd.func9, Tryd.ntmps9
      go_wp2_with fail
      refine c.out.mono ?_
      rintro e w1 ⟨rfl, hw⟩
      subst w1
      go_wp2_with fail
      go_ret
      exact ⟨ret_int HQ2.out.symm, rfl⟩
    · have hq : q = if p < 64 then p % lowSize kd n else if p < 128 then upFirst kd n l + p % upSize kd n else -1 := by
        rw [HQ.out]; unfold pageOf; rw [if_pos ⟨HKW.out.symm, by omega⟩, ← HKD.out]
      have HQ3 := hide hq
      have hkc := kind_cases HKW.out.symm
      rw [← HKD.out] at hkc
      have HN := hide (known_le HKW.out.symm)
      clear hq HQ
      by_cases h1 : 127 < p
      · have HQ2 : Hid (q = -1) := hide (by rw [HQ3.out, if_neg (by omega), if_neg (by omega)])
        go_enter Tryd.func9, Tryd.ntmps9
        go_wp2_with fail
        refine c.out.mono ?_
        rintro e w1 ⟨rfl, hw⟩
        subst w1
        go_wp2_with fail
        go_ret
        exact ⟨ret_int HQ2.out.symm, rfl⟩
      · rcases hkc with ⟨hk, hn⟩ | ⟨hk, hn⟩ | ⟨hk, hn⟩
        · subst hk
          have hn0 := HN.out.1
          have HQ2 : Hid (q = p % n) := hide (by
            rw [HQ3.out]
            split
            · rfl
            · rw [if_pos (by omega)]; unfold upFirst upSize; simp)
          have et : Int.tmod p n = p % n := Int.tmod_eq_emod_of_nonneg (by omega)
          go_enter Tryd.func9, Tryd.ntmps9
          go_wp2_with fail
          refine c.out.mono ?_
          rintro e w1 ⟨rfl, hw⟩
          subst w1
          go_wp2_with fail
          go_ret
          exact ⟨ret_int HQ2.out.symm, rfl⟩
        · subst hk
          rcases hn with rfl | rfl
          · by_cases h2 : p < 64
            · have HQ2 : Hid (q = p % 32) := hide (by rw [HQ3.out, if_pos h2]; rfl)
              go_enter Tryd.func9, Tryd.ntmps9
              go_wp2_with fail
              refine c.out.mono ?_
              rintro e w1 ⟨rfl, hw⟩
              subst w1
              go_wp2_with fail
              go_ret
              exact ⟨ret_int HQ2.out.symm, rfl⟩
            · have HQ2 : Hid (q = 32 + p % 16) := hide (by rw [HQ3.out, if_neg h2, if_pos (by omega)]; rfl)
              go_enter Tryd.func9, Tryd.ntmps9
              go_wp2_with fail
              refine c.out.mono ?_
              rintro e w1 ⟨rfl, hw⟩
              subst w1
              go_wp2_with fail
              go_ret
              exact ⟨ret_int HQ2.out.symm, rfl⟩
          · by_cases h2 : p < 64
            · have HQ2 : Hid (q = p) := hide (by rw [HQ3.out, if_pos h2]; show p % 64 = p; omega)
              go_enter Tryd.func9, Tryd.ntmps9
              go_wp2_with fail
              refine c.out.mono ?_
              rintro e w1 ⟨rfl, hw⟩
              subst w1
              go_wp2_with fail
              go_ret
              exact ⟨ret_int HQ2.out.symm, rfl⟩
            · have HQ2 : Hid (q = 64 + p % 32) := hide (by rw [HQ3.out, if_neg h2, if_pos (by omega)]; rfl)
              go_enter Tryd.func9, Tryd.ntmps9
              go_wp2_with fail
              refine c.out.mono ?_
              rintro e w1 ⟨rfl, hw⟩
              subst w1
              go_wp2_with fail
              go_ret
              exact ⟨ret_int HQ2.out.symm, rfl⟩
        · subst hk hn
          by_cases h2 : p < 64
          · have HQ2 : Hid (q = p) := hide (by rw [HQ3.out, if_pos h2]; show p % 64 = p; omega)
            go_enter Tryd.func9, Tryd.ntmps9
            go_wp2_with fail
            refine c.out.mono ?_
            rintro e w1 ⟨rfl, hw⟩
            subst w1
            go_wp2_with fail
            go_ret
            exact ⟨ret_int HQ2.out.symm, rfl⟩
          · have HQ2 : Hid (q = 64 * (l % 4) + p) := hide (by rw [HQ3.out, if_neg h2, if_pos (by omega)]; show 64 + 64 * (l % 4) + p % 64 = _; omega)
            go_enter Tryd.func9, Tryd.ntmps9
            go_wp2_with fail
            refine c.out.mono ?_
            rintro e w1 ⟨rfl, hw⟩
            subst w1
            go_wp2_with fail
            refine cm.out.mono ?_
            rintro e w1 ⟨rfl, hw⟩
            subst w1
            go_wp2_with fail
            go_ret
            exact ⟨ret_int HQ2.out.symm, rfl⟩
end Go.Proofs.YtemljklgjhnibaaDoor
