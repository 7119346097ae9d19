/- What the document's answer for layer 2 does with an operation. -/
import Derived.Test.YtjainjpfmmonbaaRef2
namespace Go.Proofs.Ytjainjpfmmonbaa
open Go.RowKit
set_option linter.unusedVariables false
theorem radcTen_00 (a m p : Int) (w : World) (ha : IsByte a) (hm : IsByte m) (hp : IsByte p) (hd : p / 8 % 2 = 1) (hl : a % 16 + m % 16 + p % 2 ≤ 9) (hh : a / 16 + m / 16 ≤ 9) :
    Calls Try.prog 22 #[.int .i64 a, .int .i64 m, .int .i64 p] w fun e w' => e = .returned (.tuple #[.int .i64 (adcOf a m p).1, .int .i64 (adcOf a m p).2]) ∧ w' = w := by
  have E : adcOf a m p = ((a / 16 + m / 16) % 16 * 16 + (a % 16 + m % 16 + p % 2) % 16, setOf (nzOf p ((a / 16 + m / 16) % 16 * 16 + (a % 16 + m % 16 + p % 2) % 16)) 1 (decide (15 < a / 16 + m / 16))) := by
    unfold adcOf; rw [if_pos hd]; unfold adcTen
    simp only [(tenUp_low hl).1, (tenUp_low hl).2, Int.add_zero, (tenUp_low hh).1]
  have E := hide E
  obtain ⟨a0, a1⟩ := ha
  obtain ⟨m0, m1⟩ := hm
  have p0 := hp.1
  have p1 := hp.2
  go_enter Try.func22, Try.ntmps22
  go_wp2_with (first | (go_at_call 24; refine (rset_any _ _ _ _ (by repeat (first | refine setOf_byte _ ?_ ?_ | exact nzOf_byte _ _ | exact isByte_mod _ | assumption | (unfold IsFlag; omega))) (by unfold IsFlag; omega)).mono ?_; rintro e w' ⟨rfl, rfl⟩) | (go_at_call 12; refine (rnz_any _ _ _).mono ?_; rintro e w' ⟨rfl, rfl⟩))
  go_ret2
  exact ⟨ret_two (by rw [E.out]) (by rw [E.out]), rfl⟩

theorem radcTen_01 (a m p : Int) (w : World) (ha : IsByte a) (hm : IsByte m) (hp : IsByte p) (hd : p / 8 % 2 = 1) (hl : a % 16 + m % 16 + p % 2 ≤ 9) (hh : 9 < a / 16 + m / 16) :
    Calls Try.prog 22 #[.int .i64 a, .int .i64 m, .int .i64 p] w fun e w' => e = .returned (.tuple #[.int .i64 (adcOf a m p).1, .int .i64 (adcOf a m p).2]) ∧ w' = w := by
  have E : adcOf a m p = ((a / 16 + m / 16 + 6) % 16 * 16 + (a % 16 + m % 16 + p % 2) % 16, setOf (nzOf p ((a / 16 + m / 16 + 6) % 16 * 16 + (a % 16 + m % 16 + p % 2) % 16)) 1 (decide (15 < a / 16 + m / 16 + 6))) := by
    unfold adcOf; rw [if_pos hd]; unfold adcTen
    simp only [(tenUp_low hl).1, (tenUp_low hl).2, Int.add_zero, (tenUp_high hh).1]
  have E := hide E
  obtain ⟨a0, a1⟩ := ha
  obtain ⟨m0, m1⟩ := hm
  have p0 := hp.1
  have p1 := hp.2
  go_enter Try.func22, Try.ntmps22
  go_wp2_with (first | (go_at_call 24; refine (rset_any _ _ _ _ (by repeat (first | refine setOf_byte _ ?_ ?_ | exact nzOf_byte _ _ | exact isByte_mod _ | assumption | (unfold IsFlag; omega))) (by unfold IsFlag; omega)).mono ?_; rintro e w' ⟨rfl, rfl⟩) | (go_at_call 12; refine (rnz_any _ _ _).mono ?_; rintro e w' ⟨rfl, rfl⟩))
  go_ret2
  exact ⟨ret_two (by rw [E.out]) (by rw [E.out]), rfl⟩

theorem radcTen_10 (a m p : Int) (w : World) (ha : IsByte a) (hm : IsByte m) (hp : IsByte p) (hd : p / 8 % 2 = 1) (hl : 9 < a % 16 + m % 16 + p % 2) (hh : a / 16 + m / 16 + 1 ≤ 9) :
    Calls Try.prog 22 #[.int .i64 a, .int .i64 m, .int .i64 p] w fun e w' => e = .returned (.tuple #[.int .i64 (adcOf a m p).1, .int .i64 (adcOf a m p).2]) ∧ w' = w := by
  have E : adcOf a m p = ((a / 16 + m / 16 + 1) % 16 * 16 + (a % 16 + m % 16 + p % 2 + 6) % 16, setOf (nzOf p ((a / 16 + m / 16 + 1) % 16 * 16 + (a % 16 + m % 16 + p % 2 + 6) % 16)) 1 (decide (15 < a / 16 + m / 16 + 1))) := by
    unfold adcOf; rw [if_pos hd]; unfold adcTen
    simp only [(tenUp_high hl).1, (tenUp_high hl).2, (tenUp_low hh).1]
  have E := hide E
  obtain ⟨a0, a1⟩ := ha
  obtain ⟨m0, m1⟩ := hm
  have p0 := hp.1
  have p1 := hp.2
  go_enter Try.func22, Try.ntmps22
  go_wp2_with (first | (go_at_call 24; refine (rset_any _ _ _ _ (by repeat (first | refine setOf_byte _ ?_ ?_ | exact nzOf_byte _ _ | exact isByte_mod _ | assumption | (unfold IsFlag; omega))) (by unfold IsFlag; omega)).mono ?_; rintro e w' ⟨rfl, rfl⟩) | (go_at_call 12; refine (rnz_any _ _ _).mono ?_; rintro e w' ⟨rfl, rfl⟩))
  go_ret2
  exact ⟨ret_two (by rw [E.out]) (by rw [E.out]), rfl⟩

theorem radcTen_11 (a m p : Int) (w : World) (ha : IsByte a) (hm : IsByte m) (hp : IsByte p) (hd : p / 8 % 2 = 1) (hl : 9 < a % 16 + m % 16 + p % 2) (hh : 9 < a / 16 + m / 16 + 1) :
    Calls Try.prog 22 #[.int .i64 a, .int .i64 m, .int .i64 p] w fun e w' => e = .returned (.tuple #[.int .i64 (adcOf a m p).1, .int .i64 (adcOf a m p).2]) ∧ w' = w := by
  have E : adcOf a m p = ((a / 16 + m / 16 + 1 + 6) % 16 * 16 + (a % 16 + m % 16 + p % 2 + 6) % 16, setOf (nzOf p ((a / 16 + m / 16 + 1 + 6) % 16 * 16 + (a % 16 + m % 16 + p % 2 + 6) % 16)) 1 (decide (15 < a / 16 + m / 16 + 1 + 6))) := by
    unfold adcOf; rw [if_pos hd]; unfold adcTen
    simp only [(tenUp_high hl).1, (tenUp_high hl).2, (tenUp_high hh).1]
  have E := hide E
  obtain ⟨a0, a1⟩ := ha
  obtain ⟨m0, m1⟩ := hm
  have p0 := hp.1
  have p1 := hp.2
  go_enter Try.func22, Try.ntmps22
  go_wp2_with (first | (go_at_call 24; refine (rset_any _ _ _ _ (by repeat (first | refine setOf_byte _ ?_ ?_ | exact nzOf_byte _ _ | exact isByte_mod _ | assumption | (unfold IsFlag; omega))) (by unfold IsFlag; omega)).mono ?_; rintro e w' ⟨rfl, rfl⟩) | (go_at_call 12; refine (rnz_any _ _ _).mono ?_; rintro e w' ⟨rfl, rfl⟩))
  go_ret2
  exact ⟨ret_two (by rw [E.out]) (by rw [E.out]), rfl⟩

theorem adcTwo_is (a m p : Int) (x : Bool) (h : x = (a / 128 == m / 128)) : (adcTwo a m p).2 = setOf (setOf (nzOf p ((a + m + p % 2) % 256)) 1 (decide (255 < a + m + p % 2))) 64 (x && (a + m + p % 2) % 256 / 128 != a / 128) := by
  subst h
  unfold adcTwo
  simp only [bne, BEq.beq, decide_not]
theorem radc_two_true (a m p : Int) (w : World) (ha : IsByte a) (hm : IsByte m) (hp : IsByte p) (hd : p / 8 % 2 = 0) (hs : (a / 128 == m / 128) = true) :
    Calls Try.prog 22 #[.int .i64 a, .int .i64 m, .int .i64 p] w fun e w' => e = .returned (.tuple #[.int .i64 (adcTwo a m p).1, .int .i64 (adcTwo a m p).2]) ∧ w' = w := by
  have E2 := hide (adcTwo_is a m p true hs.symm)
  have a0 := ha.1
  have a1 := ha.2
  have m0 := hm.1
  have m1 := hm.2
  have p0 := hp.1
  have p1 := hp.2
  go_enter Try.func22, Try.ntmps22
  go_wp2_with (first | (go_at_call 24; refine (rset_any _ _ _ _ (by repeat (first | refine setOf_byte _ ?_ ?_ | exact nzOf_byte _ _ | exact isByte_mod _ | assumption | (unfold IsFlag; omega))) (by unfold IsFlag; omega)).mono ?_; rintro e w' ⟨rfl, rfl⟩) | (go_at_call 12; refine (rnz_any _ _ _).mono ?_; rintro e w' ⟨rfl, rfl⟩) | (go_at_call 20; refine (rbyte_any _ _).mono ?_; rintro e w' ⟨rfl, rfl⟩))
  refine (rsign_any _ _ ha).mono ?_
  rintro e w' ⟨rfl, rfl⟩
  go_wp2_with fail
  refine (rsign_any _ _ hm).mono ?_
  rintro e w' ⟨rfl, rfl⟩
  go_wp2_with fail
  refine (rsign_any _ _ (isByte_mod _)).mono ?_
  rintro e w' ⟨rfl, rfl⟩
  go_wp2_with fail
  refine (rsign_any _ _ ha).mono ?_
  rintro e w' ⟨rfl, rfl⟩
  go_wp2_with (first | (go_at_call 24; refine (rset_any _ _ _ _ (by repeat (first | refine setOf_byte _ ?_ ?_ | exact nzOf_byte _ _ | exact isByte_mod _ | assumption | (unfold IsFlag; omega))) (by unfold IsFlag; omega)).mono ?_; rintro e w' ⟨rfl, rfl⟩))
  go_ret2
  exact ⟨ret_two rfl (by rw [E2.out]; rfl), rfl⟩

theorem radc_two_false (a m p : Int) (w : World) (ha : IsByte a) (hm : IsByte m) (hp : IsByte p) (hd : p / 8 % 2 = 0) (hs : (a / 128 == m / 128) = false) :
    Calls Try.prog 22 #[.int .i64 a, .int .i64 m, .int .i64 p] w fun e w' => e = .returned (.tuple #[.int .i64 (adcTwo a m p).1, .int .i64 (adcTwo a m p).2]) ∧ w' = w := by
  have E2 := hide (adcTwo_is a m p false hs.symm)
  have a0 := ha.1
  have a1 := ha.2
  have m0 := hm.1
  have m1 := hm.2
  have p0 := hp.1
  have p1 := hp.2
  go_enter Try.func22, Try.ntmps22
  go_wp2_with (first | (go_at_call 24; refine (rset_any _ _ _ _ (by repeat (first | refine setOf_byte _ ?_ ?_ | exact nzOf_byte _ _ | exact isByte_mod _ | assumption | (unfold IsFlag; omega))) (by unfold IsFlag; omega)).mono ?_; rintro e w' ⟨rfl, rfl⟩) | (go_at_call 12; refine (rnz_any _ _ _).mono ?_; rintro e w' ⟨rfl, rfl⟩) | (go_at_call 20; refine (rbyte_any _ _).mono ?_; rintro e w' ⟨rfl, rfl⟩))
  refine (rsign_any _ _ ha).mono ?_
  rintro e w' ⟨rfl, rfl⟩
  go_wp2_with fail
  refine (rsign_any _ _ hm).mono ?_
  rintro e w' ⟨rfl, rfl⟩
  go_wp2_with (first | (go_at_call 24; refine (rset_any _ _ _ _ (by repeat (first | refine setOf_byte _ ?_ ?_ | exact nzOf_byte _ _ | exact isByte_mod _ | assumption | (unfold IsFlag; omega))) (by unfold IsFlag; omega)).mono ?_; rintro e w' ⟨rfl, rfl⟩))
  go_ret2
  exact ⟨ret_two rfl (by rw [E2.out]; rfl), rfl⟩

theorem sbcTwo_is (a m p : Int) (x : Bool) (h : x = (a / 128 != m / 128)) : (sbcTwo a m p).2 = setOf (setOf (nzOf p ((a - m - 1 + p % 2) % 256)) 1 (decide (0 ≤ a - m - 1 + p % 2))) 64 (x && (a - m - 1 + p % 2) % 256 / 128 != a / 128) := by
  subst h
  unfold sbcTwo
  simp only [bne, BEq.beq, decide_not]
theorem rsbc_two_true (a m p : Int) (w : World) (ha : IsByte a) (hm : IsByte m) (hp : IsByte p) (hd : p / 8 % 2 = 0) (hs : (a / 128 != m / 128) = true) :
    Calls Try.prog 23 #[.int .i64 a, .int .i64 m, .int .i64 p] w fun e w' => e = .returned (.tuple #[.int .i64 (sbcTwo a m p).1, .int .i64 (sbcTwo a m p).2]) ∧ w' = w := by
  have E2 := hide (sbcTwo_is a m p true hs.symm)
  have a0 := ha.1
  have a1 := ha.2
  have m0 := hm.1
  have m1 := hm.2
  have p0 := hp.1
  have p1 := hp.2
  go_enter Try.func23, Try.ntmps23
  go_wp2_with (first | (go_at_call 24; refine (rset_any _ _ _ _ (by repeat (first | refine setOf_byte _ ?_ ?_ | exact nzOf_byte _ _ | exact isByte_mod _ | assumption | (unfold IsFlag; omega))) (by unfold IsFlag; omega)).mono ?_; rintro e w' ⟨rfl, rfl⟩) | (go_at_call 12; refine (rnz_any _ _ _).mono ?_; rintro e w' ⟨rfl, rfl⟩) | (go_at_call 20; refine (rbyte_any _ _).mono ?_; rintro e w' ⟨rfl, rfl⟩))
  refine (rsign_any _ _ ha).mono ?_
  rintro e w' ⟨rfl, rfl⟩
  go_wp2_with fail
  refine (rsign_any _ _ hm).mono ?_
  rintro e w' ⟨rfl, rfl⟩
  go_wp2_with fail
  refine (rsign_any _ _ (isByte_mod _)).mono ?_
  rintro e w' ⟨rfl, rfl⟩
  go_wp2_with fail
  refine (rsign_any _ _ ha).mono ?_
  rintro e w' ⟨rfl, rfl⟩
  go_wp2_with (first | (go_at_call 24; refine (rset_any _ _ _ _ (by repeat (first | refine setOf_byte _ ?_ ?_ | exact nzOf_byte _ _ | exact isByte_mod _ | assumption | (unfold IsFlag; omega))) (by unfold IsFlag; omega)).mono ?_; rintro e w' ⟨rfl, rfl⟩))
  go_ret2
  exact ⟨ret_two rfl (by rw [E2.out]; rfl), rfl⟩

theorem rsbc_two_false (a m p : Int) (w : World) (ha : IsByte a) (hm : IsByte m) (hp : IsByte p) (hd : p / 8 % 2 = 0) (hs : (a / 128 != m / 128) = false) :
    Calls Try.prog 23 #[.int .i64 a, .int .i64 m, .int .i64 p] w fun e w' => e = .returned (.tuple #[.int .i64 (sbcTwo a m p).1, .int .i64 (sbcTwo a m p).2]) ∧ w' = w := by
  have E2 := hide (sbcTwo_is a m p false hs.symm)
  have a0 := ha.1
  have a1 := ha.2
  have m0 := hm.1
  have m1 := hm.2
  have p0 := hp.1
  have p1 := hp.2
  go_enter Try.func23, Try.ntmps23
  go_wp2_with (first | (go_at_call 24; refine (rset_any _ _ _ _ (by repeat (first | refine setOf_byte _ ?_ ?_ | exact nzOf_byte _ _ | exact isByte_mod _ | assumption | (unfold IsFlag; omega))) (by unfold IsFlag; omega)).mono ?_; rintro e w' ⟨rfl, rfl⟩) | (go_at_call 12; refine (rnz_any _ _ _).mono ?_; rintro e w' ⟨rfl, rfl⟩) | (go_at_call 20; refine (rbyte_any _ _).mono ?_; rintro e w' ⟨rfl, rfl⟩))
  refine (rsign_any _ _ ha).mono ?_
  rintro e w' ⟨rfl, rfl⟩
  go_wp2_with fail
  refine (rsign_any _ _ hm).mono ?_
  rintro e w' ⟨rfl, rfl⟩
  go_wp2_with (first | (go_at_call 24; refine (rset_any _ _ _ _ (by repeat (first | refine setOf_byte _ ?_ ?_ | exact nzOf_byte _ _ | exact isByte_mod _ | assumption | (unfold IsFlag; omega))) (by unfold IsFlag; omega)).mono ?_; rintro e w' ⟨rfl, rfl⟩))
  go_ret2
  exact ⟨ret_two rfl (by rw [E2.out]; rfl), rfl⟩

theorem rsbcTen_00 (a m p : Int) (w : World) (ha : IsByte a) (hm : IsByte m) (hp : IsByte p) (hd : p / 8 % 2 = 1) (hl : 0 ≤ a % 16 - m % 16 - 1 + p % 2) (hh : 0 ≤ a / 16 - m / 16) :
    Calls Try.prog 23 #[.int .i64 a, .int .i64 m, .int .i64 p] w fun e w' => e = .returned (.tuple #[.int .i64 (sbcOf a m p).1, .int .i64 (sbcOf a m p).2]) ∧ w' = w := by
  have E : sbcOf a m p = ((a / 16 - m / 16) % 16 * 16 + (a % 16 - m % 16 - 1 + p % 2) % 16, nzOf (setOf p 1 (decide (m / 16 ≤ a / 16))) ((a / 16 - m / 16) % 16 * 16 + (a % 16 - m % 16 - 1 + p % 2) % 16)) := by
    have q : (0 ≤ a / 16 - m / 16) = (m / 16 ≤ a / 16) := propext ⟨by omega, by omega⟩
    unfold sbcOf; rw [if_pos hd]; unfold sbcTen
    simp only [q, (tenDown_high hl).1, (tenDown_high hl).2, Int.sub_zero, (tenDown_high hh).1]
  have E := hide E
  obtain ⟨a0, a1⟩ := ha
  obtain ⟨m0, m1⟩ := hm
  have p0 := hp.1
  have p1 := hp.2
  go_enter Try.func23, Try.ntmps23
  go_wp2_with (first | (go_at_call 24; refine (rset_any _ _ _ _ (by repeat (first | refine setOf_byte _ ?_ ?_ | exact nzOf_byte _ _ | exact isByte_mod _ | assumption | (unfold IsFlag; omega))) (by unfold IsFlag; omega)).mono ?_; rintro e w' ⟨rfl, rfl⟩) | (go_at_call 12; refine (rnz_any _ _ _).mono ?_; rintro e w' ⟨rfl, rfl⟩) | (go_at_call 28; refine (mod_any _ _ _ (by decide) (by decide)).mono ?_; rintro e w' ⟨rfl, rfl⟩))
  go_ret2
  exact ⟨ret_two (by rw [E.out]) (by rw [E.out]), rfl⟩

theorem rsbcTen_01 (a m p : Int) (w : World) (ha : IsByte a) (hm : IsByte m) (hp : IsByte p) (hd : p / 8 % 2 = 1) (hl : 0 ≤ a % 16 - m % 16 - 1 + p % 2) (hh : a / 16 - m / 16 < 0) :
    Calls Try.prog 23 #[.int .i64 a, .int .i64 m, .int .i64 p] w fun e w' => e = .returned (.tuple #[.int .i64 (sbcOf a m p).1, .int .i64 (sbcOf a m p).2]) ∧ w' = w := by
  have E : sbcOf a m p = ((a / 16 - m / 16 - 6) % 16 * 16 + (a % 16 - m % 16 - 1 + p % 2) % 16, nzOf (setOf p 1 (decide (m / 16 ≤ a / 16))) ((a / 16 - m / 16 - 6) % 16 * 16 + (a % 16 - m % 16 - 1 + p % 2) % 16)) := by
    have q : (0 ≤ a / 16 - m / 16) = (m / 16 ≤ a / 16) := propext ⟨by omega, by omega⟩
    unfold sbcOf; rw [if_pos hd]; unfold sbcTen
    simp only [q, (tenDown_high hl).1, (tenDown_high hl).2, Int.sub_zero, (tenDown_low hh).1]
  have E := hide E
  obtain ⟨a0, a1⟩ := ha
  obtain ⟨m0, m1⟩ := hm
  have p0 := hp.1
  have p1 := hp.2
  go_enter Try.func23, Try.ntmps23
  go_wp2_with (first | (go_at_call 24; refine (rset_any _ _ _ _ (by repeat (first | refine setOf_byte _ ?_ ?_ | exact nzOf_byte _ _ | exact isByte_mod _ | assumption | (unfold IsFlag; omega))) (by unfold IsFlag; omega)).mono ?_; rintro e w' ⟨rfl, rfl⟩) | (go_at_call 12; refine (rnz_any _ _ _).mono ?_; rintro e w' ⟨rfl, rfl⟩) | (go_at_call 28; refine (mod_any _ _ _ (by decide) (by decide)).mono ?_; rintro e w' ⟨rfl, rfl⟩))
  go_ret2
  exact ⟨ret_two (by rw [E.out]) (by rw [E.out]), rfl⟩

theorem rsbcTen_10 (a m p : Int) (w : World) (ha : IsByte a) (hm : IsByte m) (hp : IsByte p) (hd : p / 8 % 2 = 1) (hl : a % 16 - m % 16 - 1 + p % 2 < 0) (hh : 0 ≤ a / 16 - m / 16 - 1) :
    Calls Try.prog 23 #[.int .i64 a, .int .i64 m, .int .i64 p] w fun e w' => e = .returned (.tuple #[.int .i64 (sbcOf a m p).1, .int .i64 (sbcOf a m p).2]) ∧ w' = w := by
  have E : sbcOf a m p = ((a / 16 - m / 16 - 1) % 16 * 16 + (a % 16 - m % 16 - 1 + p % 2 - 6) % 16, nzOf (setOf p 1 (decide (1 ≤ a / 16 - m / 16))) ((a / 16 - m / 16 - 1) % 16 * 16 + (a % 16 - m % 16 - 1 + p % 2 - 6) % 16)) := by
    have q : (0 ≤ a / 16 - m / 16 - 1) = (1 ≤ a / 16 - m / 16) := propext ⟨by omega, by omega⟩
    unfold sbcOf; rw [if_pos hd]; unfold sbcTen
    simp only [q, (tenDown_low hl).1, (tenDown_low hl).2, (tenDown_high hh).1]
  have E := hide E
  obtain ⟨a0, a1⟩ := ha
  obtain ⟨m0, m1⟩ := hm
  have p0 := hp.1
  have p1 := hp.2
  go_enter Try.func23, Try.ntmps23
  go_wp2_with (first | (go_at_call 24; refine (rset_any _ _ _ _ (by repeat (first | refine setOf_byte _ ?_ ?_ | exact nzOf_byte _ _ | exact isByte_mod _ | assumption | (unfold IsFlag; omega))) (by unfold IsFlag; omega)).mono ?_; rintro e w' ⟨rfl, rfl⟩) | (go_at_call 12; refine (rnz_any _ _ _).mono ?_; rintro e w' ⟨rfl, rfl⟩) | (go_at_call 28; refine (mod_any _ _ _ (by decide) (by decide)).mono ?_; rintro e w' ⟨rfl, rfl⟩))
  go_ret2
  exact ⟨ret_two (by rw [E.out]) (by rw [E.out]), rfl⟩

theorem rsbcTen_11 (a m p : Int) (w : World) (ha : IsByte a) (hm : IsByte m) (hp : IsByte p) (hd : p / 8 % 2 = 1) (hl : a % 16 - m % 16 - 1 + p % 2 < 0) (hh : a / 16 - m / 16 - 1 < 0) :
    Calls Try.prog 23 #[.int .i64 a, .int .i64 m, .int .i64 p] w fun e w' => e = .returned (.tuple #[.int .i64 (sbcOf a m p).1, .int .i64 (sbcOf a m p).2]) ∧ w' = w := by
  have E : sbcOf a m p = ((a / 16 - m / 16 - 1 - 6) % 16 * 16 + (a % 16 - m % 16 - 1 + p % 2 - 6) % 16, nzOf (setOf p 1 (decide (1 ≤ a / 16 - m / 16))) ((a / 16 - m / 16 - 1 - 6) % 16 * 16 + (a % 16 - m % 16 - 1 + p % 2 - 6) % 16)) := by
    have q : (0 ≤ a / 16 - m / 16 - 1) = (1 ≤ a / 16 - m / 16) := propext ⟨by omega, by omega⟩
    unfold sbcOf; rw [if_pos hd]; unfold sbcTen
    simp only [q, (tenDown_low hl).1, (tenDown_low hl).2, (tenDown_low hh).1]
  have E := hide E
  obtain ⟨a0, a1⟩ := ha
  obtain ⟨m0, m1⟩ := hm
  have p0 := hp.1
  have p1 := hp.2
  go_enter Try.func23, Try.ntmps23
  go_wp2_with (first | (go_at_call 24; refine (rset_any _ _ _ _ (by repeat (first | refine setOf_byte _ ?_ ?_ | exact nzOf_byte _ _ | exact isByte_mod _ | assumption | (unfold IsFlag; omega))) (by unfold IsFlag; omega)).mono ?_; rintro e w' ⟨rfl, rfl⟩) | (go_at_call 12; refine (rnz_any _ _ _).mono ?_; rintro e w' ⟨rfl, rfl⟩) | (go_at_call 28; refine (mod_any _ _ _ (by decide) (by decide)).mono ?_; rintro e w' ⟨rfl, rfl⟩))
  go_ret2
  exact ⟨ret_two (by rw [E.out]) (by rw [E.out]), rfl⟩

theorem radc_any (a m p : Int) (w : World) (ha : IsByte a) (hm : IsByte m) (hp : IsByte p) :
    Calls Try.prog 22 #[.int .i64 a, .int .i64 m, .int .i64 p] w fun e w' => e = .returned (.tuple #[.int .i64 (adcOf a m p).1, .int .i64 (adcOf a m p).2]) ∧ w' = w := by
  by_cases hd : p / 8 % 2 = 1
  · rcases Int.lt_or_le 9 (a % 16 + m % 16 + p % 2) with hl | hl
    · rcases Int.lt_or_le 9 (a / 16 + m / 16 + 1) with hh | hh
      · exact radcTen_11 a m p w ha hm hp hd hl hh
      · exact radcTen_10 a m p w ha hm hp hd hl hh
    · rcases Int.lt_or_le 9 (a / 16 + m / 16) with hh | hh
      · exact radcTen_01 a m p w ha hm hp hd hl hh
      · exact radcTen_00 a m p w ha hm hp hd hl hh
  · have E : adcOf a m p = adcTwo a m p := by unfold adcOf; rw [if_neg hd]
    rw [E]
    cases hs : (a / 128 == m / 128)
    · exact radc_two_false a m p w ha hm hp (by omega) hs
    · exact radc_two_true a m p w ha hm hp (by omega) hs
theorem rsbc_any (a m p : Int) (w : World) (ha : IsByte a) (hm : IsByte m) (hp : IsByte p) :
    Calls Try.prog 23 #[.int .i64 a, .int .i64 m, .int .i64 p] w fun e w' => e = .returned (.tuple #[.int .i64 (sbcOf a m p).1, .int .i64 (sbcOf a m p).2]) ∧ w' = w := by
  by_cases hd : p / 8 % 2 = 1
  · rcases Int.lt_or_le (a % 16 - m % 16 - 1 + p % 2) 0 with hl | hl
    · rcases Int.lt_or_le (a / 16 - m / 16 - 1) 0 with hh | hh
      · exact rsbcTen_11 a m p w ha hm hp hd hl hh
      · exact rsbcTen_10 a m p w ha hm hp hd hl hh
    · rcases Int.lt_or_le (a / 16 - m / 16) 0 with hh | hh
      · exact rsbcTen_01 a m p w ha hm hp hd hl hh
      · exact rsbcTen_00 a m p w ha hm hp hd hl hh
  · have E : sbcOf a m p = sbcTwo a m p := by unfold sbcOf; rw [if_neg hd]
    rw [E]
    cases hs : (a / 128 != m / 128)
    · exact rsbc_two_false a m p w ha hm hp (by omega) hs
    · exact rsbc_two_true a m p w ha hm hp (by omega) hs

theorem rdo_0 (a m p : Int) (w : World) :
    Calls Try.prog 10 #[.int .i64 0, .int .i64 a, .int .i64 m, .int .i64 p] w fun e w' => e = .returned (.tuple #[.int .i64 (doOf 0 (a % 256) (m % 256) (p % 256)).1, .int .i64 (doOf 0 (a % 256) (m % 256) (p % 256)).2]) ∧ w' = w := by
  have ha := isByte_mod a
  have hm := isByte_mod m
  have hp := isByte_mod p
  have m0 := hm.1
  have m1 := hm.2
  have p0 := hp.1
  have p1 := hp.2
  go_enter Try.func10, Try.ntmps10
  go_wp2_with (first | (go_at_call 20; refine (rbyte_any _ _).mono ?_; rintro e w' ⟨rfl, rfl⟩) | (go_at_call 12; refine (rnz_any _ _ _).mono ?_; rintro e w' ⟨rfl, rfl⟩) | (go_at_call 24; refine (rset_any _ _ _ _ (by repeat (first | refine setOf_byte _ ?_ ?_ | exact nzOf_byte _ _ | exact isByte_mod _ | assumption | (unfold IsFlag; omega))) (by unfold IsFlag; omega)).mono ?_; rintro e w' ⟨rfl, rfl⟩) | (go_at_call 21; refine (reach_0 _ _ _ ha hm).mono ?_; rintro e w' ⟨rfl, rfl⟩))
  go_ret2
  exact ⟨rfl, rfl⟩
theorem rdo_1 (a m p : Int) (w : World) :
    Calls Try.prog 10 #[.int .i64 1, .int .i64 a, .int .i64 m, .int .i64 p] w fun e w' => e = .returned (.tuple #[.int .i64 (doOf 1 (a % 256) (m % 256) (p % 256)).1, .int .i64 (doOf 1 (a % 256) (m % 256) (p % 256)).2]) ∧ w' = w := by
  have ha := isByte_mod a
  have hm := isByte_mod m
  have hp := isByte_mod p
  have m0 := hm.1
  have m1 := hm.2
  have p0 := hp.1
  have p1 := hp.2
  go_enter Try.func10, Try.ntmps10
  go_wp2_with (first | (go_at_call 20; refine (rbyte_any _ _).mono ?_; rintro e w' ⟨rfl, rfl⟩) | (go_at_call 12; refine (rnz_any _ _ _).mono ?_; rintro e w' ⟨rfl, rfl⟩) | (go_at_call 24; refine (rset_any _ _ _ _ (by repeat (first | refine setOf_byte _ ?_ ?_ | exact nzOf_byte _ _ | exact isByte_mod _ | assumption | (unfold IsFlag; omega))) (by unfold IsFlag; omega)).mono ?_; rintro e w' ⟨rfl, rfl⟩) | (go_at_call 21; refine (reach_1 _ _ _ ha hm).mono ?_; rintro e w' ⟨rfl, rfl⟩))
  go_ret2
  exact ⟨rfl, rfl⟩
theorem rdo_2 (a m p : Int) (w : World) :
    Calls Try.prog 10 #[.int .i64 2, .int .i64 a, .int .i64 m, .int .i64 p] w fun e w' => e = .returned (.tuple #[.int .i64 (doOf 2 (a % 256) (m % 256) (p % 256)).1, .int .i64 (doOf 2 (a % 256) (m % 256) (p % 256)).2]) ∧ w' = w := by
  have ha := isByte_mod a
  have hm := isByte_mod m
  have hp := isByte_mod p
  have m0 := hm.1
  have m1 := hm.2
  have p0 := hp.1
  have p1 := hp.2
  go_enter Try.func10, Try.ntmps10
  go_wp2_with (first | (go_at_call 20; refine (rbyte_any _ _).mono ?_; rintro e w' ⟨rfl, rfl⟩) | (go_at_call 12; refine (rnz_any _ _ _).mono ?_; rintro e w' ⟨rfl, rfl⟩) | (go_at_call 24; refine (rset_any _ _ _ _ (by repeat (first | refine setOf_byte _ ?_ ?_ | exact nzOf_byte _ _ | exact isByte_mod _ | assumption | (unfold IsFlag; omega))) (by unfold IsFlag; omega)).mono ?_; rintro e w' ⟨rfl, rfl⟩) | (go_at_call 21; refine (reach_2 _ _ _ ha hm).mono ?_; rintro e w' ⟨rfl, rfl⟩))
  go_ret2
  exact ⟨rfl, rfl⟩
theorem rdo_3 (a m p : Int) (w : World) :
    Calls Try.prog 10 #[.int .i64 3, .int .i64 a, .int .i64 m, .int .i64 p] w fun e w' => e = .returned (.tuple #[.int .i64 (doOf 3 (a % 256) (m % 256) (p % 256)).1, .int .i64 (doOf 3 (a % 256) (m % 256) (p % 256)).2]) ∧ w' = w := by
  have ha := isByte_mod a
  have hm := isByte_mod m
  have hp := isByte_mod p
  have m0 := hm.1
  have m1 := hm.2
  have p0 := hp.1
  have p1 := hp.2
  go_enter Try.func10, Try.ntmps10
  go_wp2_with (first | (go_at_call 20; refine (rbyte_any _ _).mono ?_; rintro e w' ⟨rfl, rfl⟩) | (go_at_call 12; refine (rnz_any _ _ _).mono ?_; rintro e w' ⟨rfl, rfl⟩) | (go_at_call 24; refine (rset_any _ _ _ _ (by repeat (first | refine setOf_byte _ ?_ ?_ | exact nzOf_byte _ _ | exact isByte_mod _ | assumption | (unfold IsFlag; omega))) (by unfold IsFlag; omega)).mono ?_; rintro e w' ⟨rfl, rfl⟩) | (go_at_call 22; refine (radc_any _ _ _ _ ha hm hp).mono ?_; rintro e w' ⟨rfl, rfl⟩))
  go_ret2
  exact ⟨rfl, rfl⟩
theorem rdo_4 (a m p : Int) (w : World) :
    Calls Try.prog 10 #[.int .i64 4, .int .i64 a, .int .i64 m, .int .i64 p] w fun e w' => e = .returned (.tuple #[.int .i64 (doOf 4 (a % 256) (m % 256) (p % 256)).1, .int .i64 (doOf 4 (a % 256) (m % 256) (p % 256)).2]) ∧ w' = w := by
  have ha := isByte_mod a
  have hm := isByte_mod m
  have hp := isByte_mod p
  have m0 := hm.1
  have m1 := hm.2
  have p0 := hp.1
  have p1 := hp.2
  go_enter Try.func10, Try.ntmps10
  go_wp2_with (first | (go_at_call 20; refine (rbyte_any _ _).mono ?_; rintro e w' ⟨rfl, rfl⟩) | (go_at_call 12; refine (rnz_any _ _ _).mono ?_; rintro e w' ⟨rfl, rfl⟩) | (go_at_call 24; refine (rset_any _ _ _ _ (by repeat (first | refine setOf_byte _ ?_ ?_ | exact nzOf_byte _ _ | exact isByte_mod _ | assumption | (unfold IsFlag; omega))) (by unfold IsFlag; omega)).mono ?_; rintro e w' ⟨rfl, rfl⟩) | (go_at_call 23; refine (rsbc_any _ _ _ _ ha hm hp).mono ?_; rintro e w' ⟨rfl, rfl⟩))
  go_ret2
  exact ⟨rfl, rfl⟩
theorem rdo_5 (a m p : Int) (w : World) :
    Calls Try.prog 10 #[.int .i64 5, .int .i64 a, .int .i64 m, .int .i64 p] w fun e w' => e = .returned (.tuple #[.int .i64 (doOf 5 (a % 256) (m % 256) (p % 256)).1, .int .i64 (doOf 5 (a % 256) (m % 256) (p % 256)).2]) ∧ w' = w := by
  have ha := isByte_mod a
  have hm := isByte_mod m
  have hp := isByte_mod p
  have m0 := hm.1
  have m1 := hm.2
  have p0 := hp.1
  have p1 := hp.2
  go_enter Try.func10, Try.ntmps10
  go_wp2_with (first | (go_at_call 20; refine (rbyte_any _ _).mono ?_; rintro e w' ⟨rfl, rfl⟩) | (go_at_call 12; refine (rnz_any _ _ _).mono ?_; rintro e w' ⟨rfl, rfl⟩) | (go_at_call 24; refine (rset_any _ _ _ _ (by repeat (first | refine setOf_byte _ ?_ ?_ | exact nzOf_byte _ _ | exact isByte_mod _ | assumption | (unfold IsFlag; omega))) (by unfold IsFlag; omega)).mono ?_; rintro e w' ⟨rfl, rfl⟩))
  go_ret2
  exact ⟨rfl, rfl⟩
theorem rdo_6 (a m p : Int) (w : World) :
    Calls Try.prog 10 #[.int .i64 6, .int .i64 a, .int .i64 m, .int .i64 p] w fun e w' => e = .returned (.tuple #[.int .i64 (doOf 6 (a % 256) (m % 256) (p % 256)).1, .int .i64 (doOf 6 (a % 256) (m % 256) (p % 256)).2]) ∧ w' = w := by
  have ha := isByte_mod a
  have hm := isByte_mod m
  have hp := isByte_mod p
  have m0 := hm.1
  have m1 := hm.2
  have p0 := hp.1
  have p1 := hp.2
  go_enter Try.func10, Try.ntmps10
  go_wp2_with (first | (go_at_call 20; refine (rbyte_any _ _).mono ?_; rintro e w' ⟨rfl, rfl⟩) | (go_at_call 12; refine (rnz_any _ _ _).mono ?_; rintro e w' ⟨rfl, rfl⟩) | (go_at_call 24; refine (rset_any _ _ _ _ (by repeat (first | refine setOf_byte _ ?_ ?_ | exact nzOf_byte _ _ | exact isByte_mod _ | assumption | (unfold IsFlag; omega))) (by unfold IsFlag; omega)).mono ?_; rintro e w' ⟨rfl, rfl⟩) | (go_at_call 21; refine (reach_1 _ _ _ ha hm).mono ?_; rintro e w' ⟨rfl, rfl⟩) | (go_at_call 25; refine (rtwo_any _ _ _ hp hm).mono ?_; rintro e w' ⟨rfl, rfl⟩))
  go_ret2
  exact ⟨rfl, rfl⟩
theorem rdo_7 (a m p : Int) (w : World) :
    Calls Try.prog 10 #[.int .i64 7, .int .i64 a, .int .i64 m, .int .i64 p] w fun e w' => e = .returned (.tuple #[.int .i64 (doOf 7 (a % 256) (m % 256) (p % 256)).1, .int .i64 (doOf 7 (a % 256) (m % 256) (p % 256)).2]) ∧ w' = w := by
  have ha := isByte_mod a
  have hm := isByte_mod m
  have hp := isByte_mod p
  have m0 := hm.1
  have m1 := hm.2
  have p0 := hp.1
  have p1 := hp.2
  go_enter Try.func10, Try.ntmps10
  go_wp2_with (first | (go_at_call 20; refine (rbyte_any _ _).mono ?_; rintro e w' ⟨rfl, rfl⟩) | (go_at_call 12; refine (rnz_any _ _ _).mono ?_; rintro e w' ⟨rfl, rfl⟩) | (go_at_call 24; refine (rset_any _ _ _ _ (by repeat (first | refine setOf_byte _ ?_ ?_ | exact nzOf_byte _ _ | exact isByte_mod _ | assumption | (unfold IsFlag; omega))) (by unfold IsFlag; omega)).mono ?_; rintro e w' ⟨rfl, rfl⟩) | (go_at_call 21; refine (reach_7 _ _ _ ha hm).mono ?_; rintro e w' ⟨rfl, rfl⟩) | (go_at_call 25; refine (rtwo_any _ _ _ hp hm).mono ?_; rintro e w' ⟨rfl, rfl⟩))
  go_ret2
  exact ⟨rfl, rfl⟩
theorem rdo_8 (a m p : Int) (w : World) :
    Calls Try.prog 10 #[.int .i64 8, .int .i64 a, .int .i64 m, .int .i64 p] w fun e w' => e = .returned (.tuple #[.int .i64 (doOf 8 (a % 256) (m % 256) (p % 256)).1, .int .i64 (doOf 8 (a % 256) (m % 256) (p % 256)).2]) ∧ w' = w := by
  have ha := isByte_mod a
  have hm := isByte_mod m
  have hp := isByte_mod p
  have m0 := hm.1
  have m1 := hm.2
  have p0 := hp.1
  have p1 := hp.2
  go_enter Try.func10, Try.ntmps10
  go_wp2_with (first | (go_at_call 20; refine (rbyte_any _ _).mono ?_; rintro e w' ⟨rfl, rfl⟩) | (go_at_call 12; refine (rnz_any _ _ _).mono ?_; rintro e w' ⟨rfl, rfl⟩) | (go_at_call 24; refine (rset_any _ _ _ _ (by repeat (first | refine setOf_byte _ ?_ ?_ | exact nzOf_byte _ _ | exact isByte_mod _ | assumption | (unfold IsFlag; omega))) (by unfold IsFlag; omega)).mono ?_; rintro e w' ⟨rfl, rfl⟩) | (go_at_call 21; refine (reach_8 _ _ _ ha hm).mono ?_; rintro e w' ⟨rfl, rfl⟩) | (go_at_call 25; refine (rtwo_any _ _ _ hp hm).mono ?_; rintro e w' ⟨rfl, rfl⟩))
  go_ret2
  exact ⟨rfl, rfl⟩
theorem rdo_9 (a m p : Int) (w : World) :
    Calls Try.prog 10 #[.int .i64 9, .int .i64 a, .int .i64 m, .int .i64 p] w fun e w' => e = .returned (.tuple #[.int .i64 (doOf 9 (a % 256) (m % 256) (p % 256)).1, .int .i64 (doOf 9 (a % 256) (m % 256) (p % 256)).2]) ∧ w' = w := by
  have ha := isByte_mod a
  have hm := isByte_mod m
  have hp := isByte_mod p
  have m0 := hm.1
  have m1 := hm.2
  have p0 := hp.1
  have p1 := hp.2
  go_enter Try.func10, Try.ntmps10
  go_wp2_with (first | (go_at_call 20; refine (rbyte_any _ _).mono ?_; rintro e w' ⟨rfl, rfl⟩) | (go_at_call 12; refine (rnz_any _ _ _).mono ?_; rintro e w' ⟨rfl, rfl⟩) | (go_at_call 24; refine (rset_any _ _ _ _ (by repeat (first | refine setOf_byte _ ?_ ?_ | exact nzOf_byte _ _ | exact isByte_mod _ | assumption | (unfold IsFlag; omega))) (by unfold IsFlag; omega)).mono ?_; rintro e w' ⟨rfl, rfl⟩))
  go_ret2
  exact ⟨rfl, rfl⟩
theorem rdo_10 (a m p : Int) (w : World) :
    Calls Try.prog 10 #[.int .i64 10, .int .i64 a, .int .i64 m, .int .i64 p] w fun e w' => e = .returned (.tuple #[.int .i64 (doOf 10 (a % 256) (m % 256) (p % 256)).1, .int .i64 (doOf 10 (a % 256) (m % 256) (p % 256)).2]) ∧ w' = w := by
  have ha := isByte_mod a
  have hm := isByte_mod m
  have hp := isByte_mod p
  have m0 := hm.1
  have m1 := hm.2
  have p0 := hp.1
  have p1 := hp.2
  go_enter Try.func10, Try.ntmps10
  go_wp2_with (first | (go_at_call 20; refine (rbyte_any _ _).mono ?_; rintro e w' ⟨rfl, rfl⟩) | (go_at_call 12; refine (rnz_any _ _ _).mono ?_; rintro e w' ⟨rfl, rfl⟩) | (go_at_call 24; refine (rset_any _ _ _ _ (by repeat (first | refine setOf_byte _ ?_ ?_ | exact nzOf_byte _ _ | exact isByte_mod _ | assumption | (unfold IsFlag; omega))) (by unfold IsFlag; omega)).mono ?_; rintro e w' ⟨rfl, rfl⟩))
  go_ret2
  have p2 : p % 2 = p % 256 % 2 := by omega
  rw [p2]
  exact ⟨rfl, rfl⟩
theorem rdo_11 (a m p : Int) (w : World) :
    Calls Try.prog 10 #[.int .i64 11, .int .i64 a, .int .i64 m, .int .i64 p] w fun e w' => e = .returned (.tuple #[.int .i64 (doOf 11 (a % 256) (m % 256) (p % 256)).1, .int .i64 (doOf 11 (a % 256) (m % 256) (p % 256)).2]) ∧ w' = w := by
  have ha := isByte_mod a
  have hm := isByte_mod m
  have hp := isByte_mod p
  have m0 := hm.1
  have m1 := hm.2
  have p0 := hp.1
  have p1 := hp.2
  go_enter Try.func10, Try.ntmps10
  go_wp2_with (first | (go_at_call 20; refine (rbyte_any _ _).mono ?_; rintro e w' ⟨rfl, rfl⟩) | (go_at_call 12; refine (rnz_any _ _ _).mono ?_; rintro e w' ⟨rfl, rfl⟩) | (go_at_call 24; refine (rset_any _ _ _ _ (by repeat (first | refine setOf_byte _ ?_ ?_ | exact nzOf_byte _ _ | exact isByte_mod _ | assumption | (unfold IsFlag; omega))) (by unfold IsFlag; omega)).mono ?_; rintro e w' ⟨rfl, rfl⟩))
  go_ret2
  have m2 : m % 2 = m % 256 % 2 := by omega
  rw [m2]
  exact ⟨rfl, rfl⟩
theorem rdo_12 (a m p : Int) (w : World) :
    Calls Try.prog 10 #[.int .i64 12, .int .i64 a, .int .i64 m, .int .i64 p] w fun e w' => e = .returned (.tuple #[.int .i64 (doOf 12 (a % 256) (m % 256) (p % 256)).1, .int .i64 (doOf 12 (a % 256) (m % 256) (p % 256)).2]) ∧ w' = w := by
  have ha := isByte_mod a
  have hm := isByte_mod m
  have hp := isByte_mod p
  have m0 := hm.1
  have m1 := hm.2
  have p0 := hp.1
  have p1 := hp.2
  go_enter Try.func10, Try.ntmps10
  go_wp2_with (first | (go_at_call 20; refine (rbyte_any _ _).mono ?_; rintro e w' ⟨rfl, rfl⟩) | (go_at_call 12; refine (rnz_any _ _ _).mono ?_; rintro e w' ⟨rfl, rfl⟩) | (go_at_call 24; refine (rset_any _ _ _ _ (by repeat (first | refine setOf_byte _ ?_ ?_ | exact nzOf_byte _ _ | exact isByte_mod _ | assumption | (unfold IsFlag; omega))) (by unfold IsFlag; omega)).mono ?_; rintro e w' ⟨rfl, rfl⟩))
  go_ret2
  have p2 : p % 2 = p % 256 % 2 := by omega
  rw [p2, show m % 2 = m % 256 % 2 by omega]
  exact ⟨rfl, rfl⟩
theorem rdo_13 (a m p : Int) (w : World) :
    Calls Try.prog 10 #[.int .i64 13, .int .i64 a, .int .i64 m, .int .i64 p] w fun e w' => e = .returned (.tuple #[.int .i64 (doOf 13 (a % 256) (m % 256) (p % 256)).1, .int .i64 (doOf 13 (a % 256) (m % 256) (p % 256)).2]) ∧ w' = w := by
  have ha := isByte_mod a
  have hm := isByte_mod m
  have hp := isByte_mod p
  have m0 := hm.1
  have m1 := hm.2
  have p0 := hp.1
  have p1 := hp.2
  go_enter Try.func10, Try.ntmps10
  go_wp2_with (first | (go_at_call 20; refine (rbyte_any _ _).mono ?_; rintro e w' ⟨rfl, rfl⟩) | (go_at_call 12; refine (rnz_any _ _ _).mono ?_; rintro e w' ⟨rfl, rfl⟩) | (go_at_call 24; refine (rset_any _ _ _ _ (by repeat (first | refine setOf_byte _ ?_ ?_ | exact nzOf_byte _ _ | exact isByte_mod _ | assumption | (unfold IsFlag; omega))) (by unfold IsFlag; omega)).mono ?_; rintro e w' ⟨rfl, rfl⟩))
  go_ret2
  have m13 : (m + 1) % 256 = (m % 256 + 1) % 256 := by omega
  rw [m13]
  exact ⟨rfl, rfl⟩
theorem rdo_14 (a m p : Int) (w : World) :
    Calls Try.prog 10 #[.int .i64 14, .int .i64 a, .int .i64 m, .int .i64 p] w fun e w' => e = .returned (.tuple #[.int .i64 (doOf 14 (a % 256) (m % 256) (p % 256)).1, .int .i64 (doOf 14 (a % 256) (m % 256) (p % 256)).2]) ∧ w' = w := by
  have ha := isByte_mod a
  have hm := isByte_mod m
  have hp := isByte_mod p
  have m0 := hm.1
  have m1 := hm.2
  have p0 := hp.1
  have p1 := hp.2
  go_enter Try.func10, Try.ntmps10
  go_wp2_with (first | (go_at_call 20; refine (rbyte_any _ _).mono ?_; rintro e w' ⟨rfl, rfl⟩) | (go_at_call 12; refine (rnz_any _ _ _).mono ?_; rintro e w' ⟨rfl, rfl⟩) | (go_at_call 24; refine (rset_any _ _ _ _ (by repeat (first | refine setOf_byte _ ?_ ?_ | exact nzOf_byte _ _ | exact isByte_mod _ | assumption | (unfold IsFlag; omega))) (by unfold IsFlag; omega)).mono ?_; rintro e w' ⟨rfl, rfl⟩))
  go_ret2
  have m14 : (m + 255) % 256 = (m % 256 + 255) % 256 := by omega
  rw [m14]
  exact ⟨rfl, rfl⟩
theorem rdo_15 (a m p : Int) (w : World) :
    Calls Try.prog 10 #[.int .i64 15, .int .i64 a, .int .i64 m, .int .i64 p] w fun e w' => e = .returned (.tuple #[.int .i64 (doOf 15 (a % 256) (m % 256) (p % 256)).1, .int .i64 (doOf 15 (a % 256) (m % 256) (p % 256)).2]) ∧ w' = w := by
  have ha := isByte_mod a
  have hm := isByte_mod m
  have hp := isByte_mod p
  have m0 := hm.1
  have m1 := hm.2
  have p0 := hp.1
  have p1 := hp.2
  go_enter Try.func10, Try.ntmps10
  go_wp2_with (first | (go_at_call 20; refine (rbyte_any _ _).mono ?_; rintro e w' ⟨rfl, rfl⟩) | (go_at_call 12; refine (rnz_any _ _ _).mono ?_; rintro e w' ⟨rfl, rfl⟩) | (go_at_call 24; refine (rset_any _ _ _ _ (by repeat (first | refine setOf_byte _ ?_ ?_ | exact nzOf_byte _ _ | exact isByte_mod _ | assumption | (unfold IsFlag; omega))) (by unfold IsFlag; omega)).mono ?_; rintro e w' ⟨rfl, rfl⟩))
  go_ret2
  exact ⟨rfl, rfl⟩
theorem rdo_low (op a m p : Int) (w : World) (h : op < 0) :
    Calls Try.prog 10 #[.int .i64 op, .int .i64 a, .int .i64 m, .int .i64 p] w fun e w' => e = .returned (.tuple #[.int .i64 (doOf op (a % 256) (m % 256) (p % 256)).1, .int .i64 (doOf op (a % 256) (m % 256) (p % 256)).2]) ∧ w' = w := by
  rw [doOf_none (by omega)]
  go_enter Try.func10, Try.ntmps10
  go_wp2_with (first | (go_at_call 20; refine (rbyte_any _ _).mono ?_; rintro e w' ⟨rfl, rfl⟩))
  go_ret2
  exact ⟨rfl, rfl⟩
theorem rdo_high (op a m p : Int) (w : World) (h : 15 < op) :
    Calls Try.prog 10 #[.int .i64 op, .int .i64 a, .int .i64 m, .int .i64 p] w fun e w' => e = .returned (.tuple #[.int .i64 (doOf op (a % 256) (m % 256) (p % 256)).1, .int .i64 (doOf op (a % 256) (m % 256) (p % 256)).2]) ∧ w' = w := by
  rw [doOf_none (by omega)]
  go_enter Try.func10, Try.ntmps10
  go_wp2_with (first | (go_at_call 20; refine (rbyte_any _ _).mono ?_; rintro e w' ⟨rfl, rfl⟩))
  go_ret2
  exact ⟨rfl, rfl⟩
/-- Whatever the operation. -/
theorem rdo_any (op a m p : Int) (w : World) :
    Calls Try.prog 10 #[.int .i64 op, .int .i64 a, .int .i64 m, .int .i64 p] w fun e w' => e = .returned (.tuple #[.int .i64 (doOf op (a % 256) (m % 256) (p % 256)).1, .int .i64 (doOf op (a % 256) (m % 256) (p % 256)).2]) ∧ w' = w := by
  rcases cases17 op with rfl | rfl | rfl | rfl | rfl | rfl | rfl | rfl | rfl | rfl | rfl | rfl | rfl | rfl | rfl | rfl | h | h
  · exact rdo_0 a m p w
  · exact rdo_1 a m p w
  · exact rdo_2 a m p w
  · exact rdo_3 a m p w
  · exact rdo_4 a m p w
  · exact rdo_5 a m p w
  · exact rdo_6 a m p w
  · exact rdo_7 a m p w
  · exact rdo_8 a m p w
  · exact rdo_9 a m p w
  · exact rdo_10 a m p w
  · exact rdo_11 a m p w
  · exact rdo_12 a m p w
  · exact rdo_13 a m p w
  · exact rdo_14 a m p w
  · exact rdo_15 a m p w
  · exact rdo_low op a m p w h
  · exact rdo_high op a m p w h
end Go.Proofs.Ytjainjpfmmonbaa
