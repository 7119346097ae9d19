/- What package alu does with an operation: sums, differences, and all of them. -/
import Derived.Test.YtoijhhbiknhlnaaGreatDoorCpuCountsJ34
namespace Go.Proofs.YtoijhhbiknhlnaaGreatDoor.A2
set_option maxRecDepth 20000
open Go.RowKit
set_option linter.unusedVariables false
theorem d_of (p : Int) : (bits .and .i64 p 8 != 0) = decide (p / 8 % 2 = 1) := by
  rw [and_8, Bool.eq_iff_iff]; simp; omega
theorem add_any (a m p : Int) (w : World) (ha : IsByte a) (hm : IsByte m) (hp : IsByte p) :
    Calls Tryz.prog 137 #[.int .i64 a, .int .i64 m, .int .i64 p] w fun e w' => e = .returned (.tuple #[.int .i64 (adcOf a m p).1, .int .i64 (adcOf a m p).2]) ∧ Below w.heap.size w w' := by
  have hd := d_of p
  by_cases h : p / 8 % 2 = 1
  · have e : adcOf a m p = adcTen a m p := by unfold adcOf; rw [if_pos h]
    rw [e]
    simp only [h, decide_true] at hd
    clear h e
    go_enter Tryz.func137, Tryz.ntmps137
    go_wp2_with (first | (go_at_call 169; refine (addTen_any _ _ _ _ ha hm hp).mono ?_; rintro e w' ⟨rfl, b1⟩))
    go_ret2
    exact ⟨rfl, b1⟩
  · have e : adcOf a m p = adcTwo a m p := by unfold adcOf; rw [if_neg h]
    rw [e]
    simp only [h, decide_false] at hd
    clear h e
    have a0 := ha.1
    have a1 := ha.2
    have m0 := hm.1
    have m1 := hm.2
    have hb := hide (and_1 p)
    have h1 : 0 ≤ bits .and .i64 p 1 ∧ bits .and .i64 p 1 ≤ 1 := by rw [hb.out]; omega
    go_enter Tryz.func137, Tryz.ntmps137
    go_wp2_with (first | (go_at_call 32; refine (byte_any _ _).mono ?_; rintro e w' ⟨rfl, rfl⟩) | (go_at_call 136; refine (aput_any _ _ _ _ (by repeat (first | assumption | exact isByte_mod _ | exact nzOf_byte _ _ | refine setOf_byte _ ?_ ?_ | (unfold IsFlag; omega))) (by unfold IsFlag; omega)).mono ?_; rintro e w' ⟨rfl, rfl⟩) | (go_at_call 93; refine (nz_any _ _ _).mono ?_; rintro e w' ⟨rfl, rfl⟩))
    go_ret2
    rw [hb.out]
    have hr := isByte_mod (a + m + p % 2)
    have hc : decide ((a + m + p % 2) % 256 < a + m + p % 2) = decide (255 < a + m + p % 2) := by rw [Bool.eq_iff_iff]; simp; omega
    refine ⟨ret_two rfl ?_, Below.refl _ _⟩
    rw [hc, v_add ha hm hr, nzOf_set _ _ (setOf_byte _ hp f1) (.inr rfl), nzOf_set _ _ hp (.inl rfl)]
    rfl
theorem sub_any (a m p : Int) (w : World) (ha : IsByte a) (hm : IsByte m) (hp : IsByte p) :
    Calls Tryz.prog 138 #[.int .i64 a, .int .i64 m, .int .i64 p] w fun e w' => e = .returned (.tuple #[.int .i64 (sbcOf a m p).1, .int .i64 (sbcOf a m p).2]) ∧ Below w.heap.size w w' := by
  have hd := d_of p
  by_cases h : p / 8 % 2 = 1
  · have e : sbcOf a m p = sbcTen a m p := by unfold sbcOf; rw [if_pos h]
    rw [e]
    simp only [h, decide_true] at hd
    clear h e
    go_enter Tryz.func138, Tryz.ntmps138
    go_wp2_with (first | (go_at_call 170; refine (subTen_any _ _ _ _ ha hm hp).mono ?_; rintro e w' ⟨rfl, b1⟩))
    go_ret2
    exact ⟨rfl, b1⟩
  · have e : sbcOf a m p = sbcTwo a m p := by unfold sbcOf; rw [if_neg h]
    rw [e]
    simp only [h, decide_false] at hd
    clear h e
    have a0 := ha.1
    have a1 := ha.2
    have m0 := hm.1
    have m1 := hm.2
    have hb := hide (and_1 p)
    have h1 : 0 ≤ bits .and .i64 p 1 ∧ bits .and .i64 p 1 ≤ 1 := by rw [hb.out]; omega
    go_enter Tryz.func138, Tryz.ntmps138
    go_wp2_with (first | (go_at_call 32; refine (byte_any _ _).mono ?_; rintro e w' ⟨rfl, rfl⟩) | (go_at_call 136; refine (aput_any _ _ _ _ (by repeat (first | assumption | exact isByte_mod _ | exact nzOf_byte _ _ | refine setOf_byte _ ?_ ?_ | (unfold IsFlag; omega))) (by unfold IsFlag; omega)).mono ?_; rintro e w' ⟨rfl, rfl⟩) | (go_at_call 93; refine (nz_any _ _ _).mono ?_; rintro e w' ⟨rfl, rfl⟩))
    go_ret2
    rw [hb.out]
    have hr := isByte_mod (a - m - 1 + p % 2)
    refine ⟨ret_two rfl ?_, Below.refl _ _⟩
    rw [v_sub ha hm hr, nzOf_set _ _ (setOf_byte _ hp f1) (.inr rfl), nzOf_set _ _ hp (.inl rfl)]
    rfl
theorem doOf_none {op : Int} (h : op < 0 ∨ 15 < op) (a m p : Int) : doOf op a m p = (a, p) := by
  unfold doOf
  iterate 16 rw [if_neg (by omega)]
theorem do_0 (a m p : Int) (w : World) :
    Calls Tryz.prog 94 #[.int .i64 0, .int .i64 a, .int .i64 m, .int .i64 p] w fun e w' => e = .returned (.tuple #[.int .i64 (doOf 0 (a % 256) (m % 256) (p % 256)).1, .int .i64 (doOf 0 (a % 256) (m % 256) (p % 256)).2]) ∧ Below w.heap.size w w' := by
  have ha := isByte_mod a
  have hm := isByte_mod m
  have hp := isByte_mod p
  go_enter Tryz.func94, Tryz.ntmps94
  go_wp2_with (first | (go_at_call 32; refine (byte_any _ _).mono ?_; rintro e w' ⟨rfl, rfl⟩) | (go_at_call 136; refine (aput_any _ _ _ _ (by repeat (first | assumption | exact isByte_mod _ | exact nzOf_byte _ _ | refine setOf_byte _ ?_ ?_ | (unfold IsFlag; omega))) (by unfold IsFlag; omega)).mono ?_; rintro e w' ⟨rfl, rfl⟩) | (go_at_call 93; refine (nz_any _ _ _).mono ?_; rintro e w' ⟨rfl, rfl⟩) | (go_at_call 139; refine (tested_any _ _ _ _ (isByte_mod _) (isByte_mod _)).mono ?_; rintro e w' ⟨rfl, rfl⟩))
  go_ret2
  rw [or_B ha hm]; exact ⟨rfl, Below.refl _ _⟩
theorem do_1 (a m p : Int) (w : World) :
    Calls Tryz.prog 94 #[.int .i64 1, .int .i64 a, .int .i64 m, .int .i64 p] w fun e w' => e = .returned (.tuple #[.int .i64 (doOf 1 (a % 256) (m % 256) (p % 256)).1, .int .i64 (doOf 1 (a % 256) (m % 256) (p % 256)).2]) ∧ Below w.heap.size w w' := by
  have ha := isByte_mod a
  have hm := isByte_mod m
  have hp := isByte_mod p
  go_enter Tryz.func94, Tryz.ntmps94
  go_wp2_with (first | (go_at_call 32; refine (byte_any _ _).mono ?_; rintro e w' ⟨rfl, rfl⟩) | (go_at_call 136; refine (aput_any _ _ _ _ (by repeat (first | assumption | exact isByte_mod _ | exact nzOf_byte _ _ | refine setOf_byte _ ?_ ?_ | (unfold IsFlag; omega))) (by unfold IsFlag; omega)).mono ?_; rintro e w' ⟨rfl, rfl⟩) | (go_at_call 93; refine (nz_any _ _ _).mono ?_; rintro e w' ⟨rfl, rfl⟩) | (go_at_call 139; refine (tested_any _ _ _ _ (isByte_mod _) (isByte_mod _)).mono ?_; rintro e w' ⟨rfl, rfl⟩))
  go_ret2
  rw [and_B ha hm]; exact ⟨rfl, Below.refl _ _⟩
theorem do_2 (a m p : Int) (w : World) :
    Calls Tryz.prog 94 #[.int .i64 2, .int .i64 a, .int .i64 m, .int .i64 p] w fun e w' => e = .returned (.tuple #[.int .i64 (doOf 2 (a % 256) (m % 256) (p % 256)).1, .int .i64 (doOf 2 (a % 256) (m % 256) (p % 256)).2]) ∧ Below w.heap.size w w' := by
  have ha := isByte_mod a
  have hm := isByte_mod m
  have hp := isByte_mod p
  go_enter Tryz.func94, Tryz.ntmps94
  go_wp2_with (first | (go_at_call 32; refine (byte_any _ _).mono ?_; rintro e w' ⟨rfl, rfl⟩) | (go_at_call 136; refine (aput_any _ _ _ _ (by repeat (first | assumption | exact isByte_mod _ | exact nzOf_byte _ _ | refine setOf_byte _ ?_ ?_ | (unfold IsFlag; omega))) (by unfold IsFlag; omega)).mono ?_; rintro e w' ⟨rfl, rfl⟩) | (go_at_call 93; refine (nz_any _ _ _).mono ?_; rintro e w' ⟨rfl, rfl⟩) | (go_at_call 139; refine (tested_any _ _ _ _ (isByte_mod _) (isByte_mod _)).mono ?_; rintro e w' ⟨rfl, rfl⟩))
  go_ret2
  rw [xor_B ha hm]; exact ⟨rfl, Below.refl _ _⟩
theorem do_3 (a m p : Int) (w : World) :
    Calls Tryz.prog 94 #[.int .i64 3, .int .i64 a, .int .i64 m, .int .i64 p] w fun e w' => e = .returned (.tuple #[.int .i64 (doOf 3 (a % 256) (m % 256) (p % 256)).1, .int .i64 (doOf 3 (a % 256) (m % 256) (p % 256)).2]) ∧ Below w.heap.size w w' := by
  have ha := isByte_mod a
  have hm := isByte_mod m
  have hp := isByte_mod p
  go_enter Tryz.func94, Tryz.ntmps94
  go_wp2_with (first | (go_at_call 32; refine (byte_any _ _).mono ?_; rintro e w' ⟨rfl, rfl⟩) | (go_at_call 137; refine (add_any _ _ _ _ (isByte_mod _) (isByte_mod _) (isByte_mod _)).mono ?_; rintro e w' ⟨rfl, b1⟩))
  go_ret2
  exact ⟨rfl, b1⟩
theorem do_4 (a m p : Int) (w : World) :
    Calls Tryz.prog 94 #[.int .i64 4, .int .i64 a, .int .i64 m, .int .i64 p] w fun e w' => e = .returned (.tuple #[.int .i64 (doOf 4 (a % 256) (m % 256) (p % 256)).1, .int .i64 (doOf 4 (a % 256) (m % 256) (p % 256)).2]) ∧ Below w.heap.size w w' := by
  have ha := isByte_mod a
  have hm := isByte_mod m
  have hp := isByte_mod p
  go_enter Tryz.func94, Tryz.ntmps94
  go_wp2_with (first | (go_at_call 32; refine (byte_any _ _).mono ?_; rintro e w' ⟨rfl, rfl⟩) | (go_at_call 138; refine (sub_any _ _ _ _ (isByte_mod _) (isByte_mod _) (isByte_mod _)).mono ?_; rintro e w' ⟨rfl, b1⟩))
  go_ret2
  exact ⟨rfl, b1⟩
theorem do_5 (a m p : Int) (w : World) :
    Calls Tryz.prog 94 #[.int .i64 5, .int .i64 a, .int .i64 m, .int .i64 p] w fun e w' => e = .returned (.tuple #[.int .i64 (doOf 5 (a % 256) (m % 256) (p % 256)).1, .int .i64 (doOf 5 (a % 256) (m % 256) (p % 256)).2]) ∧ Below w.heap.size w w' := by
  have ha := isByte_mod a
  have hm := isByte_mod m
  have hp := isByte_mod p
  go_enter Tryz.func94, Tryz.ntmps94
  go_wp2_with (first | (go_at_call 32; refine (byte_any _ _).mono ?_; rintro e w' ⟨rfl, rfl⟩) | (go_at_call 136; refine (aput_any _ _ _ _ (by repeat (first | assumption | exact isByte_mod _ | exact nzOf_byte _ _ | refine setOf_byte _ ?_ ?_ | (unfold IsFlag; omega))) (by unfold IsFlag; omega)).mono ?_; rintro e w' ⟨rfl, rfl⟩) | (go_at_call 93; refine (nz_any _ _ _).mono ?_; rintro e w' ⟨rfl, rfl⟩) | (go_at_call 139; refine (tested_any _ _ _ _ (isByte_mod _) (isByte_mod _)).mono ?_; rintro e w' ⟨rfl, rfl⟩))
  go_ret2
  exact ⟨ret_two rfl (nzOf_set _ _ hp (.inl rfl)), Below.refl _ _⟩
theorem do_6 (a m p : Int) (w : World) :
    Calls Tryz.prog 94 #[.int .i64 6, .int .i64 a, .int .i64 m, .int .i64 p] w fun e w' => e = .returned (.tuple #[.int .i64 (doOf 6 (a % 256) (m % 256) (p % 256)).1, .int .i64 (doOf 6 (a % 256) (m % 256) (p % 256)).2]) ∧ Below w.heap.size w w' := by
  have ha := isByte_mod a
  have hm := isByte_mod m
  have hp := isByte_mod p
  go_enter Tryz.func94, Tryz.ntmps94
  go_wp2_with (first | (go_at_call 32; refine (byte_any _ _).mono ?_; rintro e w' ⟨rfl, rfl⟩) | (go_at_call 136; refine (aput_any _ _ _ _ (by repeat (first | assumption | exact isByte_mod _ | exact nzOf_byte _ _ | refine setOf_byte _ ?_ ?_ | (unfold IsFlag; omega))) (by unfold IsFlag; omega)).mono ?_; rintro e w' ⟨rfl, rfl⟩) | (go_at_call 93; refine (nz_any _ _ _).mono ?_; rintro e w' ⟨rfl, rfl⟩) | (go_at_call 139; refine (tested_any _ _ _ _ (isByte_mod _) (isByte_mod _)).mono ?_; rintro e w' ⟨rfl, rfl⟩))
  go_ret2
  rw [and_B ha hm]; exact ⟨rfl, Below.refl _ _⟩
theorem do_7 (a m p : Int) (w : World) :
    Calls Tryz.prog 94 #[.int .i64 7, .int .i64 a, .int .i64 m, .int .i64 p] w fun e w' => e = .returned (.tuple #[.int .i64 (doOf 7 (a % 256) (m % 256) (p % 256)).1, .int .i64 (doOf 7 (a % 256) (m % 256) (p % 256)).2]) ∧ Below w.heap.size w w' := by
  have ha := isByte_mod a
  have hm := isByte_mod m
  have hp := isByte_mod p
  go_enter Tryz.func94, Tryz.ntmps94
  go_wp2_with (first | (go_at_call 32; refine (byte_any _ _).mono ?_; rintro e w' ⟨rfl, rfl⟩) | (go_at_call 136; refine (aput_any _ _ _ _ (by repeat (first | assumption | exact isByte_mod _ | exact nzOf_byte _ _ | refine setOf_byte _ ?_ ?_ | (unfold IsFlag; omega))) (by unfold IsFlag; omega)).mono ?_; rintro e w' ⟨rfl, rfl⟩) | (go_at_call 93; refine (nz_any _ _ _).mono ?_; rintro e w' ⟨rfl, rfl⟩) | (go_at_call 139; refine (tested_any _ _ _ _ (isByte_mod _) (isByte_mod _)).mono ?_; rintro e w' ⟨rfl, rfl⟩))
  go_ret2
  rw [or_comm, or_B ha hm]; exact ⟨rfl, Below.refl _ _⟩
theorem do_8 (a m p : Int) (w : World) :
    Calls Tryz.prog 94 #[.int .i64 8, .int .i64 a, .int .i64 m, .int .i64 p] w fun e w' => e = .returned (.tuple #[.int .i64 (doOf 8 (a % 256) (m % 256) (p % 256)).1, .int .i64 (doOf 8 (a % 256) (m % 256) (p % 256)).2]) ∧ Below w.heap.size w w' := by
  have ha := isByte_mod a
  have hm := isByte_mod m
  have hp := isByte_mod p
  go_enter Tryz.func94, Tryz.ntmps94
  go_wp2_with (first | (go_at_call 32; refine (byte_any _ _).mono ?_; rintro e w' ⟨rfl, rfl⟩) | (go_at_call 136; refine (aput_any _ _ _ _ (by repeat (first | assumption | exact isByte_mod _ | exact nzOf_byte _ _ | refine setOf_byte _ ?_ ?_ | (unfold IsFlag; omega))) (by unfold IsFlag; omega)).mono ?_; rintro e w' ⟨rfl, rfl⟩) | (go_at_call 93; refine (nz_any _ _ _).mono ?_; rintro e w' ⟨rfl, rfl⟩) | (go_at_call 139; refine (tested_any _ _ _ _ (isByte_mod _) (isByte_mod _)).mono ?_; rintro e w' ⟨rfl, rfl⟩))
  go_ret2
  rw [andNot_B hm ha]; exact ⟨rfl, Below.refl _ _⟩
theorem do_9 (a m p : Int) (w : World) :
    Calls Tryz.prog 94 #[.int .i64 9, .int .i64 a, .int .i64 m, .int .i64 p] w fun e w' => e = .returned (.tuple #[.int .i64 (doOf 9 (a % 256) (m % 256) (p % 256)).1, .int .i64 (doOf 9 (a % 256) (m % 256) (p % 256)).2]) ∧ Below w.heap.size w w' := by
  have ha := isByte_mod a
  have hm := isByte_mod m
  have hp := isByte_mod p
  go_enter Tryz.func94, Tryz.ntmps94
  go_wp2_with (first | (go_at_call 32; refine (byte_any _ _).mono ?_; rintro e w' ⟨rfl, rfl⟩) | (go_at_call 140; refine (shift_any _ (a % 256) _ _ _ (by omega) (isByte_mod _) (isByte_mod _)).mono ?_; rintro e w' ⟨rfl, rfl⟩))
  go_ret2
  exact ⟨rfl, Below.refl _ _⟩
theorem do_10 (a m p : Int) (w : World) :
    Calls Tryz.prog 94 #[.int .i64 10, .int .i64 a, .int .i64 m, .int .i64 p] w fun e w' => e = .returned (.tuple #[.int .i64 (doOf 10 (a % 256) (m % 256) (p % 256)).1, .int .i64 (doOf 10 (a % 256) (m % 256) (p % 256)).2]) ∧ Below w.heap.size w w' := by
  have ha := isByte_mod a
  have hm := isByte_mod m
  have hp := isByte_mod p
  go_enter Tryz.func94, Tryz.ntmps94
  go_wp2_with (first | (go_at_call 32; refine (byte_any _ _).mono ?_; rintro e w' ⟨rfl, rfl⟩) | (go_at_call 140; refine (shift_any _ (a % 256) _ _ _ (by omega) (isByte_mod _) (isByte_mod _)).mono ?_; rintro e w' ⟨rfl, rfl⟩))
  go_ret2
  exact ⟨rfl, Below.refl _ _⟩
theorem do_11 (a m p : Int) (w : World) :
    Calls Tryz.prog 94 #[.int .i64 11, .int .i64 a, .int .i64 m, .int .i64 p] w fun e w' => e = .returned (.tuple #[.int .i64 (doOf 11 (a % 256) (m % 256) (p % 256)).1, .int .i64 (doOf 11 (a % 256) (m % 256) (p % 256)).2]) ∧ Below w.heap.size w w' := by
  have ha := isByte_mod a
  have hm := isByte_mod m
  have hp := isByte_mod p
  go_enter Tryz.func94, Tryz.ntmps94
  go_wp2_with (first | (go_at_call 32; refine (byte_any _ _).mono ?_; rintro e w' ⟨rfl, rfl⟩) | (go_at_call 140; refine (shift_any _ (a % 256) _ _ _ (by omega) (isByte_mod _) (isByte_mod _)).mono ?_; rintro e w' ⟨rfl, rfl⟩))
  go_ret2
  exact ⟨rfl, Below.refl _ _⟩
theorem do_12 (a m p : Int) (w : World) :
    Calls Tryz.prog 94 #[.int .i64 12, .int .i64 a, .int .i64 m, .int .i64 p] w fun e w' => e = .returned (.tuple #[.int .i64 (doOf 12 (a % 256) (m % 256) (p % 256)).1, .int .i64 (doOf 12 (a % 256) (m % 256) (p % 256)).2]) ∧ Below w.heap.size w w' := by
  have ha := isByte_mod a
  have hm := isByte_mod m
  have hp := isByte_mod p
  go_enter Tryz.func94, Tryz.ntmps94
  go_wp2_with (first | (go_at_call 32; refine (byte_any _ _).mono ?_; rintro e w' ⟨rfl, rfl⟩) | (go_at_call 140; refine (shift_any _ (a % 256) _ _ _ (by omega) (isByte_mod _) (isByte_mod _)).mono ?_; rintro e w' ⟨rfl, rfl⟩))
  go_ret2
  exact ⟨rfl, Below.refl _ _⟩
theorem do_13 (a m p : Int) (w : World) :
    Calls Tryz.prog 94 #[.int .i64 13, .int .i64 a, .int .i64 m, .int .i64 p] w fun e w' => e = .returned (.tuple #[.int .i64 (doOf 13 (a % 256) (m % 256) (p % 256)).1, .int .i64 (doOf 13 (a % 256) (m % 256) (p % 256)).2]) ∧ Below w.heap.size w w' := by
  have ha := isByte_mod a
  have hm := isByte_mod m
  have hp := isByte_mod p
  go_enter Tryz.func94, Tryz.ntmps94
  go_wp2_with (first | (go_at_call 32; refine (byte_any _ _).mono ?_; rintro e w' ⟨rfl, rfl⟩) | (go_at_call 136; refine (aput_any _ _ _ _ (by repeat (first | assumption | exact isByte_mod _ | exact nzOf_byte _ _ | refine setOf_byte _ ?_ ?_ | (unfold IsFlag; omega))) (by unfold IsFlag; omega)).mono ?_; rintro e w' ⟨rfl, rfl⟩) | (go_at_call 93; refine (nz_any _ _ _).mono ?_; rintro e w' ⟨rfl, rfl⟩) | (go_at_call 139; refine (tested_any _ _ _ _ (isByte_mod _) (isByte_mod _)).mono ?_; rintro e w' ⟨rfl, rfl⟩))
  go_ret2
  have h13 : (m + 1) % 256 = (m % 256 + 1) % 256 := by omega
  exact ⟨ret_two h13 (by show _ = nzOf (p % 256) ((m % 256 + 1) % 256); rw [nzOf_mod]), Below.refl _ _⟩
theorem do_14 (a m p : Int) (w : World) :
    Calls Tryz.prog 94 #[.int .i64 14, .int .i64 a, .int .i64 m, .int .i64 p] w fun e w' => e = .returned (.tuple #[.int .i64 (doOf 14 (a % 256) (m % 256) (p % 256)).1, .int .i64 (doOf 14 (a % 256) (m % 256) (p % 256)).2]) ∧ Below w.heap.size w w' := by
  have ha := isByte_mod a
  have hm := isByte_mod m
  have hp := isByte_mod p
  go_enter Tryz.func94, Tryz.ntmps94
  go_wp2_with (first | (go_at_call 32; refine (byte_any _ _).mono ?_; rintro e w' ⟨rfl, rfl⟩) | (go_at_call 136; refine (aput_any _ _ _ _ (by repeat (first | assumption | exact isByte_mod _ | exact nzOf_byte _ _ | refine setOf_byte _ ?_ ?_ | (unfold IsFlag; omega))) (by unfold IsFlag; omega)).mono ?_; rintro e w' ⟨rfl, rfl⟩) | (go_at_call 93; refine (nz_any _ _ _).mono ?_; rintro e w' ⟨rfl, rfl⟩) | (go_at_call 139; refine (tested_any _ _ _ _ (isByte_mod _) (isByte_mod _)).mono ?_; rintro e w' ⟨rfl, rfl⟩))
  go_ret2
  have h14 : (m % 256 + 255) % 256 = (m % 256 - 1) % 256 := by omega
  have h14' : (m - 1) % 256 = (m % 256 + 255) % 256 := by omega
  exact ⟨ret_two h14' (by show _ = nzOf (p % 256) ((m % 256 + 255) % 256); rw [h14, nzOf_mod]), Below.refl _ _⟩
theorem do_15 (a m p : Int) (w : World) :
    Calls Tryz.prog 94 #[.int .i64 15, .int .i64 a, .int .i64 m, .int .i64 p] w fun e w' => e = .returned (.tuple #[.int .i64 (doOf 15 (a % 256) (m % 256) (p % 256)).1, .int .i64 (doOf 15 (a % 256) (m % 256) (p % 256)).2]) ∧ Below w.heap.size w w' := by
  have ha := isByte_mod a
  have hm := isByte_mod m
  have hp := isByte_mod p
  go_enter Tryz.func94, Tryz.ntmps94
  go_wp2_with (first | (go_at_call 32; refine (byte_any _ _).mono ?_; rintro e w' ⟨rfl, rfl⟩) | (go_at_call 136; refine (aput_any _ _ _ _ (by repeat (first | assumption | exact isByte_mod _ | exact nzOf_byte _ _ | refine setOf_byte _ ?_ ?_ | (unfold IsFlag; omega))) (by unfold IsFlag; omega)).mono ?_; rintro e w' ⟨rfl, rfl⟩) | (go_at_call 93; refine (nz_any _ _ _).mono ?_; rintro e w' ⟨rfl, rfl⟩) | (go_at_call 139; refine (tested_any _ _ _ _ (isByte_mod _) (isByte_mod _)).mono ?_; rintro e w' ⟨rfl, rfl⟩))
  go_ret2
  exact ⟨rfl, Below.refl _ _⟩
theorem do_low (op a m p : Int) (w : World) (h : op < 0) :
    Calls Tryz.prog 94 #[.int .i64 op, .int .i64 a, .int .i64 m, .int .i64 p] w fun e w' => e = .returned (.tuple #[.int .i64 (doOf op (a % 256) (m % 256) (p % 256)).1, .int .i64 (doOf op (a % 256) (m % 256) (p % 256)).2]) ∧ Below w.heap.size w w' := by
  rw [doOf_none (by omega)]
  go_enter Tryz.func94, Tryz.ntmps94
  go_wp2_with (first | (go_at_call 32; refine (byte_any _ _).mono ?_; rintro e w' ⟨rfl, rfl⟩))
  go_ret2
  exact ⟨rfl, Below.refl _ _⟩
theorem do_high (op a m p : Int) (w : World) (h : 15 < op) :
    Calls Tryz.prog 94 #[.int .i64 op, .int .i64 a, .int .i64 m, .int .i64 p] w fun e w' => e = .returned (.tuple #[.int .i64 (doOf op (a % 256) (m % 256) (p % 256)).1, .int .i64 (doOf op (a % 256) (m % 256) (p % 256)).2]) ∧ Below w.heap.size w w' := by
  rw [doOf_none (by omega)]
  go_enter Tryz.func94, Tryz.ntmps94
  go_wp2_with (first | (go_at_call 32; refine (byte_any _ _).mono ?_; rintro e w' ⟨rfl, rfl⟩))
  go_ret2
  exact ⟨rfl, Below.refl _ _⟩
theorem cases17 (op : Int) : op = 0 ∨ op = 1 ∨ op = 2 ∨ op = 3 ∨ op = 4 ∨ op = 5 ∨ op = 6 ∨ op = 7 ∨ op = 8 ∨ op = 9 ∨ op = 10 ∨ op = 11 ∨ op = 12 ∨ op = 13 ∨ op = 14 ∨ op = 15 ∨ op < 0 ∨ 15 < op := by omega
theorem do_any (op a m p : Int) (w : World) :
    Calls Tryz.prog 94 #[.int .i64 op, .int .i64 a, .int .i64 m, .int .i64 p] w fun e w' => e = .returned (.tuple #[.int .i64 (doOf op (a % 256) (m % 256) (p % 256)).1, .int .i64 (doOf op (a % 256) (m % 256) (p % 256)).2]) ∧ Below w.heap.size w w' := by
  rcases cases17 op with rfl | rfl | rfl | rfl | rfl | rfl | rfl | rfl | rfl | rfl | rfl | rfl | rfl | rfl | rfl | rfl | h | h
  · exact do_0 a m p w
  · exact do_1 a m p w
  · exact do_2 a m p w
  · exact do_3 a m p w
  · exact do_4 a m p w
  · exact do_5 a m p w
  · exact do_6 a m p w
  · exact do_7 a m p w
  · exact do_8 a m p w
  · exact do_9 a m p w
  · exact do_10 a m p w
  · exact do_11 a m p w
  · exact do_12 a m p w
  · exact do_13 a m p w
  · exact do_14 a m p w
  · exact do_15 a m p w
  · exact do_low op a m p w h
  · exact do_high op a m p w h
end Go.Proofs.YtoijhhbiknhlnaaGreatDoor.A2
