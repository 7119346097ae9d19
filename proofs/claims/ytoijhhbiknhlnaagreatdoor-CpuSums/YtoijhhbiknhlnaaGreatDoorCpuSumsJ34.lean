/- What each function of package alu returns: one contract a function. -/
import Derived.Test.YtoijhhbiknhlnaaGreatDoorCpuSumsJ02
import Derived.Test.YtoijhhbiknhlnaaGreatDoorCpuSumsJ29
import Derived.OpenShut
import Derived.ShutString
import Derived.ChangeOld
import Derived.Below
import Derived.OneCell
namespace Go.Proofs.YtoijhhbiknhlnaaGreatDoor.A2
set_option maxRecDepth 20000
open Go.RowKit
set_option linter.unusedVariables false
theorem aput_any (p f : Int) (on : Bool) (w : World) (hp : IsByte p) (hf : IsFlag f) :
    Calls Tryz.prog 136 #[.int .i64 p, .int .i64 f, .bool on] w fun e w' => e = .returned (.int .i64 (setOf p f on)) ∧ w' = w := by
  cases on
  all_goals
    go_enter Tryz.func136, Tryz.ntmps136
    go_wp2
    go_ret
    first
      | exact ⟨ret_int (or_flag hp hf), rfl⟩
      | exact ⟨ret_int (not_flag hp hf), rfl⟩
theorem nz_any (p b : Int) (w : World) :
    Calls Tryz.prog 93 #[.int .i64 p, .int .i64 b] w fun e w' => e = .returned (.int .i64 (nzOf p b)) ∧ w' = w := by
  go_enter Tryz.func93, Tryz.ntmps93
  go_wp2_with (first | (go_at_call 32; refine (byte_any _ _).mono ?_; rintro e w' ⟨rfl, rfl⟩) | (go_at_call 136; refine (aput_any _ _ _ _ (by repeat (first | assumption | exact isByte_mod _ | exact nzOf_byte _ _ | refine setOf_byte _ ?_ ?_ | (unfold IsFlag; omega))) (by unfold IsFlag; omega)).mono ?_; rintro e w' ⟨rfl, rfl⟩))
  go_ret
  refine ⟨ret_int ?_, rfl⟩
  have h1 : (bits .and .i64 b 128 != 0) = decide (128 ≤ b % 256) := by
    rw [and_128, Bool.eq_iff_iff]; simp; omega
  have h2 : (b % 256 == 0) = decide (b % 256 = 0) := rfl
  unfold nzOf
  rw [h1]
  rfl
theorem n_of (m : Int) (hm : IsByte m) : (bits .and .i64 m 128 != 0) = decide (128 ≤ m) := by
  have := hm.1; have := hm.2
  rw [and_128, Bool.eq_iff_iff]; simp; omega
theorem v_of (m : Int) : (bits .and .i64 m 64 != 0) = decide (m / 64 % 2 = 1) := by
  rw [and_64, Bool.eq_iff_iff]; simp; omega
theorem c_of (m : Int) : (bits .and .i64 m 1 != 0) = decide (m % 2 = 1) := by
  rw [and_1, Bool.eq_iff_iff]; simp; omega
theorem tested_any (p m o : Int) (w : World) (hp : IsByte p) (hm : IsByte m) :
    Calls Tryz.prog 139 #[.int .i64 p, .int .i64 m, .int .i64 o] w fun e w' => e = .returned (.int .i64 (twoOf p m (decide (o = 0)))) ∧ w' = w := by
  go_enter Tryz.func139, Tryz.ntmps139
  go_wp2_with (first | (go_at_call 136; refine (aput_any _ _ _ _ (by repeat (first | assumption | exact isByte_mod _ | exact nzOf_byte _ _ | refine setOf_byte _ ?_ ?_ | (unfold IsFlag; omega))) (by unfold IsFlag; omega)).mono ?_; rintro e w' ⟨rfl, rfl⟩))
  go_ret
  refine ⟨ret_int ?_, rfl⟩
  rw [n_of m hm, v_of m]
  rfl
theorem shift_any (op a m p : Int) (w : World) (hop : op = 9 ∨ op = 10 ∨ op = 11 ∨ op = 12) (hm : IsByte m) (hp : IsByte p) :
    Calls Tryz.prog 140 #[.int .i64 op, .int .i64 m, .int .i64 p] w fun e w' => e = .returned (.tuple #[.int .i64 (doOf op a m p).1, .int .i64 (doOf op a m p).2]) ∧ w' = w := by
  have h0 := hm.1
  have h1 := hm.2
  have hb := hide (and_1 p)
  have h2 : 0 ≤ bits .and .i64 p 1 ∧ bits .and .i64 p 1 ≤ 1 := by rw [hb.out]; omega
  have s9 : bits .or .i64 (m * 2 % 256) 0 = m * 2 % 256 := by rw [or_comm, or_zero _ (by omega) (by omega)]
  have s10 : bits .or .i64 (m * 2 % 256) (bits .and .i64 p 1) = m * 2 % 256 + p % 2 := by rw [hb.out, or_add 1 _ _ (by omega) (by omega) (by omega) (by omega) (by omega) (by omega)]
  have s11 : bits .or .i64 (m / 2) 0 = m / 2 := by rw [or_comm, or_zero _ (by omega) (by omega)]
  have s12 : bits .or .i64 (m / 2) (bits .and .i64 p 1 * 128) = m / 2 + p % 2 * 128 := by rw [hb.out, or_comm, or_add 7 _ _ (by omega) (by omega) (by omega) (by omega) (by omega) (by omega)]; omega
  rcases hop with rfl | rfl | rfl | rfl
  all_goals
    go_enter Tryz.func140, Tryz.ntmps140
    go_wp2_with (first | (go_at_call 32; refine (byte_any _ _).mono ?_; rintro e w' ⟨rfl, rfl⟩) | (go_at_call 136; refine (aput_any _ _ _ _ (by repeat (first | assumption | exact isByte_mod _ | exact nzOf_byte _ _ | refine setOf_byte _ ?_ ?_ | (unfold IsFlag; omega))) (by unfold IsFlag; omega)).mono ?_; rintro e w' ⟨rfl, rfl⟩) | (go_at_call 93; refine (nz_any _ _ _).mono ?_; rintro e w' ⟨rfl, rfl⟩))
    go_ret2
    first
      | exact ⟨ret_two rfl (by rw [n_of m hm, nzOf_set _ _ hp (.inl rfl)]; rfl), rfl⟩
      | exact ⟨ret_two rfl (by rw [c_of m, nzOf_set _ _ hp (.inl rfl)]; rfl), rfl⟩
theorem tenUp_low {s : Int} (h : s ≤ 9) : tenUp s = s ∧ carryUp s = 0 := by
  have e : tenUp s = s := by unfold tenUp; rw [if_neg (by omega)]
  exact ⟨e, by unfold carryUp; rw [e, if_neg (by omega)]⟩
theorem tenUp_high {s : Int} (h : 9 < s) : tenUp s = s + 6 ∧ carryUp s = 1 := by
  have e : tenUp s = s + 6 := by unfold tenUp; rw [if_pos h]
  exact ⟨e, by unfold carryUp; rw [e, if_pos (by omega)]⟩
theorem tenDown_high {s : Int} (h : 0 ≤ s) : tenDown s = s ∧ carryDown s = 0 :=
  ⟨by unfold tenDown; rw [if_neg (by omega)], by unfold carryDown; rw [if_neg (by omega)]⟩
theorem tenDown_low {s : Int} (h : s < 0) : tenDown s = s - 6 ∧ carryDown s = 1 :=
  ⟨by unfold tenDown; rw [if_pos h], by unfold carryDown; rw [if_pos h]⟩
theorem carryUp_01 (s : Int) : 0 ≤ carryUp s ∧ carryUp s ≤ 1 := by unfold carryUp; split <;> omega
theorem carryUp_is (s : Int) : (carryUp s == 1) = decide (15 < tenUp s) := by
  unfold carryUp; by_cases h : 15 < tenUp s
  · rw [if_pos h]; simp [h]
  · rw [if_neg h]; simp [h]
theorem carryDown_is (s : Int) : (carryDown s == 0) = decide (0 ≤ s) := by
  unfold carryDown; by_cases h : s < 0
  · have : ¬ 0 ≤ s := by omega
    rw [if_pos h]; simp [this]
  · have : 0 ≤ s := by omega
    rw [if_neg h]; simp [this]
theorem carryDown_01 (s : Int) : 0 ≤ carryDown s ∧ carryDown s ≤ 1 := by unfold carryDown; split <;> omega
theorem digitUp_any (x y c : Int) (b : Nat) (w : World) (h0 : 0 ≤ c) (h1 : c ≤ 1) (hv : w.heap[b]? = some (.cells #[.int .i64 c] 3 (0, 0))) :
    Calls Tryz.prog 192 #[.int .i64 x, .int .i64 y, .pointer (some ⟨b, 0, none⟩)] w fun e w' =>
      e = .returned (.int .i64 (tenUp (x % 16 + y % 16 + c) % 16)) ∧ w'.heap[b]? = some (.cells #[.int .i64 (carryUp (x % 16 + y % 16 + c))] 3 (0, 0)) ∧ Below b w w' := by
  have hx := hide (and_15 x)
  have hy := hide (and_15 y)
  have bx : 0 ≤ bits .and .i64 x 15 ∧ bits .and .i64 x 15 ≤ 15 := by rw [hx.out]; omega
  have by' : 0 ≤ bits .and .i64 y 15 ∧ bits .and .i64 y 15 ≤ 15 := by rw [hy.out]; omega
  rw [← hx.out, ← hy.out]
  have cell := cell_of_one hv
  have free := free_of_one hv
  have up : bits .and .i64 x 15 + bits .and .i64 y 15 + c ≤ 9 ∨ 9 < bits .and .i64 x 15 + bits .and .i64 y 15 + c := by omega
  rcases up with up | up
  · have e := hide (tenUp_low up)
    go_enter Tryz.func192, Tryz.ntmps192
    go_wp2
    go_ret
    exact ⟨ret_int (by rw [e.out.1, and_15]), by rw [e.out.2]; exact one_setCell hv, (Below.refl b w).setCell (Nat.le_refl _) _⟩
  · have e := hide (tenUp_high up)
    go_enter Tryz.func192, Tryz.ntmps192
    go_wp2
    go_ret
    exact ⟨ret_int (by rw [e.out.1, and_15]), by rw [e.out.2]; exact one_setCell (one_setCell hv), ((Below.refl b w).setCell (Nat.le_refl _) _).setCell (Nat.le_refl _) _⟩
theorem digitDown_any (x y c : Int) (b : Nat) (w : World) (h0 : 0 ≤ c) (h1 : c ≤ 1) (hv : w.heap[b]? = some (.cells #[.int .i64 c] 3 (0, 0))) :
    Calls Tryz.prog 193 #[.int .i64 x, .int .i64 y, .pointer (some ⟨b, 0, none⟩)] w fun e w' =>
      e = .returned (.int .i64 (tenDown (x % 16 - y % 16 - c) % 16)) ∧ w'.heap[b]? = some (.cells #[.int .i64 (carryDown (x % 16 - y % 16 - c))] 3 (0, 0)) ∧ Below b w w' := by
  have hx := hide (and_15 x)
  have hy := hide (and_15 y)
  have bx : 0 ≤ bits .and .i64 x 15 ∧ bits .and .i64 x 15 ≤ 15 := by rw [hx.out]; omega
  have by' : 0 ≤ bits .and .i64 y 15 ∧ bits .and .i64 y 15 ≤ 15 := by rw [hy.out]; omega
  rw [← hx.out, ← hy.out]
  have cell := cell_of_one hv
  have free := free_of_one hv
  have up : 0 ≤ bits .and .i64 x 15 - bits .and .i64 y 15 - c ∨ bits .and .i64 x 15 - bits .and .i64 y 15 - c < 0 := by omega
  rcases up with up | up
  · have e := hide (tenDown_high up)
    go_enter Tryz.func193, Tryz.ntmps193
    go_wp2
    go_ret
    exact ⟨ret_int (by rw [e.out.1, and_15]), by rw [e.out.2]; exact one_setCell hv, (Below.refl b w).setCell (Nat.le_refl _) _⟩
  · have e := hide (tenDown_low up)
    go_enter Tryz.func193, Tryz.ntmps193
    go_wp2
    go_ret
    exact ⟨ret_int (by rw [e.out.1, and_15]), by rw [e.out.2]; exact one_setCell (one_setCell hv), ((Below.refl b w).setCell (Nat.le_refl _) _).setCell (Nat.le_refl _) _⟩
theorem addTen_any (a m p : Int) (w : World) (ha : IsByte a) (hm : IsByte m) (hp : IsByte p) :
    Calls Tryz.prog 169 #[.int .i64 a, .int .i64 m, .int .i64 p] w fun e w' => e = .returned (.tuple #[.int .i64 (adcTen a m p).1, .int .i64 (adcTen a m p).2]) ∧ Below w.heap.size w w' := by
  have a0 := ha.1
  have a1 := ha.2
  have m0 := hm.1
  have m1 := hm.2
  have hb := hide (and_1 p)
  go_enter Tryz.func169, Tryz.ntmps169
  go_wp2_with fail
  have h1 : 0 ≤ bits .and .i64 p 1 ∧ bits .and .i64 p 1 ≤ 1 := by rw [hb.out]; omega
  refine (digitUp_any a m _ _ _ h1.1 h1.2 (heap_alloc_new _ _)).mono ?_
  rintro e w1 ⟨rfl, hv, b1⟩
  rw [hb.out] at hv b1 ⊢
  have B1 : Below w.heap.size w w1 := ((Below.refl _ w).alloc (Nat.le_refl _) _).trans b1
  generalize hl : a % 16 + m % 16 + p % 2 = l at *
  have hc := carryUp_01 l
  have HL := hide hl
  clear hl b1
  go_wp2_with fail
  refine (digitUp_any _ _ _ _ _ hc.1 hc.2 hv).mono ?_
  rintro e w2 ⟨rfl, hv2, b2⟩
  have B2 : Below w.heap.size w w2 := B1.trans b2
  have ea : a / 16 % 16 = a / 16 := by omega
  have em : m / 16 % 16 = m / 16 := by omega
  rw [ea, em] at hv2 ⊢
  generalize hh : a / 16 + m / 16 + carryUp l = h at *
  have HH := hide hh
  clear hh b2 B1 hv ea em
  have cell := cell_of_one hv2
  have r1 : 0 ≤ tenUp l % 16 ∧ tenUp l % 16 ≤ 15 := by omega
  have r2 : 0 ≤ tenUp h % 16 ∧ tenUp h % 16 ≤ 15 := by omega
  have er := hide (or_add 4 (tenUp h % 16 * 16) (tenUp l % 16) (by omega) (by omega) (by omega) (by omega) (by omega) (by omega))
  have ec := hide (carryUp_is h)
  go_wp2_with (first | (go_at_call 136; refine (aput_any _ _ _ _ (by repeat (first | assumption | exact isByte_mod _ | exact nzOf_byte _ _ | refine setOf_byte _ ?_ ?_ | (unfold IsFlag; omega))) (by unfold IsFlag; omega)).mono ?_; rintro e w' ⟨rfl, rfl⟩) | (go_at_call 93; refine (nz_any _ _ _).mono ?_; rintro e w' ⟨rfl, rfl⟩))
  go_ret2
  refine ⟨ret_two ?_ ?_, B2⟩
  · rw [er.out]; unfold adcTen; simp only [HL.out, HH.out]
  · rw [er.out, ec.out, nzOf_set _ _ hp (.inl rfl)]; unfold adcTen; simp only [HL.out, HH.out]
theorem subTen_any (a m p : Int) (w : World) (ha : IsByte a) (hm : IsByte m) (hp : IsByte p) :
    Calls Tryz.prog 170 #[.int .i64 a, .int .i64 m, .int .i64 p] w fun e w' => e = .returned (.tuple #[.int .i64 (sbcTen a m p).1, .int .i64 (sbcTen a m p).2]) ∧ Below w.heap.size w w' := by
  have a0 := ha.1
  have a1 := ha.2
  have m0 := hm.1
  have m1 := hm.2
  have hb := hide (and_1 p)
  have h0 : 0 ≤ bits .and .i64 p 1 ∧ bits .and .i64 p 1 ≤ 1 := by rw [hb.out]; omega
  have h1 : 0 ≤ 1 - bits .and .i64 p 1 ∧ 1 - bits .and .i64 p 1 ≤ 1 := by rw [hb.out]; omega
  have hl0 : a % 16 - m % 16 - (1 - p % 2) = a % 16 - m % 16 - 1 + p % 2 := by omega
  have HL0 := hide hl0
  clear hl0
  go_enter Tryz.func170, Tryz.ntmps170
  go_wp2_with fail
  refine (digitDown_any a m _ _ _ h1.1 h1.2 (heap_alloc_new _ _)).mono ?_
  rintro e w1 ⟨rfl, hv, b1⟩
  rw [hb.out] at hv b1 ⊢
  rw [HL0.out] at hv ⊢
  have B1 : Below w.heap.size w w1 := ((Below.refl _ w).alloc (Nat.le_refl _) _).trans b1
  generalize hl : a % 16 - m % 16 - 1 + p % 2 = l at *
  have hc := carryDown_01 l
  have HL := hide hl
  clear hl b1 h0 h1
  go_wp2_with fail
  refine (digitDown_any _ _ _ _ _ hc.1 hc.2 hv).mono ?_
  rintro e w2 ⟨rfl, hv2, b2⟩
  have B2 : Below w.heap.size w w2 := B1.trans b2
  have ea : a / 16 % 16 = a / 16 := by omega
  have em : m / 16 % 16 = m / 16 := by omega
  rw [ea, em] at hv2 ⊢
  generalize hh : a / 16 - m / 16 - carryDown l = h at *
  have HH := hide hh
  clear hh b2 B1 hv ea em
  have cell := cell_of_one hv2
  have r1 : 0 ≤ tenDown l % 16 ∧ tenDown l % 16 ≤ 15 := by omega
  have r2 : 0 ≤ tenDown h % 16 ∧ tenDown h % 16 ≤ 15 := by omega
  have er := hide (or_add 4 (tenDown h % 16 * 16) (tenDown l % 16) (by omega) (by omega) (by omega) (by omega) (by omega) (by omega))
  have ec := hide (carryDown_is h)
  go_wp2_with (first | (go_at_call 136; refine (aput_any _ _ _ _ (by repeat (first | assumption | exact isByte_mod _ | exact nzOf_byte _ _ | refine setOf_byte _ ?_ ?_ | (unfold IsFlag; omega))) (by unfold IsFlag; omega)).mono ?_; rintro e w' ⟨rfl, rfl⟩) | (go_at_call 93; refine (nz_any _ _ _).mono ?_; rintro e w' ⟨rfl, rfl⟩))
  go_ret2
  refine ⟨ret_two ?_ ?_, B2⟩
  · rw [er.out]; unfold sbcTen; simp only [HL.out, HH.out]
  · rw [er.out, ec.out]; unfold sbcTen; simp only [HL.out, HH.out]
end Go.Proofs.YtoijhhbiknhlnaaGreatDoor.A2
