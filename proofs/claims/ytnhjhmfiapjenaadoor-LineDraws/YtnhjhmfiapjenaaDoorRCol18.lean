/- The document's own colour of a sprite's pixel: its contract. -/
import Derived.Test.YtnhjhmfiapjenaaDoorRef18
namespace Go.Proofs.YtnhjhmfiapjenaaDoor
open Go.RowKit
set_option linter.unusedVariables false

theorem dot_next (G : Int → Int) (C r q : Int) (p : Nat) : colS G C r q (p + 1) = colS G C r q p + bitOf (G (lieS C r q + 16 * (p : Int))) (15 - q % 16) * 2 ^ p := rfl
set_option maxHeartbeats 2000000 in
theorem rcol_ff (c d : Nat) (f : Nat → Int) (po rd st lo bu : Int) (w : World) (h : HasR w c d f po rd st lo bu) (G : Int → Int) (hG : Hid (wordAt f = G)) (X Y C W H P y i d0 r q v : Int) (fr : Bool) (hC0 : 0 ≤ C) (hC1 : C < 1024) (hr0 : 0 ≤ r) (hr1 : r < 64) (hq0 : 0 ≤ q) (hq1 : q < 32) (hy : y - Y = r)   (bY : -64 ≤ Y ∧ Y < 960) (bW : W = 16 ∨ W = 32) (bH : H = 16 ∨ H = 32 ∨ H = 64) (by0 : -64 ≤ y ∧ y < 2000) (bi : 0 ≤ i ∧ i < 32) (hv : Hid (colS G C r q 4 = v)) :
    Calls Tryd.prog 48 #[.pointer (some ⟨c, 0, none⟩), .agg #[.int .i64 X, .int .i64 Y, .int .i64 C, .int .i64 W, .int .i64 H, .int .i64 P, .bool fr, .bool false, .bool false], .int .i64 y, .int .i64 q] w fun e w' => e = .returned (.int .i64 v) ∧ Below w.heap.size w w' := by
  have HM := hide h
  clear h
  have t1 : Int.tdiv r 16 = r / 16 := Int.tdiv_eq_ediv_of_nonneg hr0
  have t2 : Int.tmod r 16 = r % 16 := Int.tmod_eq_emod_of_nonneg hr0
  have t3 : Int.tdiv q 16 = q / 16 := Int.tdiv_eq_ediv_of_nonneg hq0
  have t4 : Int.tmod q 16 = q % 16 := Int.tmod_eq_emod_of_nonneg hq0
  have BA := hide ((Below.refl _ w).alloc (Nat.le_refl _) (.cells #[.int .i64 X, .int .i64 Y, .int .i64 C, .int .i64 W, .int .i64 H, .int .i64 P, .bool fr, .bool false, .bool false] 99))
  go_enter Tryd.func48, Tryd.ntmps48
  go_wp2_with fail
  refine under_name fun wa hwa => ?_
  have NA := hide (show Below w.heap.size w wa by rw [hwa]; exact BA.out)
  clear hwa BA
  have MA := hide (HM.out.next NA.out)
  clear HM
  obtain ⟨fi, hfi⟩ : ∃ fi, 64 * (C + r / 16 * 2 + q / 16) + r % 16 = fi := ⟨_, rfl⟩
  rw [hfi]
  have HF := hide (show lieS C r q = fi from hfi)
  have bf : 0 ≤ fi ∧ fi < 100000 := by omega
  clear hfi
  go_loopw [12, 13] (fun sc sp wr => ∃ p : Nat, p ≤ 4 ∧ sp = .int .i64 (p : Int) ∧ sc = .int .i64 (colS G C r q p) ∧ wr = wa) (fun _ sp _ => 4 - (intOf sp).toNat)
  case atStart => exact ⟨0, Nat.zero_le _, rfl, rfl, rfl⟩
  case round =>
    obtain ⟨p, hp4, rfl, rfl, hw⟩ := hrel
    subst hw
    by_cases hlp : p < 4
    · have HN := hide (dot_next G C r q p)
      have hb := colS_le G C r q p hp4
      obtain ⟨x, hx⟩ : ∃ x, wordAt f (fi + 16 * (p : Int)) = x := ⟨_, rfl⟩
      have KW := hide (rword_is c d f po rd st lo bu _ MA.out (fi + 16 * (p : Int)) x hx)
      rw [HF.out, ← congrFun hG.out (fi + 16 * (p : Int)), hx] at HN
      clear hx
      obtain ⟨bt, eb⟩ : ∃ bt, bitOf x (15 - q % 16) = bt := ⟨_, rfl⟩
      have hb01 := bitOf_01 x (15 - q % 16)
      have KB := hide (fun u => rbit_any x (15 - q % 16) u)
      have KP := hide (fun u => power_any (p : Int) u (by omega) (by omega))
      rw [eb] at hb01 HN KB
      rw [Int.toNat_natCast] at KP
      clear eb
      obtain ⟨mm, em⟩ : ∃ m, bt * 2 ^ p = m := ⟨_, rfl⟩
      obtain ⟨pp, ep⟩ : ∃ m, (2 : Int) ^ p = m := ⟨_, rfl⟩
      have hm : 0 ≤ mm ∧ mm ≤ 8 := by
        have e8 : (2 : Int) ^ p ≤ 8 ∧ (0 : Int) ≤ 2 ^ p := by rcases (show p = 0 ∨ p = 1 ∨ p = 2 ∨ p = 3 by omega) with rfl | rfl | rfl | rfl <;> decide
        rcases (show bt = 0 ∨ bt = 1 by omega) with rfl | rfl <;> rw [← em] <;> omega
      rw [em] at HN
      rw [ep] at em KP
      have ew : wrap64 (bt * pp) = mm := by rw [em]; unfold wrap64; omega
      have em2 := hide em
      generalize colS G C r q p = v0 at *
      clear em ep
      go_wp2_with (first
        | (go_at_call 46; refine KW.out.mono ?_; rintro e w' ⟨rfl, hw⟩; subst w')
        | (go_at_call 45; refine (KB.out _).mono ?_; rintro e w' ⟨rfl, hw⟩; subst w')
        | (go_at_call 57; refine (KP.out _).mono ?_; rintro e w' ⟨rfl, hw⟩; subst w'))
      go_roundw
      case rel => exact ⟨p + 1, by omega, by go_num, by rw [HN.out], trivial⟩
      case measure => simp [intOf]; omega
    · obtain rfl : p = 4 := by omega
      go_wp2_with fail
      go_ret
      exact ⟨ret_int hv.out, NA.out⟩
set_option maxHeartbeats 2000000 in
theorem rcol_ft (c d : Nat) (f : Nat → Int) (po rd st lo bu : Int) (w : World) (h : HasR w c d f po rd st lo bu) (G : Int → Int) (hG : Hid (wordAt f = G)) (X Y C W H P y i d0 r q v : Int) (fr : Bool) (hC0 : 0 ≤ C) (hC1 : C < 1024) (hr0 : 0 ≤ r) (hr1 : r < 64) (hq0 : 0 ≤ q) (hq1 : q < 32) (hy : y - Y = d0) (hr : H - 1 - d0 = r) (bd0 : 0 ≤ d0 ∧ d0 < 64)  (bY : -64 ≤ Y ∧ Y < 960) (bW : W = 16 ∨ W = 32) (bH : H = 16 ∨ H = 32 ∨ H = 64) (by0 : -64 ≤ y ∧ y < 2000) (bi : 0 ≤ i ∧ i < 32) (hv : Hid (colS G C r q 4 = v)) :
    Calls Tryd.prog 48 #[.pointer (some ⟨c, 0, none⟩), .agg #[.int .i64 X, .int .i64 Y, .int .i64 C, .int .i64 W, .int .i64 H, .int .i64 P, .bool fr, .bool false, .bool true], .int .i64 y, .int .i64 q] w fun e w' => e = .returned (.int .i64 v) ∧ Below w.heap.size w w' := by
  have HM := hide h
  clear h
  have t1 : Int.tdiv r 16 = r / 16 := Int.tdiv_eq_ediv_of_nonneg hr0
  have t2 : Int.tmod r 16 = r % 16 := Int.tmod_eq_emod_of_nonneg hr0
  have t3 : Int.tdiv q 16 = q / 16 := Int.tdiv_eq_ediv_of_nonneg hq0
  have t4 : Int.tmod q 16 = q % 16 := Int.tmod_eq_emod_of_nonneg hq0
  have BA := hide ((Below.refl _ w).alloc (Nat.le_refl _) (.cells #[.int .i64 X, .int .i64 Y, .int .i64 C, .int .i64 W, .int .i64 H, .int .i64 P, .bool fr, .bool false, .bool true] 99))
  go_enter Tryd.func48, Tryd.ntmps48
  go_wp2_with fail
  refine under_name fun wa hwa => ?_
  have NA := hide (show Below w.heap.size w wa by rw [hwa]; exact BA.out)
  clear hwa BA
  have MA := hide (HM.out.next NA.out)
  clear HM
  obtain ⟨fi, hfi⟩ : ∃ fi, 64 * (C + r / 16 * 2 + q / 16) + r % 16 = fi := ⟨_, rfl⟩
  rw [hfi]
  have HF := hide (show lieS C r q = fi from hfi)
  have bf : 0 ≤ fi ∧ fi < 100000 := by omega
  clear hfi
  go_loopw [12, 13] (fun sc sp wr => ∃ p : Nat, p ≤ 4 ∧ sp = .int .i64 (p : Int) ∧ sc = .int .i64 (colS G C r q p) ∧ wr = wa) (fun _ sp _ => 4 - (intOf sp).toNat)
  case atStart => exact ⟨0, Nat.zero_le _, rfl, rfl, rfl⟩
  case round =>
    obtain ⟨p, hp4, rfl, rfl, hw⟩ := hrel
    subst hw
    by_cases hlp : p < 4
    · have HN := hide (dot_next G C r q p)
      have hb := colS_le G C r q p hp4
      obtain ⟨x, hx⟩ : ∃ x, wordAt f (fi + 16 * (p : Int)) = x := ⟨_, rfl⟩
      have KW := hide (rword_is c d f po rd st lo bu _ MA.out (fi + 16 * (p : Int)) x hx)
      rw [HF.out, ← congrFun hG.out (fi + 16 * (p : Int)), hx] at HN
      clear hx
      obtain ⟨bt, eb⟩ : ∃ bt, bitOf x (15 - q % 16) = bt := ⟨_, rfl⟩
      have hb01 := bitOf_01 x (15 - q % 16)
      have KB := hide (fun u => rbit_any x (15 - q % 16) u)
      have KP := hide (fun u => power_any (p : Int) u (by omega) (by omega))
      rw [eb] at hb01 HN KB
      rw [Int.toNat_natCast] at KP
      clear eb
      obtain ⟨mm, em⟩ : ∃ m, bt * 2 ^ p = m := ⟨_, rfl⟩
      obtain ⟨pp, ep⟩ : ∃ m, (2 : Int) ^ p = m := ⟨_, rfl⟩
      have hm : 0 ≤ mm ∧ mm ≤ 8 := by
        have e8 : (2 : Int) ^ p ≤ 8 ∧ (0 : Int) ≤ 2 ^ p := by rcases (show p = 0 ∨ p = 1 ∨ p = 2 ∨ p = 3 by omega) with rfl | rfl | rfl | rfl <;> decide
        rcases (show bt = 0 ∨ bt = 1 by omega) with rfl | rfl <;> rw [← em] <;> omega
      rw [em] at HN
      rw [ep] at em KP
      have ew : wrap64 (bt * pp) = mm := by rw [em]; unfold wrap64; omega
      have em2 := hide em
      generalize colS G C r q p = v0 at *
      clear em ep
      go_wp2_with (first
        | (go_at_call 46; refine KW.out.mono ?_; rintro e w' ⟨rfl, hw⟩; subst w')
        | (go_at_call 45; refine (KB.out _).mono ?_; rintro e w' ⟨rfl, hw⟩; subst w')
        | (go_at_call 57; refine (KP.out _).mono ?_; rintro e w' ⟨rfl, hw⟩; subst w'))
      go_roundw
      case rel => exact ⟨p + 1, by omega, by go_num, by rw [HN.out], trivial⟩
      case measure => simp [intOf]; omega
    · obtain rfl : p = 4 := by omega
      go_wp2_with fail
      go_ret
      exact ⟨ret_int hv.out, NA.out⟩
set_option maxHeartbeats 2000000 in
theorem rcol_tf (c d : Nat) (f : Nat → Int) (po rd st lo bu : Int) (w : World) (h : HasR w c d f po rd st lo bu) (G : Int → Int) (hG : Hid (wordAt f = G)) (X Y C W H P y i d0 r q v : Int) (fr : Bool) (hC0 : 0 ≤ C) (hC1 : C < 1024) (hr0 : 0 ≤ r) (hr1 : r < 64) (hq0 : 0 ≤ q) (hq1 : q < 32) (hy : y - Y = r)  (hqq : W - 1 - i = q) (bY : -64 ≤ Y ∧ Y < 960) (bW : W = 16 ∨ W = 32) (bH : H = 16 ∨ H = 32 ∨ H = 64) (by0 : -64 ≤ y ∧ y < 2000) (bi : 0 ≤ i ∧ i < 32) (hv : Hid (colS G C r q 4 = v)) :
    Calls Tryd.prog 48 #[.pointer (some ⟨c, 0, none⟩), .agg #[.int .i64 X, .int .i64 Y, .int .i64 C, .int .i64 W, .int .i64 H, .int .i64 P, .bool fr, .bool true, .bool false], .int .i64 y, .int .i64 i] w fun e w' => e = .returned (.int .i64 v) ∧ Below w.heap.size w w' := by
  have HM := hide h
  clear h
  have t1 : Int.tdiv r 16 = r / 16 := Int.tdiv_eq_ediv_of_nonneg hr0
  have t2 : Int.tmod r 16 = r % 16 := Int.tmod_eq_emod_of_nonneg hr0
  have t3 : Int.tdiv q 16 = q / 16 := Int.tdiv_eq_ediv_of_nonneg hq0
  have t4 : Int.tmod q 16 = q % 16 := Int.tmod_eq_emod_of_nonneg hq0
  have BA := hide ((Below.refl _ w).alloc (Nat.le_refl _) (.cells #[.int .i64 X, .int .i64 Y, .int .i64 C, .int .i64 W, .int .i64 H, .int .i64 P, .bool fr, .bool true, .bool false] 99))
  go_enter Tryd.func48, Tryd.ntmps48
  go_wp2_with fail
  refine under_name fun wa hwa => ?_
  have NA := hide (show Below w.heap.size w wa by rw [hwa]; exact BA.out)
  clear hwa BA
  have MA := hide (HM.out.next NA.out)
  clear HM
  obtain ⟨fi, hfi⟩ : ∃ fi, 64 * (C + r / 16 * 2 + q / 16) + r % 16 = fi := ⟨_, rfl⟩
  rw [hfi]
  have HF := hide (show lieS C r q = fi from hfi)
  have bf : 0 ≤ fi ∧ fi < 100000 := by omega
  clear hfi
  go_loopw [12, 13] (fun sc sp wr => ∃ p : Nat, p ≤ 4 ∧ sp = .int .i64 (p : Int) ∧ sc = .int .i64 (colS G C r q p) ∧ wr = wa) (fun _ sp _ => 4 - (intOf sp).toNat)
  case atStart => exact ⟨0, Nat.zero_le _, rfl, rfl, rfl⟩
  case round =>
    obtain ⟨p, hp4, rfl, rfl, hw⟩ := hrel
    subst hw
    by_cases hlp : p < 4
    · have HN := hide (dot_next G C r q p)
      have hb := colS_le G C r q p hp4
      obtain ⟨x, hx⟩ : ∃ x, wordAt f (fi + 16 * (p : Int)) = x := ⟨_, rfl⟩
      have KW := hide (rword_is c d f po rd st lo bu _ MA.out (fi + 16 * (p : Int)) x hx)
      rw [HF.out, ← congrFun hG.out (fi + 16 * (p : Int)), hx] at HN
      clear hx
      obtain ⟨bt, eb⟩ : ∃ bt, bitOf x (15 - q % 16) = bt := ⟨_, rfl⟩
      have hb01 := bitOf_01 x (15 - q % 16)
      have KB := hide (fun u => rbit_any x (15 - q % 16) u)
      have KP := hide (fun u => power_any (p : Int) u (by omega) (by omega))
      rw [eb] at hb01 HN KB
      rw [Int.toNat_natCast] at KP
      clear eb
      obtain ⟨mm, em⟩ : ∃ m, bt * 2 ^ p = m := ⟨_, rfl⟩
      obtain ⟨pp, ep⟩ : ∃ m, (2 : Int) ^ p = m := ⟨_, rfl⟩
      have hm : 0 ≤ mm ∧ mm ≤ 8 := by
        have e8 : (2 : Int) ^ p ≤ 8 ∧ (0 : Int) ≤ 2 ^ p := by rcases (show p = 0 ∨ p = 1 ∨ p = 2 ∨ p = 3 by omega) with rfl | rfl | rfl | rfl <;> decide
        rcases (show bt = 0 ∨ bt = 1 by omega) with rfl | rfl <;> rw [← em] <;> omega
      rw [em] at HN
      rw [ep] at em KP
      have ew : wrap64 (bt * pp) = mm := by rw [em]; unfold wrap64; omega
      have em2 := hide em
      generalize colS G C r q p = v0 at *
      clear em ep
      go_wp2_with (first
        | (go_at_call 46; refine KW.out.mono ?_; rintro e w' ⟨rfl, hw⟩; subst w')
        | (go_at_call 45; refine (KB.out _).mono ?_; rintro e w' ⟨rfl, hw⟩; subst w')
        | (go_at_call 57; refine (KP.out _).mono ?_; rintro e w' ⟨rfl, hw⟩; subst w'))
      go_roundw
      case rel => exact ⟨p + 1, by omega, by go_num, by rw [HN.out], trivial⟩
      case measure => simp [intOf]; omega
    · obtain rfl : p = 4 := by omega
      go_wp2_with fail
      go_ret
      exact ⟨ret_int hv.out, NA.out⟩
set_option maxHeartbeats 2000000 in
theorem rcol_tt (c d : Nat) (f : Nat → Int) (po rd st lo bu : Int) (w : World) (h : HasR w c d f po rd st lo bu) (G : Int → Int) (hG : Hid (wordAt f = G)) (X Y C W H P y i d0 r q v : Int) (fr : Bool) (hC0 : 0 ≤ C) (hC1 : C < 1024) (hr0 : 0 ≤ r) (hr1 : r < 64) (hq0 : 0 ≤ q) (hq1 : q < 32) (hy : y - Y = d0) (hr : H - 1 - d0 = r) (bd0 : 0 ≤ d0 ∧ d0 < 64) (hqq : W - 1 - i = q) (bY : -64 ≤ Y ∧ Y < 960) (bW : W = 16 ∨ W = 32) (bH : H = 16 ∨ H = 32 ∨ H = 64) (by0 : -64 ≤ y ∧ y < 2000) (bi : 0 ≤ i ∧ i < 32) (hv : Hid (colS G C r q 4 = v)) :
    Calls Tryd.prog 48 #[.pointer (some ⟨c, 0, none⟩), .agg #[.int .i64 X, .int .i64 Y, .int .i64 C, .int .i64 W, .int .i64 H, .int .i64 P, .bool fr, .bool true, .bool true], .int .i64 y, .int .i64 i] w fun e w' => e = .returned (.int .i64 v) ∧ Below w.heap.size w w' := by
  have HM := hide h
  clear h
  have t1 : Int.tdiv r 16 = r / 16 := Int.tdiv_eq_ediv_of_nonneg hr0
  have t2 : Int.tmod r 16 = r % 16 := Int.tmod_eq_emod_of_nonneg hr0
  have t3 : Int.tdiv q 16 = q / 16 := Int.tdiv_eq_ediv_of_nonneg hq0
  have t4 : Int.tmod q 16 = q % 16 := Int.tmod_eq_emod_of_nonneg hq0
  have BA := hide ((Below.refl _ w).alloc (Nat.le_refl _) (.cells #[.int .i64 X, .int .i64 Y, .int .i64 C, .int .i64 W, .int .i64 H, .int .i64 P, .bool fr, .bool true, .bool true] 99))
  go_enter Tryd.func48, Tryd.ntmps48
  go_wp2_with fail
  refine under_name fun wa hwa => ?_
  have NA := hide (show Below w.heap.size w wa by rw [hwa]; exact BA.out)
  clear hwa BA
  have MA := hide (HM.out.next NA.out)
  clear HM
  obtain ⟨fi, hfi⟩ : ∃ fi, 64 * (C + r / 16 * 2 + q / 16) + r % 16 = fi := ⟨_, rfl⟩
  rw [hfi]
  have HF := hide (show lieS C r q = fi from hfi)
  have bf : 0 ≤ fi ∧ fi < 100000 := by omega
  clear hfi
  go_loopw [12, 13] (fun sc sp wr => ∃ p : Nat, p ≤ 4 ∧ sp = .int .i64 (p : Int) ∧ sc = .int .i64 (colS G C r q p) ∧ wr = wa) (fun _ sp _ => 4 - (intOf sp).toNat)
  case atStart => exact ⟨0, Nat.zero_le _, rfl, rfl, rfl⟩
  case round =>
    obtain ⟨p, hp4, rfl, rfl, hw⟩ := hrel
    subst hw
    by_cases hlp : p < 4
    · have HN := hide (dot_next G C r q p)
      have hb := colS_le G C r q p hp4
      obtain ⟨x, hx⟩ : ∃ x, wordAt f (fi + 16 * (p : Int)) = x := ⟨_, rfl⟩
      have KW := hide (rword_is c d f po rd st lo bu _ MA.out (fi + 16 * (p : Int)) x hx)
      rw [HF.out, ← congrFun hG.out (fi + 16 * (p : Int)), hx] at HN
      clear hx
      obtain ⟨bt, eb⟩ : ∃ bt, bitOf x (15 - q % 16) = bt := ⟨_, rfl⟩
      have hb01 := bitOf_01 x (15 - q % 16)
      have KB := hide (fun u => rbit_any x (15 - q % 16) u)
      have KP := hide (fun u => power_any (p : Int) u (by omega) (by omega))
      rw [eb] at hb01 HN KB
      rw [Int.toNat_natCast] at KP
      clear eb
      obtain ⟨mm, em⟩ : ∃ m, bt * 2 ^ p = m := ⟨_, rfl⟩
      obtain ⟨pp, ep⟩ : ∃ m, (2 : Int) ^ p = m := ⟨_, rfl⟩
      have hm : 0 ≤ mm ∧ mm ≤ 8 := by
        have e8 : (2 : Int) ^ p ≤ 8 ∧ (0 : Int) ≤ 2 ^ p := by rcases (show p = 0 ∨ p = 1 ∨ p = 2 ∨ p = 3 by omega) with rfl | rfl | rfl | rfl <;> decide
        rcases (show bt = 0 ∨ bt = 1 by omega) with rfl | rfl <;> rw [← em] <;> omega
      rw [em] at HN
      rw [ep] at em KP
      have ew : wrap64 (bt * pp) = mm := by rw [em]; unfold wrap64; omega
      have em2 := hide em
      generalize colS G C r q p = v0 at *
      clear em ep
      go_wp2_with (first
        | (go_at_call 46; refine KW.out.mono ?_; rintro e w' ⟨rfl, hw⟩; subst w')
        | (go_at_call 45; refine (KB.out _).mono ?_; rintro e w' ⟨rfl, hw⟩; subst w')
        | (go_at_call 57; refine (KP.out _).mono ?_; rintro e w' ⟨rfl, hw⟩; subst w'))
      go_roundw
      case rel => exact ⟨p + 1, by omega, by go_num, by rw [HN.out], trivial⟩
      case measure => simp [intOf]; omega
    · obtain rfl : p = 4 := by omega
      go_wp2_with fail
      go_ret
      exact ⟨ret_int hv.out, NA.out⟩
/-- The document's colour of a pixel of a sprite that is on the line. -/
theorem rcol_is (c d : Nat) (f : Nat → Int) (po rd st lo bu : Int) (w : World) (h : HasR w c d f po rd st lo bu) (G : Int → Int) (hG : wordAt f = G) (X Y C W H P y i : Int) (fr fx fy : Bool) (hC0 : 0 ≤ C) (hC1 : C < 1024) (bY : -64 ≤ Y ∧ Y < 960) (bW : W = 16 ∨ W = 32) (bH : H = 16 ∨ H = 32 ∨ H = 64) (hy0 : Y ≤ y) (hy1 : y < Y + H) (hi0 : 0 ≤ i) (hi1 : i < W) :
    Calls Tryd.prog 48 #[.pointer (some ⟨c, 0, none⟩), .agg #[.int .i64 X, .int .i64 Y, .int .i64 C, .int .i64 W, .int .i64 H, .int .i64 P, .bool fr, .bool fx, .bool fy], .int .i64 y, .int .i64 i] w fun e w' => e = .returned (.int .i64 (pixS G C W H fx fy (y - Y) i)) ∧ Below w.heap.size w w' := by
  cases fx <;> cases fy
  · exact rcol_ff c d f po rd st lo bu w h G (hide hG) X Y C W H P y i (y - Y) (y - Y) i _ fr hC0 hC1 (by omega) (by omega) hi0 (by omega) rfl bY bW bH (by omega) (by omega) (hide rfl)
  · exact rcol_ft c d f po rd st lo bu w h G (hide hG) X Y C W H P y i (y - Y) (H - 1 - (y - Y)) i _ fr hC0 hC1 (by omega) (by omega) hi0 (by omega) rfl rfl (by omega) bY bW bH (by omega) (by omega) (hide rfl)
  · exact rcol_tf c d f po rd st lo bu w h G (hide hG) X Y C W H P y i (y - Y) (y - Y) (W - 1 - i) _ fr hC0 hC1 (by omega) (by omega) (by omega) (by omega) rfl rfl bY bW bH (by omega) (by omega) (hide rfl)
  · exact rcol_tt c d f po rd st lo bu w h G (hide hG) X Y C W H P y i (y - Y) (H - 1 - (y - Y)) (W - 1 - i) _ fr hC0 hC1 (by omega) (by omega) (by omega) (by omega) rfl rfl (by omega) rfl bY bW bH (by omega) (by omega) (hide rfl)
end Go.Proofs.YtnhjhmfiapjenaaDoor
