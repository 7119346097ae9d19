/- Texts put together. -/
import Derived.Test.YtnoggfnidaifkaaGreatDoorRows
import Derived.Test.YtnoggfnidaifkaaGreatDoorConsoleNobodyJ15
import Derived.Test.YtnoggfnidaifkaaGreatDoorConsoleNobodyJ09
namespace Go.Proofs.YtnoggfnidaifkaaGreatDoor.L25
set_option maxRecDepth 20000
open C3
open Go.RowKit
set_option linter.unusedVariables false
set_option maxHeartbeats 2000000 in
theorem rom_26 (w : World) : Calls Tryz.prog 15 #[.slice none 0 0, .int .i64 0] w fun e w' => ∃ bs : List Int, bs.length = 8192 ∧ e = Ending.returned (.slice (some ⟨w.heap.size, 0, none⟩) 8192 8192) ∧ Bytes 5 w' w.heap.size bs ∧ Below w.heap.size w w' := by
  have hm := mk_bytes 8192 (by omega) w
  rw [show ((8192 : Nat) : Int) = (8192 : Int) from rfl] at hm
  obtain ⟨w1, hw1⟩ : ∃ w1, w1 = (w.alloc (.cells ((List.replicate 8192 (0 : Int)).map (Value.int .u8)).toArray 5)) := ⟨_, rfl⟩
  have B1 : Hid (Bytes 5 w1 w.heap.size (List.replicate 8192 0)) := by subst hw1; exact hide Bytes.made
  have L1 : Hid (Below w.heap.size w w1) := by subst hw1; exact hide ((Below.refl _ w).alloc (Nat.le_refl _) _)
  rw [← hw1] at hm
  clear hw1
  go_enter Tryz.func15, Tryz.ntmps15
  go_wp2_with fail
  refine wp_loop_rounds 1 ?_
  rw [rounds_succ]
  go_wp2
  go_loopw [7] (fun s7 wr => ∃ (j : Int) (bs : List Int), (j = 0 ∨ j = 1 ∨ j = 2 ∨ j = 3) ∧ s7 = .int .i64 j ∧ bs.length = 8192 ∧ Bytes 5 wr w.heap.size bs ∧ Below w.heap.size w wr) (fun s7 _ => (3 - intOf s7).toNat)
  case atStart => exact ⟨0, _, .inl rfl, rfl, List.length_replicate .., B1.out, L1.out⟩
  case round =>
    obtain ⟨j, bs, hj, rfl, hl, hb, bel⟩ := hrel
    rcases hj with rfl | rfl | rfl | rfl
    · skip
      obtain ⟨hc, c0, c1⟩ := hb.cell 8182 (by rw [hl]; decide)
      obtain ⟨hd, d0, d1⟩ := hb.cell 8183 (by rw [hl]; decide)
      have hf := hb.free 8182
      have hg := hb.free 8183
      have HB := hide hb
      have BL := hide bel
      clear hb bel
      go_wp2_with fail
      go_roundw
      case rel => exact ⟨1, _, by decide, by go_num, by first | (rw [List.length_set, List.length_set]; exact hl) | simpa using hl, (HB.out.put 8182 0 (by decide)).put 8183 224 (by decide), (BL.out.setCell (Nat.le_refl _) _).setCell (Nat.le_refl _) _⟩
      case measure => simp [intOf]
    · skip
      obtain ⟨hc, c0, c1⟩ := hb.cell 8184 (by rw [hl]; decide)
      obtain ⟨hd, d0, d1⟩ := hb.cell 8185 (by rw [hl]; decide)
      have hf := hb.free 8184
      have hg := hb.free 8185
      have HB := hide hb
      have BL := hide bel
      clear hb bel
      go_wp2_with fail
      go_roundw
      case rel => exact ⟨2, _, by decide, by go_num, by first | (rw [List.length_set, List.length_set]; exact hl) | simpa using hl, (HB.out.put 8184 0 (by decide)).put 8185 224 (by decide), (BL.out.setCell (Nat.le_refl _) _).setCell (Nat.le_refl _) _⟩
      case measure => simp [intOf]
    · skip
      obtain ⟨hc, c0, c1⟩ := hb.cell 8186 (by rw [hl]; decide)
      obtain ⟨hd, d0, d1⟩ := hb.cell 8187 (by rw [hl]; decide)
      have hf := hb.free 8186
      have hg := hb.free 8187
      have HB := hide hb
      have BL := hide bel
      clear hb bel
      go_wp2_with fail
      go_roundw
      case rel => exact ⟨3, _, by decide, by go_num, by first | (rw [List.length_set, List.length_set]; exact hl) | simpa using hl, (HB.out.put 8186 0 (by decide)).put 8187 224 (by decide), (BL.out.setCell (Nat.le_refl _) _).setCell (Nat.le_refl _) _⟩
      case measure => simp [intOf]
    · obtain ⟨hc, c0, c1⟩ := hb.cell 8190 (by rw [hl]; decide)
      obtain ⟨hd, d0, d1⟩ := hb.cell 8191 (by rw [hl]; decide)
      have hf := hb.free 8190
      have hg := hb.free 8191
      have HB := hide hb
      have BL := hide bel
      clear hb bel
      go_wp2_with fail
      go_ret
      exact ⟨_, by first | (rw [List.length_set, List.length_set]; exact hl) | simpa using hl, rfl, (HB.out.put 8190 0 (by decide)).put 8191 224 (by decide), (BL.out.setCell (Nat.le_refl _) _).setCell (Nat.le_refl _) _⟩
end Go.Proofs.YtnoggfnidaifkaaGreatDoor.L25
namespace Go.Proofs.YtnoggfnidaifkaaGreatDoor.B4
set_option maxRecDepth 20000
open C3
open Go.RowKit
set_option linter.unusedVariables false
theorem rmod4_any (l : Int) (w : World) : Calls Tryz.prog 119 #[.int .i64 l, .int .i64 4] w fun e w' => e = .returned (.int .i64 (l % 4)) ∧ w' = w := by
  obtain ⟨r, hr⟩ : ∃ r, r = Int.tmod l 4 := ⟨_, rfl⟩
  have r0 : -4 < r ∧ r < 4 ∧ l % 4 = if r < 0 then r + 4 else r := by
    rw [hr]
    have h1 := Int.tmod_lt_of_pos l (show (0 : Int) < 4 by decide)
    have h2 := Int.lt_tmod_of_pos l (show (0 : Int) < 4 by decide)
    refine ⟨by omega, h1, ?_⟩
    have h3 := Int.tmod_eq_emod (a := l) (b := 4)
    have h4 := Int.mul_tdiv_add_tmod l 4
    split <;> omega
  obtain ⟨r1, r2, r3⟩ := r0
  rw [r3]
  have et : Int.tmod l 4 = r := hr.symm
  clear r3 hr
  by_cases h : r < 0
  · rw [if_pos h]
    go_enter Tryz.func119, Tryz.ntmps119
    go_wp2
    go_ret
    exact ⟨rfl, rfl⟩
  · rw [if_neg h]
    go_enter Tryz.func119, Tryz.ntmps119
    go_wp2
    go_ret
    exact ⟨rfl, rfl⟩
theorem rclass_any (n : Int) (w : World) : Calls Tryz.prog 262 #[.int .i64 n] w fun e w' => e = .returned (.tuple #[.int .i64 (kindOf n), .bool (known n)]) ∧ w' = w := by
  by_cases h : known n = true
  · unfold known at h
    rw [decide_eq_true_eq] at h
    rcases h with rfl | rfl | rfl | rfl | rfl | rfl | rfl | rfl | rfl | rfl | rfl
    all_goals
      go_enter Tryz.func262, Tryz.ntmps262
      go_wp2
      go_ret2
      exact ⟨rfl, rfl⟩
  · have e1 : known n = false := by simpa using h
    have e2 : kindOf n = 0 := by
      unfold known at e1; rw [decide_eq_false_iff_not] at e1
      unfold kindOf; rw [if_neg (by omega), if_neg (by omega)]
    rw [e1, e2]
    unfold known at e1
    rw [decide_eq_false_iff_not] at e1
    have n1 : ¬ n = 1 := by omega
    have n2 : ¬ n = 2 := by omega
    have n3 : ¬ n = 4 := by omega
    have n4 : ¬ n = 8 := by omega
    have n5 : ¬ n = 16 := by omega
    have n6 : ¬ n = 32 := by omega
    have n7 : ¬ n = 64 := by omega
    have n8 : ¬ n = 128 := by omega
    have n9 : ¬ n = 48 := by omega
    have nA : ¬ n = 96 := by omega
    have nB : ¬ n = 320 := by omega
    clear e1 e2 h
    go_enter Tryz.func262, Tryz.ntmps262
    go_wp2
    go_ret2
    exact ⟨rfl, rfl⟩
theorem rpage_any (n l p : Int) (w : World) : Calls Tryz.prog 214 #[.int .i64 n, .int .i64 l, .int .i64 p] w fun e w' => e = .returned (.int .i64 (pageOf n l p)) ∧ w' = w := by
  have c := hide (rclass_any n w)
  have cm := hide (rmod4_any l w)
  obtain ⟨q, hq⟩ : ∃ q, q = pageOf n l p := ⟨_, rfl⟩
  rw [← hq]
  have HQ := hide hq
  clear hq
  obtain ⟨kw, hkw⟩ : ∃ kw, kw = known n := ⟨_, rfl⟩
  obtain ⟨kd, hkd⟩ : ∃ kd, kd = kindOf n := ⟨_, rfl⟩
  rw [← hkw, ← hkd] at c
  have HKD := hide hkd
  have HKW := hide hkw
  clear hkd hkw
  cases kw with
  | false =>
    have HQ2 : Hid (q = -1) := hide (by rw [HQ.out]; unfold pageOf; rw [← HKW.out]; simp)
    go_enter Tryz.func214, Tryz.ntmps214
    go_wp2_with fail
    refine c.out.mono ?_
    rintro e w1 ⟨rfl, hw⟩
    subst w1
    go_wp2_with fail
    go_ret
    exact ⟨ret_int HQ2.out.symm, rfl⟩
  | true =>
    by_cases hp : p < 0
    · have HQ2 : Hid (q = -1) := hide (by rw [HQ.out]; unfold pageOf; rw [if_neg (by omega)])
      go_enter Tryz.func214, Tryz.ntmps214
      go_wp2_with fail
      refine c.out.mono ?_
      rintro e w1 ⟨rfl, hw⟩
      subst w1
      go_wp2_with fail
      go_ret
      exact ⟨ret_int HQ2.out.symm, rfl⟩
    · have hq : q = if p < 64 then p % lowSize kd n else if p < 128 then upFirst kd n l + p % upSize kd n else -1 := by
        rw [HQ.out]; unfold pageOf; rw [if_pos ⟨HKW.out.symm, by omega⟩, ← HKD.out]
      have HQ3 := hide hq
      have hkc := kind_cases HKW.out.symm
      rw [← HKD.out] at hkc
      have HN := hide (known_le HKW.out.symm)
      clear hq HQ
      by_cases h1 : 127 < p
      · have HQ2 : Hid (q = -1) := hide (by rw [HQ3.out, if_neg (by omega), if_neg (by omega)])
        go_enter Tryz.func214, Tryz.ntmps214
        go_wp2_with fail
        refine c.out.mono ?_
        rintro e w1 ⟨rfl, hw⟩
        subst w1
        go_wp2_with fail
        go_ret
        exact ⟨ret_int HQ2.out.symm, rfl⟩
      · rcases hkc with ⟨hk, hn⟩ | ⟨hk, hn⟩ | ⟨hk, hn⟩
        · subst hk
          have hn0 := HN.out.1
          have HQ2 : Hid (q = p % n) := hide (by
            rw [HQ3.out]
            split
            · rfl
            · rw [if_pos (by omega)]; unfold upFirst upSize; simp)
          have et : Int.tmod p n = p % n := Int.tmod_eq_emod_of_nonneg (by omega)
          go_enter Tryz.func214, Tryz.ntmps214
          go_wp2_with fail
          refine c.out.mono ?_
          rintro e w1 ⟨rfl, hw⟩
          subst w1
          go_wp2_with fail
          go_ret
          exact ⟨ret_int HQ2.out.symm, rfl⟩
        · subst hk
          rcases hn with rfl | rfl
          · by_cases h2 : p < 64
            · have HQ2 : Hid (q = p % 32) := hide (by rw [HQ3.out, if_pos h2]; rfl)
              go_enter Tryz.func214, Tryz.ntmps214
              go_wp2_with fail
              refine c.out.mono ?_
              rintro e w1 ⟨rfl, hw⟩
              subst w1
              go_wp2_with fail
              go_ret
              exact ⟨ret_int HQ2.out.symm, rfl⟩
            · have HQ2 : Hid (q = 32 + p % 16) := hide (by rw [HQ3.out, if_neg h2, if_pos (by omega)]; rfl)
              go_enter Tryz.func214, Tryz.ntmps214
              go_wp2_with fail
              refine c.out.mono ?_
              rintro e w1 ⟨rfl, hw⟩
              subst w1
              go_wp2_with fail
              go_ret
              exact ⟨ret_int HQ2.out.symm, rfl⟩
          · by_cases h2 : p < 64
            · have HQ2 : Hid (q = p) := hide (by rw [HQ3.out, if_pos h2]; show p % 64 = p; omega)
              go_enter Tryz.func214, Tryz.ntmps214
              go_wp2_with fail
              refine c.out.mono ?_
              rintro e w1 ⟨rfl, hw⟩
              subst w1
              go_wp2_with fail
              go_ret
              exact ⟨ret_int HQ2.out.symm, rfl⟩
            · have HQ2 : Hid (q = 64 + p % 32) := hide (by rw [HQ3.out, if_neg h2, if_pos (by omega)]; rfl)
              go_enter Tryz.func214, Tryz.ntmps214
              go_wp2_with fail
              refine c.out.mono ?_
              rintro e w1 ⟨rfl, hw⟩
              subst w1
              go_wp2_with fail
              go_ret
              exact ⟨ret_int HQ2.out.symm, rfl⟩
        · subst hk hn
          by_cases h2 : p < 64
          · have HQ2 : Hid (q = p) := hide (by rw [HQ3.out, if_pos h2]; show p % 64 = p; omega)
            go_enter Tryz.func214, Tryz.ntmps214
            go_wp2_with fail
            refine c.out.mono ?_
            rintro e w1 ⟨rfl, hw⟩
            subst w1
            go_wp2_with fail
            go_ret
            exact ⟨ret_int HQ2.out.symm, rfl⟩
          · have HQ2 : Hid (q = 64 * (l % 4) + p) := hide (by rw [HQ3.out, if_neg h2, if_pos (by omega)]; show 64 + 64 * (l % 4) + p % 64 = _; omega)
            go_enter Tryz.func214, Tryz.ntmps214
            go_wp2_with fail
            refine c.out.mono ?_
            rintro e w1 ⟨rfl, hw⟩
            subst w1
            go_wp2_with fail
            refine cm.out.mono ?_
            rintro e w1 ⟨rfl, hw⟩
            subst w1
            go_wp2_with fail
            go_ret
            exact ⟨ret_int HQ2.out.symm, rfl⟩
end Go.Proofs.YtnoggfnidaifkaaGreatDoor.B4
