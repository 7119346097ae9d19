/- The document's own pixel: its contract. -/
import Derived.Test.YtnhjhmfiapjenaaDoorTiles17
import Derived.Test.YtnhjhmfiapjenaaDoorRef13
namespace Go.Proofs.YtnhjhmfiapjenaaDoor.T17
open Go.RowKit
set_option linter.unusedVariables false

theorem rpixel_no (c : Nat) (W H X Y x y v : Int) (hm : okMap W H = false) (hv : 0 = v) (w : World) : Calls Tryd.prog 24 #[.pointer (some ⟨c, 0, none⟩), .agg #[.int .i64 W, .int .i64 H, .int .i64 X, .int .i64 Y], .int .i64 x, .int .i64 y] w fun e w' => e = .returned (.int .i64 v) ∧ Below w.heap.size w w' := by
  subst hv
  have HO := hide (show ((W == 32 || W == 64 || W == 128) && (H == 32 || H == 64)) = false from hm)
  clear hm
  obtain ⟨b1, h1⟩ : ∃ b, (W != 32) = b := ⟨_, rfl⟩
  obtain ⟨b2, h2⟩ : ∃ b, (W != 64) = b := ⟨_, rfl⟩
  obtain ⟨b3, h3⟩ : ∃ b, (W != 128) = b := ⟨_, rfl⟩
  obtain ⟨b4, h4⟩ : ∃ b, (H != 32) = b := ⟨_, rfl⟩
  obtain ⟨b5, h5⟩ : ∃ b, (H != 64) = b := ⟨_, rfl⟩
  have HC := hide (show ((!b1 || !b2 || !b3) && (!b4 || !b5)) = false by rw [← HO.out, ← h1, ← h2, ← h3, ← h4, ← h5]; simp only [bne, Bool.not_not])
  have BA := hide ((Below.refl _ w).alloc (Nat.le_refl _) (.cells #[.int .i64 W, .int .i64 H, .int .i64 X, .int .i64 Y] 73))
  clear HO
  cases b1 <;> cases b2 <;> cases b3 <;> cases b4 <;> cases b5
  all_goals first | (exact absurd HC.out (by decide)) | skip
  all_goals
    go_enter Tryd.func24, Tryd.ntmps24
    go_wp2
    go_ret
    exact ⟨rfl, BA.out⟩
set_option maxHeartbeats 1000000 in
theorem rpixel_32_32 (c d : Nat) (f : Nat → Int) (wr rd st lo bu : Int) (w : World) (h : HasR w c d f wr rd st lo bu) (X Y x y v p r p8 r8 r7 l e4 t k a b o : Int) (ep : Int.tmod (X % 65536 + x % 65536) 256 = p) (er : Int.tmod (Y % 65536 + y % 65536) 256 = r) (ep8 : Int.tdiv p 8 = p8) (er8 : Int.tdiv r 8 = r8) (er7 : Int.tmod r 8 = r7) (el : Int.tmod p 8 = l) (et : Int.tmod e4 4096 = t) (eq : Int.tdiv e4 4096 = k)
    (hp0 : 0 ≤ p) (hp1 : p < 1024) (hr0 : 0 ≤ r) (hr1 : r < 512) (hp80 : 0 ≤ p8) (hp81 : p8 < 128) (hr80 : 0 ≤ r8) (hr81 : r8 < 64) (h70 : 0 ≤ r7) (h71 : r7 < 8) (hl0 : 0 ≤ l) (hl1 : l < 8) (ht0 : 0 ≤ t) (ht1 : t < 4096) (hk0 : 0 ≤ k) (hk1 : k < 16) (gc : wordAt f (r8 * 32 + p8) = e4) (ga : wordAt f (t * 16 + r7) = a) (gb : wordAt f (t * 16 + r7 + 8) = b) (ho : colorOf a b (7 - l) = o) (hv : (if o = 0 then 0 else k * 16 + o) = v) :
    Calls Tryd.prog 24 #[.pointer (some ⟨c, 0, none⟩), .agg #[.int .i64 32, .int .i64 32, .int .i64 X, .int .i64 Y], .int .i64 x, .int .i64 y] w fun e w' => e = .returned (.int .i64 v) ∧ Below w.heap.size w w' := by
  have HM := hide h
  have GC := hide gc
  have GA := hide ga
  have GB := hide gb
  have HV := hide hv
  have HO := hide (show bitOf a (7 - l) + 2 * bitOf a (7 - l + 8) + 4 * bitOf b (7 - l) + 8 * bitOf b (7 - l + 8) = o from ho)
  have b1 := bitOf_01 a (7 - l)
  have b2 := bitOf_01 a (7 - l + 8)
  have b3 := bitOf_01 b (7 - l)
  have b4 := bitOf_01 b (7 - l + 8)
  have Q1 := hide (rbit_any a (7 - l))
  have Q2 := hide (rbit_any a (7 - l + 8))
  have Q3 := hide (rbit_any b (7 - l))
  have Q4 := hide (rbit_any b (7 - l + 8))
  generalize bitOf a (7 - l) = q1 at *
  generalize bitOf a (7 - l + 8) = q2 at *
  generalize bitOf b (7 - l) = q3 at *
  generalize bitOf b (7 - l + 8) = q4 at *
  clear h gc ga gb hv ho
  go_enter Tryd.func24, Tryd.ntmps24
  go_wp2_with fail
  refine under_name fun wa hwa => ?_
  have b0 : wa.heap[w.heap.size]? = some (.cells #[.int .i64 32, .int .i64 32, .int .i64 X, .int .i64 Y] 73 (0, 0)) := by rw [hwa]; exact heap_alloc_new _ _
  have BA := hide (show Below w.heap.size w wa by rw [hwa]; exact (Below.refl _ w).alloc (Nat.le_refl _) _)
  clear hwa
  obtain ⟨z, hz⟩ : ∃ z, w.heap.size = z := ⟨_, rfl⟩
  rw [hz] at b0 ⊢
  clear hz
  have B0 := hide b0
  clear b0
  have k0 := kept_cell ((cell_of_row wa z 0 _ _ _ B0.out).trans rfl) (lt_of_block B0.out)
  have k2 := kept_cell ((cell_of_row wa z 2 _ _ _ B0.out).trans rfl) (lt_of_block B0.out)
  haveI := kept_some wa
  refine wp_region_kept (by kernel_rfl) (by kernel_rfl) ?_
  repeat (go_big_quiet_step ((first | (go_at_call 41; exact kept_same (rword_any _ _)))))
  refine wpQuiet_nil ?_
  rintro _ ⟨wk, rfl⟩
  clear k0 k2
  obtain ⟨w1, hw1⟩ : ∃ w1, w1 = wk.val := ⟨_, rfl⟩
  rw [← hw1]
  have KB : Below wa.heap.size wa w1 := by rw [hw1]; exact wk.below
  clear hw1 wk
  have B1 := hide ((KB.block z (lt_of_block B0.out)).trans B0.out)
  have BB := hide (bnext BA.out KB)
  clear KB B0 BA
  go_wp2_with fail
  have k1 := kept_cell ((cell_of_row w1 z 1 _ _ _ B1.out).trans rfl) (lt_of_block B1.out)
  have k3 := kept_cell ((cell_of_row w1 z 3 _ _ _ B1.out).trans rfl) (lt_of_block B1.out)
  haveI := kept_some w1
  refine wp_region_kept (by kernel_rfl) (by kernel_rfl) ?_
  repeat (go_big_quiet_step ((first | (go_at_call 41; exact kept_same (rword_any _ _)))))
  refine wpQuiet_nil ?_
  rintro _ ⟨wj, rfl⟩
  clear k1 k3
  obtain ⟨w2, hw2⟩ : ∃ w2, w2 = wj.val := ⟨_, rfl⟩
  rw [← hw2]
  have KB : Below w1.heap.size w1 w2 := by rw [hw2]; exact wj.below
  clear hw2 wj
  have B2 := hide ((KB.block z (lt_of_block B1.out)).trans B1.out)
  have BC := hide (bnext BB.out KB)
  have HR := hide (HM.out.next BC.out)
  clear KB B1 BB HM
  have c0 : w2.cell? ⟨z, 0, none⟩ = some (.int .i64 32) := (cell_of_row w2 z 0 _ _ _ B2.out).trans rfl
  go_wp2_with fail
  refine (rword_is c d f _ _ _ _ _ w2 HR.out _ e4 GC.out).mono ?_
  rintro e w' ⟨rfl, hw⟩
  subst w'
  go_wp2_with fail
  refine (rword_is c d f _ _ _ _ _ w2 HR.out _ a GA.out).mono ?_
  rintro e w' ⟨rfl, hw⟩
  subst w'
  go_wp2_with fail
  refine (rword_is c d f _ _ _ _ _ w2 HR.out _ b GB.out).mono ?_
  rintro e w' ⟨rfl, hw⟩
  subst w'
  go_wp2_with fail
  refine (Q1.out w2).mono ?_
  rintro e w' ⟨rfl, hw⟩
  subst w'
  go_wp2_with fail
  refine (Q2.out w2).mono ?_
  rintro e w' ⟨rfl, hw⟩
  subst w'
  go_wp2_with fail
  refine (Q3.out w2).mono ?_
  rintro e w' ⟨rfl, hw⟩
  subst w'
  go_wp2_with fail
  refine (Q4.out w2).mono ?_
  rintro e w' ⟨rfl, hw⟩
  subst w'
  by_cases h0 : o = 0
  · have hz : q1 + 2 * q2 + 4 * q3 + 8 * q4 = 0 := by have := HO.out; omega
    go_wp2_with fail
    go_ret
    exact ⟨ret_int (by have := HV.out; rw [if_pos h0] at this; exact this), BC.out⟩
  · have hz : ¬ q1 + 2 * q2 + 4 * q3 + 8 * q4 = 0 := by have := HO.out; omega
    go_wp2_with fail
    go_ret
    exact ⟨ret_int (by have h2 := HV.out; have h3 := HO.out; rw [if_neg h0] at h2; omega), BC.out⟩
set_option maxHeartbeats 1000000 in
theorem rpixel_32_64 (c d : Nat) (f : Nat → Int) (wr rd st lo bu : Int) (w : World) (h : HasR w c d f wr rd st lo bu) (X Y x y v p r p8 r8 r7 l e4 t k a b o : Int) (ep : Int.tmod (X % 65536 + x % 65536) 256 = p) (er : Int.tmod (Y % 65536 + y % 65536) 512 = r) (ep8 : Int.tdiv p 8 = p8) (er8 : Int.tdiv r 8 = r8) (er7 : Int.tmod r 8 = r7) (el : Int.tmod p 8 = l) (et : Int.tmod e4 4096 = t) (eq : Int.tdiv e4 4096 = k)
    (hp0 : 0 ≤ p) (hp1 : p < 1024) (hr0 : 0 ≤ r) (hr1 : r < 512) (hp80 : 0 ≤ p8) (hp81 : p8 < 128) (hr80 : 0 ≤ r8) (hr81 : r8 < 64) (h70 : 0 ≤ r7) (h71 : r7 < 8) (hl0 : 0 ≤ l) (hl1 : l < 8) (ht0 : 0 ≤ t) (ht1 : t < 4096) (hk0 : 0 ≤ k) (hk1 : k < 16) (gc : wordAt f (r8 * 32 + p8) = e4) (ga : wordAt f (t * 16 + r7) = a) (gb : wordAt f (t * 16 + r7 + 8) = b) (ho : colorOf a b (7 - l) = o) (hv : (if o = 0 then 0 else k * 16 + o) = v) :
    Calls Tryd.prog 24 #[.pointer (some ⟨c, 0, none⟩), .agg #[.int .i64 32, .int .i64 64, .int .i64 X, .int .i64 Y], .int .i64 x, .int .i64 y] w fun e w' => e = .returned (.int .i64 v) ∧ Below w.heap.size w w' := by
  have HM := hide h
  have GC := hide gc
  have GA := hide ga
  have GB := hide gb
  have HV := hide hv
  have HO := hide (show bitOf a (7 - l) + 2 * bitOf a (7 - l + 8) + 4 * bitOf b (7 - l) + 8 * bitOf b (7 - l + 8) = o from ho)
  have b1 := bitOf_01 a (7 - l)
  have b2 := bitOf_01 a (7 - l + 8)
  have b3 := bitOf_01 b (7 - l)
  have b4 := bitOf_01 b (7 - l + 8)
  have Q1 := hide (rbit_any a (7 - l))
  have Q2 := hide (rbit_any a (7 - l + 8))
  have Q3 := hide (rbit_any b (7 - l))
  have Q4 := hide (rbit_any b (7 - l + 8))
  generalize bitOf a (7 - l) = q1 at *
  generalize bitOf a (7 - l + 8) = q2 at *
  generalize bitOf b (7 - l) = q3 at *
  generalize bitOf b (7 - l + 8) = q4 at *
  clear h gc ga gb hv ho
  go_enter Tryd.func24, Tryd.ntmps24
  go_wp2_with fail
  refine under_name fun wa hwa => ?_
  have b0 : wa.heap[w.heap.size]? = some (.cells #[.int .i64 32, .int .i64 64, .int .i64 X, .int .i64 Y] 73 (0, 0)) := by rw [hwa]; exact heap_alloc_new _ _
  have BA := hide (show Below w.heap.size w wa by rw [hwa]; exact (Below.refl _ w).alloc (Nat.le_refl _) _)
  clear hwa
  obtain ⟨z, hz⟩ : ∃ z, w.heap.size = z := ⟨_, rfl⟩
  rw [hz] at b0 ⊢
  clear hz
  have B0 := hide b0
  clear b0
  have k0 := kept_cell ((cell_of_row wa z 0 _ _ _ B0.out).trans rfl) (lt_of_block B0.out)
  have k2 := kept_cell ((cell_of_row wa z 2 _ _ _ B0.out).trans rfl) (lt_of_block B0.out)
  haveI := kept_some wa
  refine wp_region_kept (by kernel_rfl) (by kernel_rfl) ?_
  repeat (go_big_quiet_step ((first | (go_at_call 41; exact kept_same (rword_any _ _)))))
  refine wpQuiet_nil ?_
  rintro _ ⟨wk, rfl⟩
  clear k0 k2
  obtain ⟨w1, hw1⟩ : ∃ w1, w1 = wk.val := ⟨_, rfl⟩
  rw [← hw1]
  have KB : Below wa.heap.size wa w1 := by rw [hw1]; exact wk.below
  clear hw1 wk
  have B1 := hide ((KB.block z (lt_of_block B0.out)).trans B0.out)
  have BB := hide (bnext BA.out KB)
  clear KB B0 BA
  go_wp2_with fail
  have k1 := kept_cell ((cell_of_row w1 z 1 _ _ _ B1.out).trans rfl) (lt_of_block B1.out)
  have k3 := kept_cell ((cell_of_row w1 z 3 _ _ _ B1.out).trans rfl) (lt_of_block B1.out)
  haveI := kept_some w1
  refine wp_region_kept (by kernel_rfl) (by kernel_rfl) ?_
  repeat (go_big_quiet_step ((first | (go_at_call 41; exact kept_same (rword_any _ _)))))
  refine wpQuiet_nil ?_
  rintro _ ⟨wj, rfl⟩
  clear k1 k3
  obtain ⟨w2, hw2⟩ : ∃ w2, w2 = wj.val := ⟨_, rfl⟩
  rw [← hw2]
  have KB : Below w1.heap.size w1 w2 := by rw [hw2]; exact wj.below
  clear hw2 wj
  have B2 := hide ((KB.block z (lt_of_block B1.out)).trans B1.out)
  have BC := hide (bnext BB.out KB)
  have HR := hide (HM.out.next BC.out)
  clear KB B1 BB HM
  have c0 : w2.cell? ⟨z, 0, none⟩ = some (.int .i64 32) := (cell_of_row w2 z 0 _ _ _ B2.out).trans rfl
  go_wp2_with fail
  refine (rword_is c d f _ _ _ _ _ w2 HR.out _ e4 GC.out).mono ?_
  rintro e w' ⟨rfl, hw⟩
  subst w'
  go_wp2_with fail
  refine (rword_is c d f _ _ _ _ _ w2 HR.out _ a GA.out).mono ?_
  rintro e w' ⟨rfl, hw⟩
  subst w'
  go_wp2_with fail
  refine (rword_is c d f _ _ _ _ _ w2 HR.out _ b GB.out).mono ?_
  rintro e w' ⟨rfl, hw⟩
  subst w'
  go_wp2_with fail
  refine (Q1.out w2).mono ?_
  rintro e w' ⟨rfl, hw⟩
  subst w'
  go_wp2_with fail
  refine (Q2.out w2).mono ?_
  rintro e w' ⟨rfl, hw⟩
  subst w'
  go_wp2_with fail
  refine (Q3.out w2).mono ?_
  rintro e w' ⟨rfl, hw⟩
  subst w'
  go_wp2_with fail
  refine (Q4.out w2).mono ?_
  rintro e w' ⟨rfl, hw⟩
  subst w'
  by_cases h0 : o = 0
  · have hz : q1 + 2 * q2 + 4 * q3 + 8 * q4 = 0 := by have := HO.out; omega
    go_wp2_with fail
    go_ret
    exact ⟨ret_int (by have := HV.out; rw [if_pos h0] at this; exact this), BC.out⟩
  · have hz : ¬ q1 + 2 * q2 + 4 * q3 + 8 * q4 = 0 := by have := HO.out; omega
    go_wp2_with fail
    go_ret
    exact ⟨ret_int (by have h2 := HV.out; have h3 := HO.out; rw [if_neg h0] at h2; omega), BC.out⟩
set_option maxHeartbeats 1000000 in
theorem rpixel_64_32 (c d : Nat) (f : Nat → Int) (wr rd st lo bu : Int) (w : World) (h : HasR w c d f wr rd st lo bu) (X Y x y v p r p8 r8 r7 l e4 t k a b o : Int) (ep : Int.tmod (X % 65536 + x % 65536) 512 = p) (er : Int.tmod (Y % 65536 + y % 65536) 256 = r) (ep8 : Int.tdiv p 8 = p8) (er8 : Int.tdiv r 8 = r8) (er7 : Int.tmod r 8 = r7) (el : Int.tmod p 8 = l) (et : Int.tmod e4 4096 = t) (eq : Int.tdiv e4 4096 = k)
    (hp0 : 0 ≤ p) (hp1 : p < 1024) (hr0 : 0 ≤ r) (hr1 : r < 512) (hp80 : 0 ≤ p8) (hp81 : p8 < 128) (hr80 : 0 ≤ r8) (hr81 : r8 < 64) (h70 : 0 ≤ r7) (h71 : r7 < 8) (hl0 : 0 ≤ l) (hl1 : l < 8) (ht0 : 0 ≤ t) (ht1 : t < 4096) (hk0 : 0 ≤ k) (hk1 : k < 16) (gc : wordAt f (r8 * 64 + p8) = e4) (ga : wordAt f (t * 16 + r7) = a) (gb : wordAt f (t * 16 + r7 + 8) = b) (ho : colorOf a b (7 - l) = o) (hv : (if o = 0 then 0 else k * 16 + o) = v) :
    Calls Tryd.prog 24 #[.pointer (some ⟨c, 0, none⟩), .agg #[.int .i64 64, .int .i64 32, .int .i64 X, .int .i64 Y], .int .i64 x, .int .i64 y] w fun e w' => e = .returned (.int .i64 v) ∧ Below w.heap.size w w' := by
  have HM := hide h
  have GC := hide gc
  have GA := hide ga
  have GB := hide gb
  have HV := hide hv
  have HO := hide (show bitOf a (7 - l) + 2 * bitOf a (7 - l + 8) + 4 * bitOf b (7 - l) + 8 * bitOf b (7 - l + 8) = o from ho)
  have b1 := bitOf_01 a (7 - l)
  have b2 := bitOf_01 a (7 - l + 8)
  have b3 := bitOf_01 b (7 - l)
  have b4 := bitOf_01 b (7 - l + 8)
  have Q1 := hide (rbit_any a (7 - l))
  have Q2 := hide (rbit_any a (7 - l + 8))
  have Q3 := hide (rbit_any b (7 - l))
  have Q4 := hide (rbit_any b (7 - l + 8))
  generalize bitOf a (7 - l) = q1 at *
  generalize bitOf a (7 - l + 8) = q2 at *
  generalize bitOf b (7 - l) = q3 at *
  generalize bitOf b (7 - l + 8) = q4 at *
  clear h gc ga gb hv ho
  go_enter Tryd.func24, Tryd.ntmps24
  go_wp2_with fail
  refine under_name fun wa hwa => ?_
  have b0 : wa.heap[w.heap.size]? = some (.cells #[.int .i64 64, .int .i64 32, .int .i64 X, .int .i64 Y] 73 (0, 0)) := by rw [hwa]; exact heap_alloc_new _ _
  have BA := hide (show Below w.heap.size w wa by rw [hwa]; exact (Below.refl _ w).alloc (Nat.le_refl _) _)
  clear hwa
  obtain ⟨z, hz⟩ : ∃ z, w.heap.size = z := ⟨_, rfl⟩
  rw [hz] at b0 ⊢
  clear hz
  have B0 := hide b0
  clear b0
  have k0 := kept_cell ((cell_of_row wa z 0 _ _ _ B0.out).trans rfl) (lt_of_block B0.out)
  have k2 := kept_cell ((cell_of_row wa z 2 _ _ _ B0.out).trans rfl) (lt_of_block B0.out)
  haveI := kept_some wa
  refine wp_region_kept (by kernel_rfl) (by kernel_rfl) ?_
  repeat (go_big_quiet_step ((first | (go_at_call 41; exact kept_same (rword_any _ _)))))
  refine wpQuiet_nil ?_
  rintro _ ⟨wk, rfl⟩
  clear k0 k2
  obtain ⟨w1, hw1⟩ : ∃ w1, w1 = wk.val := ⟨_, rfl⟩
  rw [← hw1]
  have KB : Below wa.heap.size wa w1 := by rw [hw1]; exact wk.below
  clear hw1 wk
  have B1 := hide ((KB.block z (lt_of_block B0.out)).trans B0.out)
  have BB := hide (bnext BA.out KB)
  clear KB B0 BA
  go_wp2_with fail
  have k1 := kept_cell ((cell_of_row w1 z 1 _ _ _ B1.out).trans rfl) (lt_of_block B1.out)
  have k3 := kept_cell ((cell_of_row w1 z 3 _ _ _ B1.out).trans rfl) (lt_of_block B1.out)
  haveI := kept_some w1
  refine wp_region_kept (by kernel_rfl) (by kernel_rfl) ?_
  repeat (go_big_quiet_step ((first | (go_at_call 41; exact kept_same (rword_any _ _)))))
  refine wpQuiet_nil ?_
  rintro _ ⟨wj, rfl⟩
  clear k1 k3
  obtain ⟨w2, hw2⟩ : ∃ w2, w2 = wj.val := ⟨_, rfl⟩
  rw [← hw2]
  have KB : Below w1.heap.size w1 w2 := by rw [hw2]; exact wj.below
  clear hw2 wj
  have B2 := hide ((KB.block z (lt_of_block B1.out)).trans B1.out)
  have BC := hide (bnext BB.out KB)
  have HR := hide (HM.out.next BC.out)
  clear KB B1 BB HM
  have c0 : w2.cell? ⟨z, 0, none⟩ = some (.int .i64 64) := (cell_of_row w2 z 0 _ _ _ B2.out).trans rfl
  go_wp2_with fail
  refine (rword_is c d f _ _ _ _ _ w2 HR.out _ e4 GC.out).mono ?_
  rintro e w' ⟨rfl, hw⟩
  subst w'
  go_wp2_with fail
  refine (rword_is c d f _ _ _ _ _ w2 HR.out _ a GA.out).mono ?_
  rintro e w' ⟨rfl, hw⟩
  subst w'
  go_wp2_with fail
  refine (rword_is c d f _ _ _ _ _ w2 HR.out _ b GB.out).mono ?_
  rintro e w' ⟨rfl, hw⟩
  subst w'
  go_wp2_with fail
  refine (Q1.out w2).mono ?_
  rintro e w' ⟨rfl, hw⟩
  subst w'
  go_wp2_with fail
  refine (Q2.out w2).mono ?_
  rintro e w' ⟨rfl, hw⟩
  subst w'
  go_wp2_with fail
  refine (Q3.out w2).mono ?_
  rintro e w' ⟨rfl, hw⟩
  subst w'
  go_wp2_with fail
  refine (Q4.out w2).mono ?_
  rintro e w' ⟨rfl, hw⟩
  subst w'
  by_cases h0 : o = 0
  · have hz : q1 + 2 * q2 + 4 * q3 + 8 * q4 = 0 := by have := HO.out; omega
    go_wp2_with fail
    go_ret
    exact ⟨ret_int (by have := HV.out; rw [if_pos h0] at this; exact this), BC.out⟩
  · have hz : ¬ q1 + 2 * q2 + 4 * q3 + 8 * q4 = 0 := by have := HO.out; omega
    go_wp2_with fail
    go_ret
    exact ⟨ret_int (by have h2 := HV.out; have h3 := HO.out; rw [if_neg h0] at h2; omega), BC.out⟩
set_option maxHeartbeats 1000000 in
theorem rpixel_64_64 (c d : Nat) (f : Nat → Int) (wr rd st lo bu : Int) (w : World) (h : HasR w c d f wr rd st lo bu) (X Y x y v p r p8 r8 r7 l e4 t k a b o : Int) (ep : Int.tmod (X % 65536 + x % 65536) 512 = p) (er : Int.tmod (Y % 65536 + y % 65536) 512 = r) (ep8 : Int.tdiv p 8 = p8) (er8 : Int.tdiv r 8 = r8) (er7 : Int.tmod r 8 = r7) (el : Int.tmod p 8 = l) (et : Int.tmod e4 4096 = t) (eq : Int.tdiv e4 4096 = k)
    (hp0 : 0 ≤ p) (hp1 : p < 1024) (hr0 : 0 ≤ r) (hr1 : r < 512) (hp80 : 0 ≤ p8) (hp81 : p8 < 128) (hr80 : 0 ≤ r8) (hr81 : r8 < 64) (h70 : 0 ≤ r7) (h71 : r7 < 8) (hl0 : 0 ≤ l) (hl1 : l < 8) (ht0 : 0 ≤ t) (ht1 : t < 4096) (hk0 : 0 ≤ k) (hk1 : k < 16) (gc : wordAt f (r8 * 64 + p8) = e4) (ga : wordAt f (t * 16 + r7) = a) (gb : wordAt f (t * 16 + r7 + 8) = b) (ho : colorOf a b (7 - l) = o) (hv : (if o = 0 then 0 else k * 16 + o) = v) :
    Calls Tryd.prog 24 #[.pointer (some ⟨c, 0, none⟩), .agg #[.int .i64 64, .int .i64 64, .int .i64 X, .int .i64 Y], .int .i64 x, .int .i64 y] w fun e w' => e = .returned (.int .i64 v) ∧ Below w.heap.size w w' := by
  have HM := hide h
  have GC := hide gc
  have GA := hide ga
  have GB := hide gb
  have HV := hide hv
  have HO := hide (show bitOf a (7 - l) + 2 * bitOf a (7 - l + 8) + 4 * bitOf b (7 - l) + 8 * bitOf b (7 - l + 8) = o from ho)
  have b1 := bitOf_01 a (7 - l)
  have b2 := bitOf_01 a (7 - l + 8)
  have b3 := bitOf_01 b (7 - l)
  have b4 := bitOf_01 b (7 - l + 8)
  have Q1 := hide (rbit_any a (7 - l))
  have Q2 := hide (rbit_any a (7 - l + 8))
  have Q3 := hide (rbit_any b (7 - l))
  have Q4 := hide (rbit_any b (7 - l + 8))
  generalize bitOf a (7 - l) = q1 at *
  generalize bitOf a (7 - l + 8) = q2 at *
  generalize bitOf b (7 - l) = q3 at *
  generalize bitOf b (7 - l + 8) = q4 at *
  clear h gc ga gb hv ho
  go_enter Tryd.func24, Tryd.ntmps24
  go_wp2_with fail
  refine under_name fun wa hwa => ?_
  have b0 : wa.heap[w.heap.size]? = some (.cells #[.int .i64 64, .int .i64 64, .int .i64 X, .int .i64 Y] 73 (0, 0)) := by rw [hwa]; exact heap_alloc_new _ _
  have BA := hide (show Below w.heap.size w wa by rw [hwa]; exact (Below.refl _ w).alloc (Nat.le_refl _) _)
  clear hwa
  obtain ⟨z, hz⟩ : ∃ z, w.heap.size = z := ⟨_, rfl⟩
  rw [hz] at b0 ⊢
  clear hz
  have B0 := hide b0
  clear b0
  have k0 := kept_cell ((cell_of_row wa z 0 _ _ _ B0.out).trans rfl) (lt_of_block B0.out)
  have k2 := kept_cell ((cell_of_row wa z 2 _ _ _ B0.out).trans rfl) (lt_of_block B0.out)
  haveI := kept_some wa
  refine wp_region_kept (by kernel_rfl) (by kernel_rfl) ?_
  repeat (go_big_quiet_step ((first | (go_at_call 41; exact kept_same (rword_any _ _)))))
  refine wpQuiet_nil ?_
  rintro _ ⟨wk, rfl⟩
  clear k0 k2
  obtain ⟨w1, hw1⟩ : ∃ w1, w1 = wk.val := ⟨_, rfl⟩
  rw [← hw1]
  have KB : Below wa.heap.size wa w1 := by rw [hw1]; exact wk.below
  clear hw1 wk
  have B1 := hide ((KB.block z (lt_of_block B0.out)).trans B0.out)
  have BB := hide (bnext BA.out KB)
  clear KB B0 BA
  go_wp2_with fail
  have k1 := kept_cell ((cell_of_row w1 z 1 _ _ _ B1.out).trans rfl) (lt_of_block B1.out)
  have k3 := kept_cell ((cell_of_row w1 z 3 _ _ _ B1.out).trans rfl) (lt_of_block B1.out)
  haveI := kept_some w1
  refine wp_region_kept (by kernel_rfl) (by kernel_rfl) ?_
  repeat (go_big_quiet_step ((first | (go_at_call 41; exact kept_same (rword_any _ _)))))
  refine wpQuiet_nil ?_
  rintro _ ⟨wj, rfl⟩
  clear k1 k3
  obtain ⟨w2, hw2⟩ : ∃ w2, w2 = wj.val := ⟨_, rfl⟩
  rw [← hw2]
  have KB : Below w1.heap.size w1 w2 := by rw [hw2]; exact wj.below
  clear hw2 wj
  have B2 := hide ((KB.block z (lt_of_block B1.out)).trans B1.out)
  have BC := hide (bnext BB.out KB)
  have HR := hide (HM.out.next BC.out)
  clear KB B1 BB HM
  have c0 : w2.cell? ⟨z, 0, none⟩ = some (.int .i64 64) := (cell_of_row w2 z 0 _ _ _ B2.out).trans rfl
  go_wp2_with fail
  refine (rword_is c d f _ _ _ _ _ w2 HR.out _ e4 GC.out).mono ?_
  rintro e w' ⟨rfl, hw⟩
  subst w'
  go_wp2_with fail
  refine (rword_is c d f _ _ _ _ _ w2 HR.out _ a GA.out).mono ?_
  rintro e w' ⟨rfl, hw⟩
  subst w'
  go_wp2_with fail
  refine (rword_is c d f _ _ _ _ _ w2 HR.out _ b GB.out).mono ?_
  rintro e w' ⟨rfl, hw⟩
  subst w'
  go_wp2_with fail
  refine (Q1.out w2).mono ?_
  rintro e w' ⟨rfl, hw⟩
  subst w'
  go_wp2_with fail
  refine (Q2.out w2).mono ?_
  rintro e w' ⟨rfl, hw⟩
  subst w'
  go_wp2_with fail
  refine (Q3.out w2).mono ?_
  rintro e w' ⟨rfl, hw⟩
  subst w'
  go_wp2_with fail
  refine (Q4.out w2).mono ?_
  rintro e w' ⟨rfl, hw⟩
  subst w'
  by_cases h0 : o = 0
  · have hz : q1 + 2 * q2 + 4 * q3 + 8 * q4 = 0 := by have := HO.out; omega
    go_wp2_with fail
    go_ret
    exact ⟨ret_int (by have := HV.out; rw [if_pos h0] at this; exact this), BC.out⟩
  · have hz : ¬ q1 + 2 * q2 + 4 * q3 + 8 * q4 = 0 := by have := HO.out; omega
    go_wp2_with fail
    go_ret
    exact ⟨ret_int (by have h2 := HV.out; have h3 := HO.out; rw [if_neg h0] at h2; omega), BC.out⟩
set_option maxHeartbeats 1000000 in
theorem rpixel_128_32 (c d : Nat) (f : Nat → Int) (wr rd st lo bu : Int) (w : World) (h : HasR w c d f wr rd st lo bu) (X Y x y v p r p8 r8 r7 l e4 t k a b o : Int) (ep : Int.tmod (X % 65536 + x % 65536) 1024 = p) (er : Int.tmod (Y % 65536 + y % 65536) 256 = r) (ep8 : Int.tdiv p 8 = p8) (er8 : Int.tdiv r 8 = r8) (er7 : Int.tmod r 8 = r7) (el : Int.tmod p 8 = l) (et : Int.tmod e4 4096 = t) (eq : Int.tdiv e4 4096 = k)
    (hp0 : 0 ≤ p) (hp1 : p < 1024) (hr0 : 0 ≤ r) (hr1 : r < 512) (hp80 : 0 ≤ p8) (hp81 : p8 < 128) (hr80 : 0 ≤ r8) (hr81 : r8 < 64) (h70 : 0 ≤ r7) (h71 : r7 < 8) (hl0 : 0 ≤ l) (hl1 : l < 8) (ht0 : 0 ≤ t) (ht1 : t < 4096) (hk0 : 0 ≤ k) (hk1 : k < 16) (gc : wordAt f (r8 * 128 + p8) = e4) (ga : wordAt f (t * 16 + r7) = a) (gb : wordAt f (t * 16 + r7 + 8) = b) (ho : colorOf a b (7 - l) = o) (hv : (if o = 0 then 0 else k * 16 + o) = v) :
    Calls Tryd.prog 24 #[.pointer (some ⟨c, 0, none⟩), .agg #[.int .i64 128, .int .i64 32, .int .i64 X, .int .i64 Y], .int .i64 x, .int .i64 y] w fun e w' => e = .returned (.int .i64 v) ∧ Below w.heap.size w w' := by
  have HM := hide h
  have GC := hide gc
  have GA := hide ga
  have GB := hide gb
  have HV := hide hv
  have HO := hide (show bitOf a (7 - l) + 2 * bitOf a (7 - l + 8) + 4 * bitOf b (7 - l) + 8 * bitOf b (7 - l + 8) = o from ho)
  have b1 := bitOf_01 a (7 - l)
  have b2 := bitOf_01 a (7 - l + 8)
  have b3 := bitOf_01 b (7 - l)
  have b4 := bitOf_01 b (7 - l + 8)
  have Q1 := hide (rbit_any a (7 - l))
  have Q2 := hide (rbit_any a (7 - l + 8))
  have Q3 := hide (rbit_any b (7 - l))
  have Q4 := hide (rbit_any b (7 - l + 8))
  generalize bitOf a (7 - l) = q1 at *
  generalize bitOf a (7 - l + 8) = q2 at *
  generalize bitOf b (7 - l) = q3 at *
  generalize bitOf b (7 - l + 8) = q4 at *
  clear h gc ga gb hv ho
  go_enter Tryd.func24, Tryd.ntmps24
  go_wp2_with fail
  refine under_name fun wa hwa => ?_
  have b0 : wa.heap[w.heap.size]? = some (.cells #[.int .i64 128, .int .i64 32, .int .i64 X, .int .i64 Y] 73 (0, 0)) := by rw [hwa]; exact heap_alloc_new _ _
  have BA := hide (show Below w.heap.size w wa by rw [hwa]; exact (Below.refl _ w).alloc (Nat.le_refl _) _)
  clear hwa
  obtain ⟨z, hz⟩ : ∃ z, w.heap.size = z := ⟨_, rfl⟩
  rw [hz] at b0 ⊢
  clear hz
  have B0 := hide b0
  clear b0
  have k0 := kept_cell ((cell_of_row wa z 0 _ _ _ B0.out).trans rfl) (lt_of_block B0.out)
  have k2 := kept_cell ((cell_of_row wa z 2 _ _ _ B0.out).trans rfl) (lt_of_block B0.out)
  haveI := kept_some wa
  refine wp_region_kept (by kernel_rfl) (by kernel_rfl) ?_
  repeat (go_big_quiet_step ((first | (go_at_call 41; exact kept_same (rword_any _ _)))))
  refine wpQuiet_nil ?_
  rintro _ ⟨wk, rfl⟩
  clear k0 k2
  obtain ⟨w1, hw1⟩ : ∃ w1, w1 = wk.val := ⟨_, rfl⟩
  rw [← hw1]
  have KB : Below wa.heap.size wa w1 := by rw [hw1]; exact wk.below
  clear hw1 wk
  have B1 := hide ((KB.block z (lt_of_block B0.out)).trans B0.out)
  have BB := hide (bnext BA.out KB)
  clear KB B0 BA
  go_wp2_with fail
  have k1 := kept_cell ((cell_of_row w1 z 1 _ _ _ B1.out).trans rfl) (lt_of_block B1.out)
  have k3 := kept_cell ((cell_of_row w1 z 3 _ _ _ B1.out).trans rfl) (lt_of_block B1.out)
  haveI := kept_some w1
  refine wp_region_kept (by kernel_rfl) (by kernel_rfl) ?_
  repeat (go_big_quiet_step ((first | (go_at_call 41; exact kept_same (rword_any _ _)))))
  refine wpQuiet_nil ?_
  rintro _ ⟨wj, rfl⟩
  clear k1 k3
  obtain ⟨w2, hw2⟩ : ∃ w2, w2 = wj.val := ⟨_, rfl⟩
  rw [← hw2]
  have KB : Below w1.heap.size w1 w2 := by rw [hw2]; exact wj.below
  clear hw2 wj
  have B2 := hide ((KB.block z (lt_of_block B1.out)).trans B1.out)
  have BC := hide (bnext BB.out KB)
  have HR := hide (HM.out.next BC.out)
  clear KB B1 BB HM
  have c0 : w2.cell? ⟨z, 0, none⟩ = some (.int .i64 128) := (cell_of_row w2 z 0 _ _ _ B2.out).trans rfl
  go_wp2_with fail
  refine (rword_is c d f _ _ _ _ _ w2 HR.out _ e4 GC.out).mono ?_
  rintro e w' ⟨rfl, hw⟩
  subst w'
  go_wp2_with fail
  refine (rword_is c d f _ _ _ _ _ w2 HR.out _ a GA.out).mono ?_
  rintro e w' ⟨rfl, hw⟩
  subst w'
  go_wp2_with fail
  refine (rword_is c d f _ _ _ _ _ w2 HR.out _ b GB.out).mono ?_
  rintro e w' ⟨rfl, hw⟩
  subst w'
  go_wp2_with fail
  refine (Q1.out w2).mono ?_
  rintro e w' ⟨rfl, hw⟩
  subst w'
  go_wp2_with fail
  refine (Q2.out w2).mono ?_
  rintro e w' ⟨rfl, hw⟩
  subst w'
  go_wp2_with fail
  refine (Q3.out w2).mono ?_
  rintro e w' ⟨rfl, hw⟩
  subst w'
  go_wp2_with fail
  refine (Q4.out w2).mono ?_
  rintro e w' ⟨rfl, hw⟩
  subst w'
  by_cases h0 : o = 0
  · have hz : q1 + 2 * q2 + 4 * q3 + 8 * q4 = 0 := by have := HO.out; omega
    go_wp2_with fail
    go_ret
    exact ⟨ret_int (by have := HV.out; rw [if_pos h0] at this; exact this), BC.out⟩
  · have hz : ¬ q1 + 2 * q2 + 4 * q3 + 8 * q4 = 0 := by have := HO.out; omega
    go_wp2_with fail
    go_ret
    exact ⟨ret_int (by have h2 := HV.out; have h3 := HO.out; rw [if_neg h0] at h2; omega), BC.out⟩
set_option maxHeartbeats 1000000 in
theorem rpixel_128_64 (c d : Nat) (f : Nat → Int) (wr rd st lo bu : Int) (w : World) (h : HasR w c d f wr rd st lo bu) (X Y x y v p r p8 r8 r7 l e4 t k a b o : Int) (ep : Int.tmod (X % 65536 + x % 65536) 1024 = p) (er : Int.tmod (Y % 65536 + y % 65536) 512 = r) (ep8 : Int.tdiv p 8 = p8) (er8 : Int.tdiv r 8 = r8) (er7 : Int.tmod r 8 = r7) (el : Int.tmod p 8 = l) (et : Int.tmod e4 4096 = t) (eq : Int.tdiv e4 4096 = k)
    (hp0 : 0 ≤ p) (hp1 : p < 1024) (hr0 : 0 ≤ r) (hr1 : r < 512) (hp80 : 0 ≤ p8) (hp81 : p8 < 128) (hr80 : 0 ≤ r8) (hr81 : r8 < 64) (h70 : 0 ≤ r7) (h71 : r7 < 8) (hl0 : 0 ≤ l) (hl1 : l < 8) (ht0 : 0 ≤ t) (ht1 : t < 4096) (hk0 : 0 ≤ k) (hk1 : k < 16) (gc : wordAt f (r8 * 128 + p8) = e4) (ga : wordAt f (t * 16 + r7) = a) (gb : wordAt f (t * 16 + r7 + 8) = b) (ho : colorOf a b (7 - l) = o) (hv : (if o = 0 then 0 else k * 16 + o) = v) :
    Calls Tryd.prog 24 #[.pointer (some ⟨c, 0, none⟩), .agg #[.int .i64 128, .int .i64 64, .int .i64 X, .int .i64 Y], .int .i64 x, .int .i64 y] w fun e w' => e = .returned (.int .i64 v) ∧ Below w.heap.size w w' := by
  have HM := hide h
  have GC := hide gc
  have GA := hide ga
  have GB := hide gb
  have HV := hide hv
  have HO := hide (show bitOf a (7 - l) + 2 * bitOf a (7 - l + 8) + 4 * bitOf b (7 - l) + 8 * bitOf b (7 - l + 8) = o from ho)
  have b1 := bitOf_01 a (7 - l)
  have b2 := bitOf_01 a (7 - l + 8)
  have b3 := bitOf_01 b (7 - l)
  have b4 := bitOf_01 b (7 - l + 8)
  have Q1 := hide (rbit_any a (7 - l))
  have Q2 := hide (rbit_any a (7 - l + 8))
  have Q3 := hide (rbit_any b (7 - l))
  have Q4 := hide (rbit_any b (7 - l + 8))
  generalize bitOf a (7 - l) = q1 at *
  generalize bitOf a (7 - l + 8) = q2 at *
  generalize bitOf b (7 - l) = q3 at *
  generalize bitOf b (7 - l + 8) = q4 at *
  clear h gc ga gb hv ho
  go_enter Tryd.func24, Tryd.ntmps24
  go_wp2_with fail
  refine under_name fun wa hwa => ?_
  have b0 : wa.heap[w.heap.size]? = some (.cells #[.int .i64 128, .int .i64 64, .int .i64 X, .int .i64 Y] 73 (0, 0)) := by rw [hwa]; exact heap_alloc_new _ _
  have BA := hide (show Below w.heap.size w wa by rw [hwa]; exact (Below.refl _ w).alloc (Nat.le_refl _) _)
  clear hwa
  obtain ⟨z, hz⟩ : ∃ z, w.heap.size = z := ⟨_, rfl⟩
  rw [hz] at b0 ⊢
  clear hz
  have B0 := hide b0
  clear b0
  have k0 := kept_cell ((cell_of_row wa z 0 _ _ _ B0.out).trans rfl) (lt_of_block B0.out)
  have k2 := kept_cell ((cell_of_row wa z 2 _ _ _ B0.out).trans rfl) (lt_of_block B0.out)
  haveI := kept_some wa
  refine wp_region_kept (by kernel_rfl) (by kernel_rfl) ?_
  repeat (go_big_quiet_step ((first | (go_at_call 41; exact kept_same (rword_any _ _)))))
  refine wpQuiet_nil ?_
  rintro _ ⟨wk, rfl⟩
  clear k0 k2
  obtain ⟨w1, hw1⟩ : ∃ w1, w1 = wk.val := ⟨_, rfl⟩
  rw [← hw1]
  have KB : Below wa.heap.size wa w1 := by rw [hw1]; exact wk.below
  clear hw1 wk
  have B1 := hide ((KB.block z (lt_of_block B0.out)).trans B0.out)
  have BB := hide (bnext BA.out KB)
  clear KB B0 BA
  go_wp2_with fail
  have k1 := kept_cell ((cell_of_row w1 z 1 _ _ _ B1.out).trans rfl) (lt_of_block B1.out)
  have k3 := kept_cell ((cell_of_row w1 z 3 _ _ _ B1.out).trans rfl) (lt_of_block B1.out)
  haveI := kept_some w1
  refine wp_region_kept (by kernel_rfl) (by kernel_rfl) ?_
  repeat (go_big_quiet_step ((first | (go_at_call 41; exact kept_same (rword_any _ _)))))
  refine wpQuiet_nil ?_
  rintro _ ⟨wj, rfl⟩
  clear k1 k3
  obtain ⟨w2, hw2⟩ : ∃ w2, w2 = wj.val := ⟨_, rfl⟩
  rw [← hw2]
  have KB : Below w1.heap.size w1 w2 := by rw [hw2]; exact wj.below
  clear hw2 wj
  have B2 := hide ((KB.block z (lt_of_block B1.out)).trans B1.out)
  have BC := hide (bnext BB.out KB)
  have HR := hide (HM.out.next BC.out)
  clear KB B1 BB HM
  have c0 : w2.cell? ⟨z, 0, none⟩ = some (.int .i64 128) := (cell_of_row w2 z 0 _ _ _ B2.out).trans rfl
  go_wp2_with fail
  refine (rword_is c d f _ _ _ _ _ w2 HR.out _ e4 GC.out).mono ?_
  rintro e w' ⟨rfl, hw⟩
  subst w'
  go_wp2_with fail
  refine (rword_is c d f _ _ _ _ _ w2 HR.out _ a GA.out).mono ?_
  rintro e w' ⟨rfl, hw⟩
  subst w'
  go_wp2_with fail
  refine (rword_is c d f _ _ _ _ _ w2 HR.out _ b GB.out).mono ?_
  rintro e w' ⟨rfl, hw⟩
  subst w'
  go_wp2_with fail
  refine (Q1.out w2).mono ?_
  rintro e w' ⟨rfl, hw⟩
  subst w'
  go_wp2_with fail
  refine (Q2.out w2).mono ?_
  rintro e w' ⟨rfl, hw⟩
  subst w'
  go_wp2_with fail
  refine (Q3.out w2).mono ?_
  rintro e w' ⟨rfl, hw⟩
  subst w'
  go_wp2_with fail
  refine (Q4.out w2).mono ?_
  rintro e w' ⟨rfl, hw⟩
  subst w'
  by_cases h0 : o = 0
  · have hz : q1 + 2 * q2 + 4 * q3 + 8 * q4 = 0 := by have := HO.out; omega
    go_wp2_with fail
    go_ret
    exact ⟨ret_int (by have := HV.out; rw [if_pos h0] at this; exact this), BC.out⟩
  · have hz : ¬ q1 + 2 * q2 + 4 * q3 + 8 * q4 = 0 := by have := HO.out; omega
    go_wp2_with fail
    go_ret
    exact ⟨ret_int (by have h2 := HV.out; have h3 := HO.out; rw [if_neg h0] at h2; omega), BC.out⟩
theorem rpixel_is (c d : Nat) (f : Nat → Int) (wr rd st lo bu : Int) (w : World) (h : HasR w c d f wr rd st lo bu) (hf : Words (wordAt f)) (W H X Y x y v : Int) (hv : pixelG (wordAt f) W H X Y x y = v) : Calls Tryd.prog 24 #[.pointer (some ⟨c, 0, none⟩), .agg #[.int .i64 W, .int .i64 H, .int .i64 X, .int .i64 Y], .int .i64 x, .int .i64 y] w fun e w' => e = .returned (.int .i64 v) ∧ Below w.heap.size w w' := by
  by_cases hm : okMap W H = true
  · unfold pixelG at hv
    rw [if_pos hm] at hv
    have k := (okMap_iff W H).1 hm
    have hp := onOf_le X x W (by omega)
    have hr := onOf_le Y y H (by omega)
    have hc := hf (onOf Y y H / 8 * W + onOf X x W / 8)
    unfold pixG pixC cellG lieOf at hv
    have t1 : Int.tmod (X % 65536 + x % 65536) (8 * W) = onOf X x W := Int.tmod_eq_emod_of_nonneg (by omega)
    have t2 : Int.tmod (Y % 65536 + y % 65536) (8 * H) = onOf Y y H := Int.tmod_eq_emod_of_nonneg (by omega)
    rcases k with ⟨rfl | rfl | rfl, rfl | rfl⟩
    · exact rpixel_32_32 c d f wr rd st lo bu w h X Y x y v _ _ _ _ _ _ _ _ _ _ _ _ t1 t2 (Int.tdiv_eq_ediv_of_nonneg hp.1) (Int.tdiv_eq_ediv_of_nonneg hr.1) (Int.tmod_eq_emod_of_nonneg hr.1) (Int.tmod_eq_emod_of_nonneg hp.1) (Int.tmod_eq_emod_of_nonneg hc.1) (Int.tdiv_eq_ediv_of_nonneg hc.1) (by omega) (by omega) (by omega) (by omega) (by omega) (by omega) (by omega) (by omega) (by omega) (by omega) (by omega) (by omega) (by omega) (by omega) (by omega) (by omega) rfl rfl rfl rfl hv
    · exact rpixel_32_64 c d f wr rd st lo bu w h X Y x y v _ _ _ _ _ _ _ _ _ _ _ _ t1 t2 (Int.tdiv_eq_ediv_of_nonneg hp.1) (Int.tdiv_eq_ediv_of_nonneg hr.1) (Int.tmod_eq_emod_of_nonneg hr.1) (Int.tmod_eq_emod_of_nonneg hp.1) (Int.tmod_eq_emod_of_nonneg hc.1) (Int.tdiv_eq_ediv_of_nonneg hc.1) (by omega) (by omega) (by omega) (by omega) (by omega) (by omega) (by omega) (by omega) (by omega) (by omega) (by omega) (by omega) (by omega) (by omega) (by omega) (by omega) rfl rfl rfl rfl hv
    · exact rpixel_64_32 c d f wr rd st lo bu w h X Y x y v _ _ _ _ _ _ _ _ _ _ _ _ t1 t2 (Int.tdiv_eq_ediv_of_nonneg hp.1) (Int.tdiv_eq_ediv_of_nonneg hr.1) (Int.tmod_eq_emod_of_nonneg hr.1) (Int.tmod_eq_emod_of_nonneg hp.1) (Int.tmod_eq_emod_of_nonneg hc.1) (Int.tdiv_eq_ediv_of_nonneg hc.1) (by omega) (by omega) (by omega) (by omega) (by omega) (by omega) (by omega) (by omega) (by omega) (by omega) (by omega) (by omega) (by omega) (by omega) (by omega) (by omega) rfl rfl rfl rfl hv
    · exact rpixel_64_64 c d f wr rd st lo bu w h X Y x y v _ _ _ _ _ _ _ _ _ _ _ _ t1 t2 (Int.tdiv_eq_ediv_of_nonneg hp.1) (Int.tdiv_eq_ediv_of_nonneg hr.1) (Int.tmod_eq_emod_of_nonneg hr.1) (Int.tmod_eq_emod_of_nonneg hp.1) (Int.tmod_eq_emod_of_nonneg hc.1) (Int.tdiv_eq_ediv_of_nonneg hc.1) (by omega) (by omega) (by omega) (by omega) (by omega) (by omega) (by omega) (by omega) (by omega) (by omega) (by omega) (by omega) (by omega) (by omega) (by omega) (by omega) rfl rfl rfl rfl hv
    · exact rpixel_128_32 c d f wr rd st lo bu w h X Y x y v _ _ _ _ _ _ _ _ _ _ _ _ t1 t2 (Int.tdiv_eq_ediv_of_nonneg hp.1) (Int.tdiv_eq_ediv_of_nonneg hr.1) (Int.tmod_eq_emod_of_nonneg hr.1) (Int.tmod_eq_emod_of_nonneg hp.1) (Int.tmod_eq_emod_of_nonneg hc.1) (Int.tdiv_eq_ediv_of_nonneg hc.1) (by omega) (by omega) (by omega) (by omega) (by omega) (by omega) (by omega) (by omega) (by omega) (by omega) (by omega) (by omega) (by omega) (by omega) (by omega) (by omega) rfl rfl rfl rfl hv
    · exact rpixel_128_64 c d f wr rd st lo bu w h X Y x y v _ _ _ _ _ _ _ _ _ _ _ _ t1 t2 (Int.tdiv_eq_ediv_of_nonneg hp.1) (Int.tdiv_eq_ediv_of_nonneg hr.1) (Int.tmod_eq_emod_of_nonneg hr.1) (Int.tmod_eq_emod_of_nonneg hp.1) (Int.tmod_eq_emod_of_nonneg hc.1) (Int.tdiv_eq_ediv_of_nonneg hc.1) (by omega) (by omega) (by omega) (by omega) (by omega) (by omega) (by omega) (by omega) (by omega) (by omega) (by omega) (by omega) (by omega) (by omega) (by omega) (by omega) rfl rfl rfl rfl hv
  · unfold pixelG at hv
    rw [if_neg hm] at hv
    exact rpixel_no c W H X Y x y v (by simpa using hm) hv w
end Go.Proofs.YtnhjhmfiapjenaaDoor.T17
