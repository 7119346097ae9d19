/- The document's own: the periods with the LFO. -/
import Derived.Test.YtcpilhbinkamiaaDoorRPer22
import Derived.Test.YtcpilhbinkamiaaDoorGoOn22
namespace Go.Proofs.YtcpilhbinkamiaaDoor
open Go.RowKit
set_option linter.unusedVariables false

set_option maxHeartbeats 1600000 in
theorem rper_1 (f : Nat → Int) (ok : okP f) (h : lfoOf f ≠ 0) (w : World) : Calls Tryd.prog 39 #[.agg (rowF (iv f) 244), .int .i64 1] w fun e w' => e = Ending.returned (.int .i64 (perK f 1)) ∧ Below w.heap.size w w' := by
  have P0 := hide (hasF_new 34 w 244 (iv f))
  have B0 : Hid (Below w.heap.size w (w.alloc (.cells (rowF (iv f) 244) 34))) := hide ((Below.refl _ w).alloc (Nat.le_refl _) _)
  have ZI := hide (info_R (iv f))
  have KN := hide (fun w => rnoisy_any f 1 (by decide) w)
  have KL := hide (fun w => rlfo_any f ok.2.2.2.1.1 w)
  have x0 := (ok.chan (k := 1) (by decide)).1
  have hl := lfoOf_in ok
  obtain ⟨y, hy⟩ : ∃ y, ch f 1 0 = y := ⟨_, rfl⟩
  rw [hy] at x0
  rw [show nyOf f 1 = false by unfold nyOf; simp] at KN
  have z0 := ok.2.2.1
  obtain ⟨z, hz⟩ : ∃ z, f 2 = z := ⟨_, rfl⟩
  rw [hz] at z0
  have hq : perK f 1 = 6 * orL y 4096 * orL z 256 := by
    unfold perK
    rw [if_neg (by unfold nyOf; simp), if_neg (by omega), if_pos ⟨rfl, h⟩, hy, hz]
  generalize lfoOf f = m at *
  have hm : 0 < m := by omega
  by_cases hy0 : y = 0
  · by_cases hz0 : z = 0
    · have HQ : Hid (perK f 1 = 6291456) := hide (by rw [hq, hy0, hz0]; rfl)
      clear hq
      set_option maxRecDepth 20000 in
      go_enter Tryd.func39, Tryd.ntmps39
      set_option maxRecDepth 20000 in
      go_wp2_with (first
        | (refine wpList_load_row rfl 34 (.tmp 2) rfl w.heap.size rfl _ _ _ _ P0.out Tryd.underlying34 rfl ZI.out ?_)
        | (go_at_call 23; refine (KN.out _).mono ?_; rintro e w1 ⟨rfl, c1⟩; have P1 := hide (P0.out.next c1); have B1 := hide (bnext B0.out c1); have y0 := P1.out.int 44 (by decide); change w1.cell? ⟨w.heap.size, 44, none⟩ = some (.int .i64 (ch f 1 0)) at y0; rw [hy] at y0; clear c1 P0 B0)
        | (refine wpList_load_want rfl 34 (.tmp 2) rfl w.heap.size rfl _ _ _ _ P1.out Tryd.underlying34 rfl ZI.out ?_)
        | (go_at_call 22; refine (KL.out _).mono ?_; rintro e w2 ⟨rfl, c2⟩; have P2 := hide (P1.out.next c2); have B2 := hide (bnext B1.out c2); have y2 := P2.out.int 2 (by decide); rw [hz] at y2; clear c2 P1 B1))
      go_ret
      exact ⟨ret_int (by rw [HQ.out]), B2.out⟩
    · have HQ : Hid (perK f 1 = 6 * (4096 * z)) := hide (by rw [hq, hy0]; unfold orL; rw [if_neg hz0, if_pos rfl]; omega)
      clear hq
      set_option maxRecDepth 20000 in
      go_enter Tryd.func39, Tryd.ntmps39
      set_option maxRecDepth 20000 in
      go_wp2_with (first
        | (refine wpList_load_row rfl 34 (.tmp 2) rfl w.heap.size rfl _ _ _ _ P0.out Tryd.underlying34 rfl ZI.out ?_)
        | (go_at_call 23; refine (KN.out _).mono ?_; rintro e w1 ⟨rfl, c1⟩; have P1 := hide (P0.out.next c1); have B1 := hide (bnext B0.out c1); have y0 := P1.out.int 44 (by decide); change w1.cell? ⟨w.heap.size, 44, none⟩ = some (.int .i64 (ch f 1 0)) at y0; rw [hy] at y0; clear c1 P0 B0)
        | (refine wpList_load_want rfl 34 (.tmp 2) rfl w.heap.size rfl _ _ _ _ P1.out Tryd.underlying34 rfl ZI.out ?_)
        | (go_at_call 22; refine (KL.out _).mono ?_; rintro e w2 ⟨rfl, c2⟩; have P2 := hide (P1.out.next c2); have B2 := hide (bnext B1.out c2); have y2 := P2.out.int 2 (by decide); rw [hz] at y2; clear c2 P1 B1))
      go_ret
      exact ⟨ret_int (by rw [HQ.out]), B2.out⟩
  · by_cases hz0 : z = 0
    · have HQ : Hid (perK f 1 = 6 * (y * 256)) := hide (by rw [hq, hz0]; unfold orL; rw [if_neg hy0, if_pos rfl]; omega)
      clear hq
      set_option maxRecDepth 20000 in
      go_enter Tryd.func39, Tryd.ntmps39
      set_option maxRecDepth 20000 in
      go_wp2_with (first
        | (refine wpList_load_row rfl 34 (.tmp 2) rfl w.heap.size rfl _ _ _ _ P0.out Tryd.underlying34 rfl ZI.out ?_)
        | (go_at_call 23; refine (KN.out _).mono ?_; rintro e w1 ⟨rfl, c1⟩; have P1 := hide (P0.out.next c1); have B1 := hide (bnext B0.out c1); have y0 := P1.out.int 44 (by decide); change w1.cell? ⟨w.heap.size, 44, none⟩ = some (.int .i64 (ch f 1 0)) at y0; rw [hy] at y0; clear c1 P0 B0)
        | (refine wpList_load_want rfl 34 (.tmp 2) rfl w.heap.size rfl _ _ _ _ P1.out Tryd.underlying34 rfl ZI.out ?_)
        | (go_at_call 22; refine (KL.out _).mono ?_; rintro e w2 ⟨rfl, c2⟩; have P2 := hide (P1.out.next c2); have B2 := hide (bnext B1.out c2); have y2 := P2.out.int 2 (by decide); rw [hz] at y2; clear c2 P1 B1))
      go_ret
      exact ⟨ret_int (by rw [HQ.out]), B2.out⟩
    · have HQ : Hid (perK f 1 = 6 * (y * z)) := hide (by rw [hq]; unfold orL; rw [if_neg hy0, if_neg hz0, Int.mul_assoc])
      have m1 : 0 ≤ y * z := Int.mul_nonneg x0.1 z0.1
      have m2 : y * z ≤ 4095 * 255 := Int.mul_le_mul x0.2 z0.2 z0.1 (by omega)
      clear hq
      set_option maxRecDepth 20000 in
      go_enter Tryd.func39, Tryd.ntmps39
      set_option maxRecDepth 20000 in
      go_wp2_with (first
        | (refine wpList_load_row rfl 34 (.tmp 2) rfl w.heap.size rfl _ _ _ _ P0.out Tryd.underlying34 rfl ZI.out ?_)
        | (go_at_call 23; refine (KN.out _).mono ?_; rintro e w1 ⟨rfl, c1⟩; have P1 := hide (P0.out.next c1); have B1 := hide (bnext B0.out c1); have y0 := P1.out.int 44 (by decide); change w1.cell? ⟨w.heap.size, 44, none⟩ = some (.int .i64 (ch f 1 0)) at y0; rw [hy] at y0; clear c1 P0 B0)
        | (refine wpList_load_want rfl 34 (.tmp 2) rfl w.heap.size rfl _ _ _ _ P1.out Tryd.underlying34 rfl ZI.out ?_)
        | (go_at_call 22; refine (KL.out _).mono ?_; rintro e w2 ⟨rfl, c2⟩; have P2 := hide (P1.out.next c2); have B2 := hide (bnext B1.out c2); have y2 := P2.out.int 2 (by decide); rw [hz] at y2; clear c2 P1 B1))
      go_ret
      exact ⟨ret_int (by rw [HQ.out]), B2.out⟩
set_option maxHeartbeats 1600000 in
theorem rper_0 (f : Nat → Int) (ok : okP f) (h : lfoOf f ≠ 0) (w : World) : Calls Tryd.prog 39 #[.agg (rowF (iv f) 244), .int .i64 0] w fun e w' => e = Ending.returned (.int .i64 (perK f 0)) ∧ Below w.heap.size w w' := by
  have P0 := hide (hasF_new 34 w 244 (iv f))
  have B0 : Hid (Below w.heap.size w (w.alloc (.cells (rowF (iv f) 244) 34))) := hide ((Below.refl _ w).alloc (Nat.le_refl _) _)
  have ZI := hide (info_R (iv f))
  have KN := hide (fun w => rnoisy_any f 0 (by decide) w)
  have KL := hide (fun w => rlfo_any f ok.2.2.2.1.1 w)
  have x0 := (ok.chan (k := 0) (by decide)).1
  have hl := lfoOf_in ok
  obtain ⟨y, hy⟩ : ∃ y, ch f 0 0 = y := ⟨_, rfl⟩
  rw [hy] at x0
  rw [show nyOf f 0 = false by unfold nyOf; simp] at KN
  obtain ⟨c0, c1, c2, c3, c4, c5, c6, c7, c8⟩ := ok.chan (k := 1) (by decide)
  have w8 := c8 (ch f 1 36).toNat (by omega)
  have hq := per_first h
  have hfr : frq f = (y + (ch f 1 (4 + (ch f 1 36).toNat) - 16) * 4 ^ (lfoOf f - 1).toNat) % 4096 := by unfold frq; rw [hy]
  obtain ⟨ix, hix⟩ : ∃ ix, ch f 1 36 = ix := ⟨_, rfl⟩
  rw [hix] at c4 w8 hfr
  obtain ⟨v, hv⟩ : ∃ v, ch f 1 (4 + ix.toNat) = v := ⟨_, rfl⟩
  rw [hv] at w8 hfr
  generalize lfoOf f = m at *
  have hm : 0 < m := by omega
  obtain ⟨N, hN⟩ : ∃ N : Nat, m = (N : Int) + 1 := ⟨(m - 1).toNat, by omega⟩
  have hN2 : N ≤ 2 := by omega
  have e4 : ((2 ^ (2 * N) : Nat) : Int) = 4 ^ N := by
    rcases (show N = 0 ∨ N = 1 ∨ N = 2 by omega) with rfl | rfl | rfl <;> rfl
  obtain ⟨p4, hp4⟩ : ∃ p : Int, 4 ^ N = p := ⟨_, rfl⟩
  have p1 : 1 ≤ p4 ∧ p4 ≤ 16 := by
    rw [← hp4]
    rcases (show N = 0 ∨ N = 1 ∨ N = 2 by omega) with rfl | rfl | rfl <;> decide
  rw [show (m - 1).toNat = N by omega, hp4] at hfr
  have KP : Hid (∀ u : World, Calls Tryd.prog 55 #[.int .i64 (2 * (m - 1))] u fun e w' => e = Ending.returned (.int .i64 p4) ∧ w' = u) := hide (fun u => by
    have k := rpower_any (2 * N) u (by omega)
    rw [e4, hp4, show ((2 * N : Nat) : Int) = 2 * (m - 1) by omega] at k
    exact k)
  have q1 : -256 ≤ (v - 16) * p4 ∧ (v - 16) * p4 ≤ 256 := by
    have a1 : (v - 16) * p4 ≤ 15 * p4 := Int.mul_le_mul_of_nonneg_right (by omega) (by omega)
    have a2 : -16 * p4 ≤ (v - 16) * p4 := Int.mul_le_mul_of_nonneg_right (by omega) (by omega)
    omega
  have KM := hide (fun u => rmod_any (y + (v - 16) * p4) 4096 u (by decide) (by decide))
  rw [← hfr] at KM
  have fi : 0 ≤ frq f ∧ frq f ≤ 4095 := by rw [hfr]; omega
  generalize frq f = fq at *
  clear hfr c0 c1 c2 c3 c5 c6 c7 c8 hp4 e4 hN hN2 h
  by_cases hf0 : fq = 0
  · have HQ : Hid (perK f 0 = 24576) := hide (by rw [hq, hf0]; rfl)
    clear hq
    set_option maxRecDepth 20000 in
    go_enter Tryd.func39, Tryd.ntmps39
    set_option maxRecDepth 20000 in
    go_wp2_with (first
      | (refine wpList_load_row rfl 34 (.tmp 2) rfl w.heap.size rfl _ _ _ _ P0.out Tryd.underlying34 rfl ZI.out ?_)
      | (go_at_call 23; refine (KN.out _).mono ?_; rintro e w1 ⟨rfl, c1⟩; have P1 := hide (P0.out.next c1); have B1 := hide (bnext B0.out c1); have y0 := P1.out.int 4 (by decide); change w1.cell? ⟨w.heap.size, 4, none⟩ = some (.int .i64 (ch f 0 0)) at y0; rw [hy] at y0; clear c1 P0 B0)
      | (refine wpList_load_want rfl 34 (.tmp 2) rfl w.heap.size rfl _ _ _ _ P1.out Tryd.underlying34 rfl ZI.out ?_)
      | (go_at_call 22; refine (KL.out _).mono ?_; rintro e w2 ⟨rfl, c2⟩; have P2 := hide (P1.out.next c2); have B2 := hide (bnext B1.out c2); have y0 := P2.out.int 4 (by decide); clear y0; clear c2 P1 B1))
    have z1 : w2.cell? ⟨w.heap.size, 80, none⟩ = some (.int .i64 ix) := by rw [← hix]; exact P2.out.int 80 (by decide)
    have z2 : w2.cell? ⟨w.heap.size, 48 + ix.toNat, none⟩ = some (.int .i64 v) := by
      have k := P2.out.int (48 + ix.toNat) (by omega)
      rw [show f (48 + ix.toNat) = v by rw [← hv]; unfold ch; congr 1; omega] at k
      exact k
    have k1 := kept_cell z1 P2.out.lt
    have k2 := kept_cell z2 P2.out.lt
    haveI := kept_some w2
    refine wp_region_kept (by kernel_rfl) (by kernel_rfl) ?_
    set_option maxRecDepth 20000 in
    repeat (first
      | (refine wpQuiet_row rfl 34 (.tmp 2) rfl w.heap.size rfl 34 _ (0, 0) _ (fun w' ⟨x, hx⟩ => by rw [hx]; exact (x.block _ P2.out.lt).trans P2.out) Tryd.underlying34 rfl ZI.out ?_; simp only [Act.put, List.setIfInBounds_toArray, List.set_cons_succ, List.set_cons_zero])
      | go_big_quiet_step ((first | (go_at_call 22; exact kept_call (KL.out _)) | (go_at_call 55; exact kept_same (KP.out _)))))
    refine wpQuiet_nil ?_
    rintro _ ⟨wk, rfl⟩
    have B3 := hide (bnext B2.out wk.below)
    set_option maxRecDepth 20000 in
    go_wp2_with (first
      | (go_at_call 42; refine (KM.out _).mono ?_; rintro e w' ⟨rfl, hw⟩; subst w'))
    go_ret
    exact ⟨ret_int (by rw [HQ.out]), B3.out⟩
  · have HQ : Hid (perK f 0 = 6 * fq) := hide (by rw [hq]; unfold orL; rw [if_neg hf0])
    clear hq
    set_option maxRecDepth 20000 in
    go_enter Tryd.func39, Tryd.ntmps39
    set_option maxRecDepth 20000 in
    go_wp2_with (first
      | (refine wpList_load_row rfl 34 (.tmp 2) rfl w.heap.size rfl _ _ _ _ P0.out Tryd.underlying34 rfl ZI.out ?_)
      | (go_at_call 23; refine (KN.out _).mono ?_; rintro e w1 ⟨rfl, c1⟩; have P1 := hide (P0.out.next c1); have B1 := hide (bnext B0.out c1); have y0 := P1.out.int 4 (by decide); change w1.cell? ⟨w.heap.size, 4, none⟩ = some (.int .i64 (ch f 0 0)) at y0; rw [hy] at y0; clear c1 P0 B0)
      | (refine wpList_load_want rfl 34 (.tmp 2) rfl w.heap.size rfl _ _ _ _ P1.out Tryd.underlying34 rfl ZI.out ?_)
      | (go_at_call 22; refine (KL.out _).mono ?_; rintro e w2 ⟨rfl, c2⟩; have P2 := hide (P1.out.next c2); have B2 := hide (bnext B1.out c2); have y0 := P2.out.int 4 (by decide); clear y0; clear c2 P1 B1))
    have z1 : w2.cell? ⟨w.heap.size, 80, none⟩ = some (.int .i64 ix) := by rw [← hix]; exact P2.out.int 80 (by decide)
    have z2 : w2.cell? ⟨w.heap.size, 48 + ix.toNat, none⟩ = some (.int .i64 v) := by
      have k := P2.out.int (48 + ix.toNat) (by omega)
      rw [show f (48 + ix.toNat) = v by rw [← hv]; unfold ch; congr 1; omega] at k
      exact k
    have k1 := kept_cell z1 P2.out.lt
    have k2 := kept_cell z2 P2.out.lt
    haveI := kept_some w2
    refine wp_region_kept (by kernel_rfl) (by kernel_rfl) ?_
    set_option maxRecDepth 20000 in
    repeat (first
      | (refine wpQuiet_row rfl 34 (.tmp 2) rfl w.heap.size rfl 34 _ (0, 0) _ (fun w' ⟨x, hx⟩ => by rw [hx]; exact (x.block _ P2.out.lt).trans P2.out) Tryd.underlying34 rfl ZI.out ?_; simp only [Act.put, List.setIfInBounds_toArray, List.set_cons_succ, List.set_cons_zero])
      | go_big_quiet_step ((first | (go_at_call 22; exact kept_call (KL.out _)) | (go_at_call 55; exact kept_same (KP.out _)))))
    refine wpQuiet_nil ?_
    rintro _ ⟨wk, rfl⟩
    have B3 := hide (bnext B2.out wk.below)
    set_option maxRecDepth 20000 in
    go_wp2_with (first
      | (go_at_call 42; refine (KM.out _).mono ?_; rintro e w' ⟨rfl, hw⟩; subst w'))
    go_ret
    exact ⟨ret_int (by rw [HQ.out]), B3.out⟩
theorem rper_any (f : Nat → Int) (ok : okP f) (k : Nat) (hk : k < 6) (w : World) : Calls Tryd.prog 39 #[.agg (rowF (iv f) 244), .int .i64 (k : Int)] w fun e w' => e = Ending.returned (.int .i64 (perK f k)) ∧ Below w.heap.size w w' := by
  rcases hn : nyOf f k with _ | _
  · rcases (show k = 0 ∨ k = 1 ∨ 2 ≤ k by omega) with rfl | rfl | h2
    · by_cases h : lfoOf f = 0
      · exact rper_plain0 f ok w hn h
      · exact rper_0 f ok h w
    · by_cases h : lfoOf f = 0
      · exact rper_plain1 f ok w hn h
      · exact rper_1 f ok h w
    · exact rper_plain2 f ok k hk w hn h2
  · exact rper_noise f ok k hk w hn
end Go.Proofs.YtcpilhbinkamiaaDoor
