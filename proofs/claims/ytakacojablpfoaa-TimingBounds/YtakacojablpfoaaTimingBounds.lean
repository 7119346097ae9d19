/- For every setup the law TimingBounds of layer 14 returns true: whatever the registers, a line has from 8 to 512 pixels, that fit into it, lines are shown within the frame, side by side, and the display's end is one of its lines. No condition. -/
import Derived.Test.YtakacojablpfoaaGeo14
import Derived.Test.YtakacojablpfoaaStructs
import Derived.Deep.CutRange
namespace Go.Proofs.Ytakacojablpfoaa
open Go.ChangeShapes Go.WideShapes Go.ChangeAt Go.RowKit
open Go.ChangeMaps (open_string shut_string)
set_option linter.unusedVariables false
theorem own : ownKnob Try.prog.godebug = none := by kernel_rfl

set_option maxHeartbeats 2000000 in
theorem bounds_all (p m a b c d f g' x t v k l : Int) (C1 : Hid (∀ w, Calls Try.prog 8 #[.agg #[.int .i64 a, .int .i64 b, .int .i64 c, .int .i64 d, .int .i64 f, .int .i64 g']] w fun e w' => e = .returned (.agg #[.int .i64 x, .int .i64 t, .int .i64 v, .int .i64 k, .int .i64 l]) ∧ Below w.heap.size w w'))
    (hp : inB 2 4 a = p) (hm : x * p = m) (m0 : 0 ≤ m) (x0 : 8 ≤ x) (x1 : x ≤ 512) (x2 : m ≤ 1365) (l0 : 262 ≤ l) (l1 : l ≤ 263) (t0 : 3 ≤ t) (tv : t ≤ v) (vl : v ≤ l) (k0 : 0 ≤ k) (k1 : k < l) (w : World) :
    Calls Try.prog 4 #[.agg #[.int .i64 a, .int .i64 b, .int .i64 c, .int .i64 d, .int .i64 f, .int .i64 g']] w fun e w' => e = .returned (.bool true) ∧ Below w.heap.size w w' := by
  have CF := hide (fun w => frame_any x t v k l w (by omega) (by omega))
  go_enter Try.func4, Try.ntmps4
  go_wp2_with fail
  refine (C1.out _).mono ?_
  rintro e w1 ⟨rfl, b1⟩
  have B1 := hide ((bnext ((Below.refl _ w).alloc (Nat.le_refl _) _) b1))
  have a0 : w1.cell? ⟨w.heap.size, 0, none⟩ = some (.int .i64 a) := (cell_of_row w1 w.heap.size 0 _ _ _ ((b1.block w.heap.size (by simp)).trans (heap_alloc_new w _))).trans rfl
  have hs : w.heap.size < w1.heap.size := Nat.lt_of_lt_of_le (by simp) b1.size
  obtain ⟨g, hg⟩ : ∃ g, g = w1.heap.size := ⟨_, rfl⟩
  have R1 := hide (show HasG (w1.alloc (.cells #[.int .i64 x, .int .i64 t, .int .i64 v, .int .i64 k, .int .i64 l] 25)) g x t v k l by rw [hg]; exact hasG_new w1 x t v k l)
  have S1 := hide (B1.out.alloc B1.out.size (.cells #[.int .i64 x, .int .i64 t, .int .i64 v, .int .i64 k, .int .i64 l] 25))
  clear b1 C1 B1
  have A1 := (Below.refl _ w1).alloc (Nat.le_refl _) (.cells #[.int .i64 x, .int .i64 t, .int .i64 v, .int .i64 k, .int .i64 l] 25)
  have d0 : (w1.alloc (.cells #[.int .i64 x, .int .i64 t, .int .i64 v, .int .i64 k, .int .i64 l] 25)).cell? ⟨w.heap.size, 0, none⟩ = some (.int .i64 a) := (A1.cell (p := ⟨w.heap.size, 0, none⟩) hs).trans a0
  clear a0 hs A1
  go_upto_region 2 with fail
  rw [← hg]
  generalize w1.alloc (.cells #[.int .i64 x, .int .i64 t, .int .i64 v, .int .i64 k, .int .i64 l] 25) = wa at *
  clear hg
  go_cut [4] from 10 to 13 (fun sd wx => sd = .int .i64 p ∧ wx = wa)
  case first =>
    have P := hide hp
    clear hp x0 x1 x2 l0 l1 t0 tv vl k0 k1
    go_wp2_with fail
    all_goals (go_meet; exact ⟨by have := P.out; unfold inB at this; congr 1; omega, rfl⟩)
  obtain ⟨rfl, rfl⟩ := hcut
  clear d0 hp
  have c0 := R1.out.c0
  have c1 := R1.out.c1
  have c2 := R1.out.c2
  have c3 := R1.out.c3
  have c4 := R1.out.c4
  have q1 : decide (x < 8) = false := decide_eq_false (by omega)
  have q2 : decide (512 < x) = false := decide_eq_false (by omega)
  have q0 : wrap64 (x * p) = m := by rw [hm]; unfold wrap64; omega
  have q3 : decide (1365 < m) = false := decide_eq_false (by omega)
  have q4 : decide (l < 262) = false := decide_eq_false (by omega)
  have q5 : decide (263 < l) = false := decide_eq_false (by omega)
  have q6 : decide (t < 3) = false := decide_eq_false (by omega)
  have q7 : decide (v < t) = false := decide_eq_false (by omega)
  have q8 : decide (l < v) = false := decide_eq_false (by omega)
  have q9 : decide (k < 0) = false := decide_eq_false (by omega)
  have q10 : decide (l ≤ k) = false := decide_eq_false (by omega)
  go_upto_region 5 with fail
  clear q0 q1 q2 q3 q4 q5 q6 q7 q8 q9 q10 x0 x1 x2 k0 k1 c0 c1 c2 c3 c4 hm m0
  go_wp2_with fail
  go_loopw [5, 6] (fun sn sl wr => ∃ j : Int, -1 ≤ j ∧ j ≤ 265 ∧ sl = .int .i64 j ∧ sn = .int .i64 (cntTo t v j) ∧ HasG wr g x t v k l ∧ Below w.heap.size w wr) (fun _ sl _ => 266 - (intOf sl + 1).toNat)
  case atStart => exact ⟨-1, by decide, by decide, rfl, by rw [cnt_low (by omega) tv], R1.out, S1.out⟩
  case round =>
    obtain ⟨j, j0, j1, rfl, rfl, hR, hB⟩ := hrel
    have R := hide hR
    have B := hide hB
    have hc := cnt_le (j := j) tv
    clear hR hB R1 S1
    by_cases h : j < 265
    · have CS := hide (fun w => shown_any x t v k l j w (by omega) (by omega))
      by_cases hs : t ≤ j ∧ j < v
      · obtain ⟨e1, e2, e3⟩ := cnt_in hs.1 hs.2
        rw [e1] at CS
        rw [e2]
        obtain ⟨s0, s1⟩ := hs
        go_wp2_with (first | (refine wpList_load_row rfl 25 (.tmp 3) rfl g rfl 25 _ (0, 0) _ R.out Try.underlying25 rfl (by kernel_rfl) ?_))
        refine (CS.out _).mono ?_
        rintro e w3 ⟨rfl, b3⟩
        have R3' := R.out.next b3
        have R3 := hide R3'
        have c4 := R3'.c4
        have B3 := hide (bnext B.out b3)
        clear b3 R3'
        go_wp2_with fail
        go_roundw
        case rel => exact ⟨j + 1, by omega, by omega, rfl, by rw [e3], R3.out, B3.out⟩
        case measure => simp [intOf]; omega
      · obtain ⟨e1, e2⟩ := cnt_out (j := j) (by omega) tv
        rw [e1] at CS
        go_wp2_with (first | (refine wpList_load_row rfl 25 (.tmp 3) rfl g rfl 25 _ (0, 0) _ R.out Try.underlying25 rfl (by kernel_rfl) ?_))
        refine (CS.out _).mono ?_
        rintro e w3 ⟨rfl, b3⟩
        have R3' := R.out.next b3
        have R3 := hide R3'
        have c4 := R3'.c4
        have B3 := hide (bnext B.out b3)
        clear b3 R3'
        go_wp2_with fail
        go_roundw
        case rel => exact ⟨j + 1, by omega, by omega, rfl, by rw [e2], R3.out, B3.out⟩
        case measure => simp [intOf]; omega
    · obtain rfl : j = 265 := by omega
      have ec := cnt_end (j := 265) (show v ≤ 265 by omega) tv
      rw [ec]
      have g0 := kept_cell R.out.c0 R.out.lt
      have g1 := kept_cell R.out.c1 R.out.lt
      have g2 := kept_cell R.out.c2 R.out.lt
      have g3 := kept_cell R.out.c3 R.out.lt
      have g4 := kept_cell R.out.c4 R.out.lt
      clear ec hc
      go_wp2_with fail
      haveI := kept_some wr
      refine wp_region_kept (by kernel_rfl) (by kernel_rfl) ?_
      repeat (go_big_quiet_step ((first
        | (go_at_call 16; exact kept_call (CF.out _)))))
      refine wpQuiet_nil ?_
      rintro _ ⟨wk, rfl⟩
      go_wp2
      go_ret
      exact ⟨rfl, bnext B.out wk.below⟩
theorem timingBounds_walk (a b c d f g' : Int) (w0 : (Lit.int .i64 a).wf = true) (w1 : (Lit.int .i64 b).wf = true) (w2 : (Lit.int .i64 c).wf = true) (w3 : (Lit.int .i64 d).wf = true) (w4 : (Lit.int .i64 f).wf = true) (w5 : (Lit.int .i64 g').wf = true) (w : World) :
    Calls Try.prog 4 #[.agg #[.int .i64 a, .int .i64 b, .int .i64 c, .int .i64 d, .int .i64 f, .int .i64 g']] w fun e w' => e = .returned (.bool true) ∧ Below w.heap.size w w' := by
  obtain ⟨x, t, v, k, l, C1, x0, x1, x2, l0, l1, t0, tv, vl, k0, k1⟩ := geo_of a b c d f g'
  have hp := inB_le 2 4 a (by decide)
  exact bounds_all _ _ a b c d f g' x t v k l (hide C1) rfl rfl (Int.mul_nonneg (by omega) (by omega)) x0 x1 x2 l0 l1 t0 tv vl k0 k1 w

set_option maxRecDepth 100000 in
theorem timingBounds_lifted (os : Os) (started : os.Started) (H : Type) (enc : TypeId × Value → H) :
    ReturnsInHanded {} Try.checked os 4 .any (Rows.timingBoundsSpec.pre6 enc Try.prog Try.f4 Rows.timingBoundsRow.domain false) (Rows.timingBoundsSpec.post enc Try.prog Try.f4 false true false false) := by
  refine returnsInHanded_of_change (C := Try.checked) own started (by kernel_rfl) Try.func4
    (ChangeSpec.witness6 (enc := enc) (C := Try.checked) false ⟨#[], #[.agg #[.int .i64 0, .int .i64 0, .int .i64 0, .int .i64 0, .int .i64 0, .int .i64 0]], []⟩ 8 (by kernel_rfl) (by kernel_rfl) (by kernel_rfl) (by kernel_rfl)) ?_
  intro W base args ds gs before hval0 hW hcnd _
  have hval : ∀ (j : Nat) t v, Try.f4.params[j]? = some t → args[j]? = some v → Value.okWide Try.prog W .any base t v := hval0
  have hW' := hW
  obtain ⟨p, q, hA0, hV, rfl, hfz, hnd⟩ := hW
  have hA : DataW.TrodAll enc Try.prog W 0 (fun _ => true) true Try.f4.params.toList args.toList ds p := hA0
  rw [Try.params4] at hA hval
  obtain ⟨v0, vs0, d0, ds0, p0, q0, hargs, rfl, rfl, h0, r0⟩ := trodAll_cons hA
  obtain ⟨rfl, rfl, rfl⟩ := trodAll_nil r0
  obtain rfl : args = #[v0] := by cases args; simp_all
  obtain ⟨rfl, rfl⟩ := trodVars_none hV
  have k0 := h0
  have lt0 : ∀ x ∈ p0, x.block < W.heap.size := by obtain ⟨m, hm⟩ := k0; exact DataW.trod_lt m _ _ _ hm
  obtain ⟨cs0, fu0, rfl, sz0, hf0⟩ := open_struct_cells (n := 6) Try.underlying23 (by kernel_rfl) (hval 0 23 v0 rfl rfl) h0
  obtain ⟨y0f0, hy0f0⟩ := hf0 0 _ rfl
  obtain ⟨a0f0, g0f0, _, w0f0⟩ := DataW.trod_int Try.underlying3 hy0f0
  have e0f0 := cell_at (by kernel_rfl) g0f0
  obtain ⟨y0f1, hy0f1⟩ := hf0 1 _ rfl
  obtain ⟨a0f1, g0f1, _, w0f1⟩ := DataW.trod_int Try.underlying3 hy0f1
  have e0f1 := cell_at (by kernel_rfl) g0f1
  obtain ⟨y0f2, hy0f2⟩ := hf0 2 _ rfl
  obtain ⟨a0f2, g0f2, _, w0f2⟩ := DataW.trod_int Try.underlying3 hy0f2
  have e0f2 := cell_at (by kernel_rfl) g0f2
  obtain ⟨y0f3, hy0f3⟩ := hf0 3 _ rfl
  obtain ⟨a0f3, g0f3, _, w0f3⟩ := DataW.trod_int Try.underlying3 hy0f3
  have e0f3 := cell_at (by kernel_rfl) g0f3
  obtain ⟨y0f4, hy0f4⟩ := hf0 4 _ rfl
  obtain ⟨a0f4, g0f4, _, w0f4⟩ := DataW.trod_int Try.underlying3 hy0f4
  have e0f4 := cell_at (by kernel_rfl) g0f4
  obtain ⟨y0f5, hy0f5⟩ := hf0 5 _ rfl
  obtain ⟨a0f5, g0f5, _, w0f5⟩ := DataW.trod_int Try.underlying3 hy0f5
  have e0f5 := cell_at (by kernel_rfl) g0f5
  obtain rfl : cs0 = #[.int .i64 a0f0, .int .i64 a0f1, .int .i64 a0f2, .int .i64 a0f3, .int .i64 a0f4, .int .i64 a0f5] := cells_are [.int .i64 a0f0, .int .i64 a0f1, .int .i64 a0f2, .int .i64 a0f3, .int .i64 a0f4, .int .i64 a0f5] sz0 (fun j hj => by
    rcases j with _ | _ | _ | _ | _ | _ | j
    · exact e0f0
    · exact e0f1
    · exact e0f2
    · exact e0f3
    · exact e0f4
    · exact e0f5
    · exact absurd hj (by simp only [List.length_cons, List.length_nil]; omega))
  clear hy0f0 g0f0 e0f0 hy0f1 g0f1 e0f1 hy0f2 g0f2 e0f2 hy0f3 g0f3 e0f3 hy0f4 g0f4 e0f4 hy0f5 g0f5 e0f5 sz0 hf0
  clear hA0 hval0
  refine (timingBounds_walk a0f0 a0f1 a0f2 a0f3 a0f4 a0f5 w0f0 w0f1 w0f2 w0f3 w0f4 w0f5 W).mono fun e W' ⟨he, bel⟩ => ?_
  subst he
  exact ⟨_, rfl, _, _, _, [], _, [], hW', trodAll_mk1 (shut_bool Try.underlying4 _), (trodAll_cons_mk (Below.trod laidOut (by kernel_rfl) (of_decide_eq_true (by kernel_rfl)) k0 bel lt0) trodAll_mk0), rfl, bel.frame _, fun h => by cases h⟩

theorem timingBounds_over : Rows.timingBoundsRow.holds Try.pinned (OpenSpec.ofChange Rows.timingBoundsSpec) :=
  OpenClaim.holds_of_wide 4 Try.f4 rfl rfl rfl rfl rfl rfl rfl ⟨rfl, rfl, rfl, rfl, rfl⟩ rfl rfl rfl rfl rfl (by kernel_rfl) Try.func4 (by kernel_rfl)
    (of_decide_eq_true (by kernel_rfl)) (by unfold Func.isWrapper; first | (rw [if_pos (by decide +kernel)]; kernel_rfl) | (rw [if_neg (by decide +kernel)]; exact ⟨rfl, rfl⟩))
    (fun os started H enc _ => timingBounds_lifted os started H enc)

theorem timingBounds_holds : Rows.TimingBoundsSaid := timingBounds_over
#print axioms timingBounds_holds
end Go.Proofs.Ytakacojablpfoaa
