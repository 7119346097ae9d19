/- For every setup the law TimingWalks of layer 14 returns true: gone over line by line, from its first tick on, a frame has just its lines, and ends where Frame says. No condition. -/
import Derived.Test.YtakacojablpfoaaGeo14
import Derived.Test.YtakacojablpfoaaStructs
namespace Go.Proofs.Ytakacojablpfoaa
open Go.ChangeShapes Go.WideShapes Go.ChangeAt Go.RowKit
open Go.ChangeMaps (open_string shut_string)
set_option linter.unusedVariables false
theorem own : ownKnob Try.prog.godebug = none := by kernel_rfl

theorem line_at (j : Int) (j0 : 0 ≤ j) (j1 : j ≤ 1000) (w : World) : Calls Try.prog 10 #[.int .i64 (j * 1365)] w fun e w' => e = .returned (.tuple #[.int .i64 j, .int .i64 0]) ∧ w' = w := by
  have h := line_any (j * 1365) w (by omega) (by omega)
  rw [show j * 1365 / 1365 = j by omega, show j * 1365 % 1365 = 0 by omega] at h
  exact h
theorem next_at (j : Int) (j0 : 0 ≤ j) (j1 : j ≤ 1000) (w : World) : Calls Try.prog 14 #[.int .i64 (j * 1365)] w fun e w' => e = .returned (.int .i64 1365) ∧ w' = w := by
  have h := next_any (j * 1365) w (by omega) (by omega)
  rw [show j * 1365 % 1365 = 0 by omega] at h
  exact h
theorem timingWalks_walk (a b c d f g' : Int) (w0 : (Lit.int .i64 a).wf = true) (w1 : (Lit.int .i64 b).wf = true) (w2 : (Lit.int .i64 c).wf = true) (w3 : (Lit.int .i64 d).wf = true) (w4 : (Lit.int .i64 f).wf = true) (w5 : (Lit.int .i64 g').wf = true) (w : World) :
    Calls Try.prog 7 #[.agg #[.int .i64 a, .int .i64 b, .int .i64 c, .int .i64 d, .int .i64 f, .int .i64 g']] w fun e w' => e = .returned (.bool true) ∧ Below w.heap.size w w' := by
  clear w0 w1 w2 w3 w4 w5
  obtain ⟨x, t, v, k, l, C1', x0, x1, x2, l0, l1, t0, tv, vl, k0, k1⟩ := geo_of a b c d f g'
  have C1 := hide C1'
  clear C1' x0 x1 x2 k0 k1
  have CF := hide (fun w => frame_any x t v k l w (by omega) (by omega))
  go_enter Try.func7, Try.ntmps7
  go_wp2_with fail
  refine (C1.out _).mono ?_
  rintro e w1 ⟨rfl, b1⟩
  have B1 := hide ((bnext ((Below.refl _ w).alloc (Nat.le_refl _) _) b1))
  obtain ⟨g, hg⟩ : ∃ g, g = w1.heap.size := ⟨_, rfl⟩
  have R1 := hide (show HasG (w1.alloc (.cells #[.int .i64 x, .int .i64 t, .int .i64 v, .int .i64 k, .int .i64 l] 25)) g x t v k l by rw [hg]; exact hasG_new w1 x t v k l)
  have S1 := hide (B1.out.alloc B1.out.size (.cells #[.int .i64 x, .int .i64 t, .int .i64 v, .int .i64 k, .int .i64 l] 25))
  clear b1 C1 B1
  go_wp2_with fail
  rw [← hg]
  clear hg
  go_loopw [4, 5, 6] (fun st sl ss wr => ∃ j : Int, 0 ≤ j ∧ j ≤ l ∧ st = .int .i64 (j * 1365) ∧ sl = .int .i64 j ∧ ss = .int .i64 (cntTo t v j) ∧ HasG wr g x t v k l ∧ Below w.heap.size w wr) (fun _ sl _ _ => 263 - (intOf sl).toNat)
  case atStart => exact ⟨0, by decide, by omega, rfl, rfl, by rw [cnt_low (by omega) tv], R1.out, S1.out⟩
  case round =>
    obtain ⟨j, j0, j1, rfl, rfl, rfl, hR, hB⟩ := hrel
    have R := hide hR
    have B := hide hB
    have hc := cnt_le (j := j) tv
    clear hR hB R1 S1
    by_cases h : j < l
    · have CL := hide (line_at j j0 (by omega))
      have CN := hide (next_at j j0 (by omega))
      go_wp2_with (first | (refine wpList_load_row rfl 25 (.tmp 3) rfl g rfl 25 _ (0, 0) _ R.out Try.underlying25 rfl (by kernel_rfl) ?_))
      refine (CF.out _).mono ?_
      rintro e w2 ⟨rfl, b2⟩
      have R2 := hide (R.out.next b2)
      have B2 := hide (bnext B.out b2)
      clear b2
      go_wp2_with fail
      refine (CL.out _).mono ?_
      rintro e w' ⟨rfl, rfl⟩
      have CS := hide (fun w => shown_any x t v k l j w (by omega) (by omega))
      by_cases hs : t ≤ j ∧ j < v
      · obtain ⟨e1, e2, e3⟩ := cnt_in hs.1 hs.2
        rw [e1] at CS
        rw [e2]
        obtain ⟨s0, s1⟩ := hs
        go_wp2_with (first | (refine wpList_load_row rfl 25 (.tmp 3) rfl g rfl 25 _ (0, 0) _ R2.out Try.underlying25 rfl (by kernel_rfl) ?_))
        refine (CS.out _).mono ?_
        rintro e w3 ⟨rfl, b3⟩
        have R3 := hide (R2.out.next b3)
        have B3 := hide (bnext B2.out b3)
        clear b3
        go_wp2_with fail
        refine (CN.out _).mono ?_
        rintro e w' ⟨rfl, rfl⟩
        go_wp2_with fail
        go_roundw
        case rel => exact ⟨j + 1, by omega, by omega, by congr 1; omega, rfl, by rw [e3], R3.out, B3.out⟩
        case measure => simp [intOf]; omega
      · obtain ⟨e1, e2⟩ := cnt_out (j := j) (by omega) tv
        rw [e1] at CS
        go_wp2_with (first | (refine wpList_load_row rfl 25 (.tmp 3) rfl g rfl 25 _ (0, 0) _ R2.out Try.underlying25 rfl (by kernel_rfl) ?_))
        refine (CS.out _).mono ?_
        rintro e w3 ⟨rfl, b3⟩
        have R3 := hide (R2.out.next b3)
        have B3 := hide (bnext B2.out b3)
        clear b3
        go_wp2_with fail
        refine (CN.out _).mono ?_
        rintro e w' ⟨rfl, rfl⟩
        go_wp2_with fail
        go_roundw
        case rel => exact ⟨j + 1, by omega, by omega, by congr 1; omega, rfl, by rw [e2], R3.out, B3.out⟩
        case measure => simp [intOf]; omega
    · obtain rfl : j = l := by omega
      have ec := cnt_end (j := j) vl tv
      go_wp2_with (first | (refine wpList_load_row rfl 25 (.tmp 3) rfl g rfl 25 _ (0, 0) _ R.out Try.underlying25 rfl (by kernel_rfl) ?_))
      refine (CF.out _).mono ?_
      rintro e w2 ⟨rfl, b2⟩
      have R2 := hide (R.out.next b2)
      have B2 := hide (bnext B.out b2)
      clear b2
      go_wp2_with (first | (refine wpList_load_row rfl 25 (.tmp 3) rfl g rfl 25 _ (0, 0) _ R2.out Try.underlying25 rfl (by kernel_rfl) ?_))
      refine (CF.out _).mono ?_
      rintro e w3 ⟨rfl, b3⟩
      have R3 := R2.out.next b3
      have B3 := hide (bnext B2.out b3)
      have c1 := R3.c1
      have c2 := R3.c2
      have c4 := R3.c4
      clear b3 R3
      go_wp2
      go_ret
      exact ⟨rfl, B3.out⟩

set_option maxRecDepth 100000 in
theorem timingWalks_lifted (os : Os) (started : os.Started) (H : Type) (enc : TypeId × Value → H) :
    ReturnsInHanded {} Try.checked os 7 .any (Rows.timingWalksSpec.pre6 enc Try.prog Try.f7 Rows.timingWalksRow.domain false) (Rows.timingWalksSpec.post enc Try.prog Try.f7 false true false false) := by
  refine returnsInHanded_of_change (C := Try.checked) own started (by kernel_rfl) Try.func7
    (ChangeSpec.witness6 (enc := enc) (C := Try.checked) false ⟨#[], #[.agg #[.int .i64 0, .int .i64 0, .int .i64 0, .int .i64 0, .int .i64 0, .int .i64 0]], []⟩ 8 (by kernel_rfl) (by kernel_rfl) (by kernel_rfl) (by kernel_rfl)) ?_
  intro W base args ds gs before hval0 hW hcnd _
  have hval : ∀ (j : Nat) t v, Try.f7.params[j]? = some t → args[j]? = some v → Value.okWide Try.prog W .any base t v := hval0
  have hW' := hW
  obtain ⟨p, q, hA0, hV, rfl, hfz, hnd⟩ := hW
  have hA : DataW.TrodAll enc Try.prog W 0 (fun _ => true) true Try.f7.params.toList args.toList ds p := hA0
  rw [Try.params7] at hA hval
  obtain ⟨v0, vs0, d0, ds0, p0, q0, hargs, rfl, rfl, h0, r0⟩ := trodAll_cons hA
  obtain ⟨rfl, rfl, rfl⟩ := trodAll_nil r0
  obtain rfl : args = #[v0] := by cases args; simp_all
  obtain ⟨rfl, rfl⟩ := trodVars_none hV
  have k0 := h0
  have lt0 : ∀ x ∈ p0, x.block < W.heap.size := by obtain ⟨m, hm⟩ := k0; exact DataW.trod_lt m _ _ _ hm
  obtain ⟨cs0, fu0, rfl, sz0, hf0⟩ := open_struct_cells (n := 6) Try.underlying23 (by kernel_rfl) (hval 0 23 v0 rfl rfl) h0
  obtain ⟨y0f0, hy0f0⟩ := hf0 0 _ rfl
  obtain ⟨a0f0, g0f0, _, w0f0⟩ := DataW.trod_int Try.underlying3 hy0f0
  have e0f0 := cell_at (by kernel_rfl) g0f0
  obtain ⟨y0f1, hy0f1⟩ := hf0 1 _ rfl
  obtain ⟨a0f1, g0f1, _, w0f1⟩ := DataW.trod_int Try.underlying3 hy0f1
  have e0f1 := cell_at (by kernel_rfl) g0f1
  obtain ⟨y0f2, hy0f2⟩ := hf0 2 _ rfl
  obtain ⟨a0f2, g0f2, _, w0f2⟩ := DataW.trod_int Try.underlying3 hy0f2
  have e0f2 := cell_at (by kernel_rfl) g0f2
  obtain ⟨y0f3, hy0f3⟩ := hf0 3 _ rfl
  obtain ⟨a0f3, g0f3, _, w0f3⟩ := DataW.trod_int Try.underlying3 hy0f3
  have e0f3 := cell_at (by kernel_rfl) g0f3
  obtain ⟨y0f4, hy0f4⟩ := hf0 4 _ rfl
  obtain ⟨a0f4, g0f4, _, w0f4⟩ := DataW.trod_int Try.underlying3 hy0f4
  have e0f4 := cell_at (by kernel_rfl) g0f4
  obtain ⟨y0f5, hy0f5⟩ := hf0 5 _ rfl
  obtain ⟨a0f5, g0f5, _, w0f5⟩ := DataW.trod_int Try.underlying3 hy0f5
  have e0f5 := cell_at (by kernel_rfl) g0f5
  obtain rfl : cs0 = #[.int .i64 a0f0, .int .i64 a0f1, .int .i64 a0f2, .int .i64 a0f3, .int .i64 a0f4, .int .i64 a0f5] := cells_are [.int .i64 a0f0, .int .i64 a0f1, .int .i64 a0f2, .int .i64 a0f3, .int .i64 a0f4, .int .i64 a0f5] sz0 (fun j hj => by
    rcases j with _ | _ | _ | _ | _ | _ | j
    · exact e0f0
    · exact e0f1
    · exact e0f2
    · exact e0f3
    · exact e0f4
    · exact e0f5
    · exact absurd hj (by simp only [List.length_cons, List.length_nil]; omega))
  clear hy0f0 g0f0 e0f0 hy0f1 g0f1 e0f1 hy0f2 g0f2 e0f2 hy0f3 g0f3 e0f3 hy0f4 g0f4 e0f4 hy0f5 g0f5 e0f5 sz0 hf0
  clear hA0 hval0
  refine (timingWalks_walk a0f0 a0f1 a0f2 a0f3 a0f4 a0f5 w0f0 w0f1 w0f2 w0f3 w0f4 w0f5 W).mono fun e W' ⟨he, bel⟩ => ?_
  subst he
  exact ⟨_, rfl, _, _, _, [], _, [], hW', trodAll_mk1 (shut_bool Try.underlying4 _), (trodAll_cons_mk (Below.trod laidOut (by kernel_rfl) (of_decide_eq_true (by kernel_rfl)) k0 bel lt0) trodAll_mk0), rfl, bel.frame _, fun h => by cases h⟩

theorem timingWalks_over : Rows.timingWalksRow.holds Try.pinned (OpenSpec.ofChange Rows.timingWalksSpec) :=
  OpenClaim.holds_of_wide 7 Try.f7 rfl rfl rfl rfl rfl rfl rfl ⟨rfl, rfl, rfl, rfl, rfl⟩ rfl rfl rfl rfl rfl (by kernel_rfl) Try.func7 (by kernel_rfl)
    (of_decide_eq_true (by kernel_rfl)) (by unfold Func.isWrapper; first | (rw [if_pos (by decide +kernel)]; kernel_rfl) | (rw [if_neg (by decide +kernel)]; exact ⟨rfl, rfl⟩))
    (fun os started H enc _ => timingWalks_lifted os started H enc)

theorem timingWalks_holds : Rows.TimingWalksSaid := timingWalks_over
#print axioms timingWalks_holds
end Go.Proofs.Ytakacojablpfoaa
