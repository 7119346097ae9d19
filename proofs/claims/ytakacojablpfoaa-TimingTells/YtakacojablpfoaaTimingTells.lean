/- For every setup, tick and line the law TimingTells of layer 14 returns true: any setup has the document's geometry; any tick and line lie as it says. No condition. -/
import Derived.Test.YtakacojablpfoaaRef14
import Derived.Test.YtakacojablpfoaaStructs
namespace Go.Proofs.Ytakacojablpfoaa
open Go.ChangeShapes Go.WideShapes Go.ChangeAt Go.RowKit
open Go.ChangeMaps (open_string shut_string)
set_option linter.unusedVariables false
theorem own : ownKnob Try.prog.godebug = none := by kernel_rfl

theorem tells_all (a b c d f g' n m x t v k l p q r s : Int) (w : World)
    (C1 : Hid (∀ w, Calls Try.prog 8 #[.agg #[.int .i64 a, .int .i64 b, .int .i64 c, .int .i64 d, .int .i64 f, .int .i64 g']] w fun e w' => e = .returned (.agg #[.int .i64 x, .int .i64 t, .int .i64 v, .int .i64 k, .int .i64 l]) ∧ Below w.heap.size w w')) (C2 : Hid (∀ w, Calls Try.prog 9 #[.agg #[.int .i64 a, .int .i64 b, .int .i64 c, .int .i64 d, .int .i64 f, .int .i64 g']] w fun e w' => e = .returned (.agg #[.int .i64 x, .int .i64 t, .int .i64 v, .int .i64 k, .int .i64 l]) ∧ Below w.heap.size w w'))
    (L1 : Hid (∀ w, Calls Try.prog 10 #[.int .i64 n] w fun e w' => e = .returned (.tuple #[.int .i64 p, .int .i64 q]) ∧ w' = w)) (L2 : Hid (∀ w, Calls Try.prog 11 #[.int .i64 n] w fun e w' => e = .returned (.tuple #[.int .i64 p, .int .i64 q]) ∧ w' = w))
    (N1 : Hid (∀ w, Calls Try.prog 14 #[.int .i64 n] w fun e w' => e = .returned (.int .i64 r) ∧ w' = w)) (N2 : Hid (∀ w, Calls Try.prog 15 #[.int .i64 n] w fun e w' => e = .returned (.int .i64 r) ∧ w' = w))
    (S1 : Hid (∀ w, Calls Try.prog 12 #[.agg #[.int .i64 x, .int .i64 t, .int .i64 v, .int .i64 k, .int .i64 l], .int .i64 m] w fun e w' => e = .returned (.int .i64 s) ∧ Below w.heap.size w w')) (S2 : Hid (∀ w, Calls Try.prog 13 #[.agg #[.int .i64 x, .int .i64 t, .int .i64 v, .int .i64 k, .int .i64 l], .int .i64 m] w fun e w' => e = .returned (.int .i64 s) ∧ Below w.heap.size w w'))
    (CF : Hid (∀ w, Calls Try.prog 16 #[.agg #[.int .i64 x, .int .i64 t, .int .i64 v, .int .i64 k, .int .i64 l]] w fun e w' => e = .returned (.int .i64 (l * 1365)) ∧ Below w.heap.size w w')) (l0 : 262 ≤ l) (l1 : l ≤ 263) : Calls Try.prog 3 #[.agg #[.int .i64 a, .int .i64 b, .int .i64 c, .int .i64 d, .int .i64 f, .int .i64 g'], .int .i64 n, .int .i64 m] w fun e w' => e = .returned (.bool true) ∧ Below w.heap.size w w' := by
  have qe := eqG_self x t v k l
  go_enter Try.func3, Try.ntmps3
  go_wp2_with fail
  refine (C1.out _).mono ?_
  rintro e w1 ⟨rfl, b1⟩
  have B1 := hide ((bnext ((Below.refl _ w).alloc (Nat.le_refl _) _) b1))
  have s1 := (b1.block w.heap.size (by simp)).trans (heap_alloc_new w (.cells #[.int .i64 a, .int .i64 b, .int .i64 c, .int .i64 d, .int .i64 f, .int .i64 g'] 23))
  have hs : w.heap.size < w1.heap.size := Nat.lt_of_lt_of_le (by simp) b1.size
  have A1 := (Below.refl _ w1).alloc (Nat.le_refl _) (.cells #[.int .i64 x, .int .i64 t, .int .i64 v, .int .i64 k, .int .i64 l] 25)
  have Z1 := hide ((A1.block w.heap.size hs).trans s1)
  have G1 := hide (hasG_new w1 x t v k l)
  have B2 := hide (B1.out.alloc B1.out.size (.cells #[.int .i64 x, .int .i64 t, .int .i64 v, .int .i64 k, .int .i64 l] 25))
  clear b1 s1 hs A1 B1 C1
  go_wp2_with (first | (refine wpList_load_row rfl 23 (.tmp 3) rfl w.heap.size rfl 23 _ (0, 0) _ Z1.out Try.underlying23 rfl (by kernel_rfl) ?_))
  refine (C2.out _).mono ?_
  rintro e w2 ⟨rfl, b2⟩
  obtain ⟨wa, hwa⟩ : ∃ wa, wa = w2.alloc (.cells #[.int .i64 x, .int .i64 t, .int .i64 v, .int .i64 k, .int .i64 l] 27) := ⟨_, rfl⟩
  have n2 : Below w2.heap.size w2 wa := by rw [hwa]; exact (Below.refl _ w2).alloc (Nat.le_refl _) _
  have G3 := (G1.out.next b2).next n2
  have R3 : HasR wa w2.heap.size x t v k l := by rw [hwa]; exact hasR_new w2 x t v k l
  have B3 := hide (bnext (bnext B2.out b2) n2)
  have x0 := kept_cell G3.c0 G3.lt
  have x1 := kept_cell G3.c1 G3.lt
  have x2 := kept_cell G3.c2 G3.lt
  have x3 := kept_cell G3.c3 G3.lt
  have x4 := kept_cell G3.c4 G3.lt
  have y0 := kept_cell ((R3.at 0).trans rfl) R3.lt
  have y1 := kept_cell ((R3.at 1).trans rfl) R3.lt
  have y2 := kept_cell ((R3.at 2).trans rfl) R3.lt
  have y3 := kept_cell ((R3.at 3).trans rfl) R3.lt
  have y4 := kept_cell ((R3.at 4).trans rfl) R3.lt
  clear b2 n2 G1 B2 G3 R3 C2 Z1
  go_wp2_with fail
  refine (L1.out _).mono ?_
  rintro e w' ⟨rfl, rfl⟩
  go_wp2_with fail
  refine (L2.out _).mono ?_
  rintro e w' ⟨rfl, rfl⟩
  go_wp2_with fail
  rw [← hwa]
  clear hwa L1 L2
  haveI := kept_some wa
  refine wp_region_kept (by kernel_rfl) (by kernel_rfl) ?_
  repeat (go_big_quiet_step ((first
    | (go_at_call 12; exact kept_call (S1.out _))
    | (go_at_call 13; exact kept_call (S2.out _))
    | (go_at_call 14; exact kept_same (N1.out _))
    | (go_at_call 15; exact kept_same (N2.out _))
    | (go_at_call 16; exact kept_call (CF.out _)))))
  refine wpQuiet_nil ?_
  rintro _ ⟨wk, rfl⟩
  go_wp2
  go_ret
  exact ⟨rfl, bnext B3.out wk.below⟩
theorem timingTells_walk (a b c d f g' n m : Int) (w0 : (Lit.int .i64 a).wf = true) (w1 : (Lit.int .i64 b).wf = true) (w2 : (Lit.int .i64 c).wf = true) (w3 : (Lit.int .i64 d).wf = true) (w4 : (Lit.int .i64 f).wf = true) (w5 : (Lit.int .i64 g').wf = true) (w6 : (Lit.int .i64 n).wf = true) (w7 : (Lit.int .i64 m).wf = true) (w : World) : Calls Try.prog 3 #[.agg #[.int .i64 a, .int .i64 b, .int .i64 c, .int .i64 d, .int .i64 f, .int .i64 g'], .int .i64 n, .int .i64 m] w fun e w' => e = .returned (.bool true) ∧ Below w.heap.size w w' := by
  have hn : n < 9223372036854775808 := by
    have := w6
    simp [Lit.wf] at this
    omega
  obtain ⟨p, q, r, L1, L2, N1, N2⟩ := tick_both n hn
  have h3 := lin_le b
  have h4 := top_le b d
  have h5 := bot_le b d f
  exact tells_all a b c d f g' n m _ _ _ _ _ p q r _ w (hide (of_any a b c d f g')) (hide (rof_any a b c d f g')) (hide L1) (hide L2) (hide N1) (hide N2)
    (hide (fun w => shown_any _ _ _ _ _ m w (by omega) (by omega))) (hide (fun w => rshown_any _ _ _ _ _ m w (by omega) (by omega))) (hide (fun w => frame_any _ _ _ _ _ w (by omega) (by omega))) h3.1 h3.2

set_option maxRecDepth 100000 in
theorem timingTells_lifted (os : Os) (started : os.Started) (H : Type) (enc : TypeId × Value → H) :
    ReturnsInHanded {} Try.checked os 3 .any (Rows.timingTellsSpec.pre6 enc Try.prog Try.f3 Rows.timingTellsRow.domain false) (Rows.timingTellsSpec.post enc Try.prog Try.f3 false true false false) := by
  refine returnsInHanded_of_change (C := Try.checked) own started (by kernel_rfl) Try.func3
    (ChangeSpec.witness6 (enc := enc) (C := Try.checked) false ⟨#[], #[.agg #[.int .i64 0, .int .i64 0, .int .i64 0, .int .i64 0, .int .i64 0, .int .i64 0], .int .i64 0, .int .i64 0], []⟩ 8 (by kernel_rfl) (by kernel_rfl) (by kernel_rfl) (by kernel_rfl)) ?_
  intro W base args ds gs before hval0 hW hcnd _
  have hval : ∀ (j : Nat) t v, Try.f3.params[j]? = some t → args[j]? = some v → Value.okWide Try.prog W .any base t v := hval0
  have hW' := hW
  obtain ⟨p, q, hA0, hV, rfl, hfz, hnd⟩ := hW
  have hA : DataW.TrodAll enc Try.prog W 0 (fun _ => true) true Try.f3.params.toList args.toList ds p := hA0
  rw [Try.params3] at hA hval
  obtain ⟨v0, vs0, d0, ds0, p0, q0, hargs, rfl, rfl, h0, r0⟩ := trodAll_cons hA
  obtain ⟨v1, vs1, d1, ds1, p1, q1, rfl, rfl, rfl, h1, r1⟩ := trodAll_cons r0
  obtain ⟨v2, vs2, d2, ds2, p2, q2, rfl, rfl, rfl, h2, r2⟩ := trodAll_cons r1
  obtain ⟨rfl, rfl, rfl⟩ := trodAll_nil r2
  obtain rfl : args = #[v0, v1, v2] := by cases args; simp_all
  obtain ⟨rfl, rfl⟩ := trodVars_none hV
  have k0 := h0
  have lt0 : ∀ x ∈ p0, x.block < W.heap.size := by obtain ⟨m, hm⟩ := k0; exact DataW.trod_lt m _ _ _ hm
  obtain ⟨cs0, fu0, rfl, sz0, hf0⟩ := open_struct_cells (n := 6) Try.underlying23 (by kernel_rfl) (hval 0 23 v0 rfl rfl) h0
  obtain ⟨y0f0, hy0f0⟩ := hf0 0 _ rfl
  obtain ⟨a0f0, g0f0, _, w0f0⟩ := DataW.trod_int Try.underlying3 hy0f0
  have e0f0 := cell_at (by kernel_rfl) g0f0
  obtain ⟨y0f1, hy0f1⟩ := hf0 1 _ rfl
  obtain ⟨a0f1, g0f1, _, w0f1⟩ := DataW.trod_int Try.underlying3 hy0f1
  have e0f1 := cell_at (by kernel_rfl) g0f1
  obtain ⟨y0f2, hy0f2⟩ := hf0 2 _ rfl
  obtain ⟨a0f2, g0f2, _, w0f2⟩ := DataW.trod_int Try.underlying3 hy0f2
  have e0f2 := cell_at (by kernel_rfl) g0f2
  obtain ⟨y0f3, hy0f3⟩ := hf0 3 _ rfl
  obtain ⟨a0f3, g0f3, _, w0f3⟩ := DataW.trod_int Try.underlying3 hy0f3
  have e0f3 := cell_at (by kernel_rfl) g0f3
  obtain ⟨y0f4, hy0f4⟩ := hf0 4 _ rfl
  obtain ⟨a0f4, g0f4, _, w0f4⟩ := DataW.trod_int Try.underlying3 hy0f4
  have e0f4 := cell_at (by kernel_rfl) g0f4
  obtain ⟨y0f5, hy0f5⟩ := hf0 5 _ rfl
  obtain ⟨a0f5, g0f5, _, w0f5⟩ := DataW.trod_int Try.underlying3 hy0f5
  have e0f5 := cell_at (by kernel_rfl) g0f5
  obtain rfl : cs0 = #[.int .i64 a0f0, .int .i64 a0f1, .int .i64 a0f2, .int .i64 a0f3, .int .i64 a0f4, .int .i64 a0f5] := cells_are [.int .i64 a0f0, .int .i64 a0f1, .int .i64 a0f2, .int .i64 a0f3, .int .i64 a0f4, .int .i64 a0f5] sz0 (fun j hj => by
    rcases j with _ | _ | _ | _ | _ | _ | j
    · exact e0f0
    · exact e0f1
    · exact e0f2
    · exact e0f3
    · exact e0f4
    · exact e0f5
    · exact absurd hj (by simp only [List.length_cons, List.length_nil]; omega))
  clear hy0f0 g0f0 e0f0 hy0f1 g0f1 e0f1 hy0f2 g0f2 e0f2 hy0f3 g0f3 e0f3 hy0f4 g0f4 e0f4 hy0f5 g0f5 e0f5 sz0 hf0
  obtain ⟨a1, rfl, rfl, rfl, w1⟩ := open_int Try.underlying3 (hval 1 3 v1 rfl rfl) h1
  obtain ⟨a2, rfl, rfl, rfl, w2⟩ := open_int Try.underlying3 (hval 2 3 v2 rfl rfl) h2
  clear hA0 hval0
  refine (timingTells_walk a0f0 a0f1 a0f2 a0f3 a0f4 a0f5 a1 a2 w0f0 w0f1 w0f2 w0f3 w0f4 w0f5 w1 w2 W).mono fun e W' ⟨he, bel⟩ => ?_
  subst he
  exact ⟨_, rfl, _, _, _, [], _, [], hW', trodAll_mk1 (shut_bool Try.underlying4 _), (trodAll_cons_mk (Below.trod laidOut (by kernel_rfl) (of_decide_eq_true (by kernel_rfl)) k0 bel lt0) (trodAll_cons_mk (shut_int Try.underlying3 w1) (trodAll_cons_mk (shut_int Try.underlying3 w2) trodAll_mk0))), rfl, bel.frame _, fun h => by cases h⟩

theorem timingTells_over : Rows.timingTellsRow.holds Try.pinned (OpenSpec.ofChange Rows.timingTellsSpec) :=
  OpenClaim.holds_of_wide 3 Try.f3 rfl rfl rfl rfl rfl rfl rfl ⟨rfl, rfl, rfl, rfl, rfl⟩ rfl rfl rfl rfl rfl (by kernel_rfl) Try.func3 (by kernel_rfl)
    (of_decide_eq_true (by kernel_rfl)) (by unfold Func.isWrapper; first | (rw [if_pos (by decide +kernel)]; kernel_rfl) | (rw [if_neg (by decide +kernel)]; exact ⟨rfl, rfl⟩))
    (fun os started H enc _ => timingTells_lifted os started H enc)

theorem timingTells_holds : Rows.TimingTellsSaid := timingTells_over
#print axioms timingTells_holds
end Go.Proofs.Ytakacojablpfoaa
