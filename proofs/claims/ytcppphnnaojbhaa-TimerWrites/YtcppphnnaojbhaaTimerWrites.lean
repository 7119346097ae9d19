/- For every timer and every number the law TimerWrites of layer 10 returns true: a timer that is on is not begun anew by what sets it on; its Reload is told when it comes round; what is written elsewhere changes nothing. No condition. -/
import Derived.Test.YtcppphnnaojbhaaLaws10
import Derived.Test.YtcppphnnaojbhaaCell1
namespace Go.Proofs.Ytcppphnnaojbhaa
open Go.ChangeShapes Go.WideShapes Go.ChangeAt Go.RowKit
open Go.ChangeMaps (open_string shut_string)
set_option linter.unusedVariables false
theorem own : ownKnob Try.prog.godebug = none := by kernel_rfl

theorem timerWrites_walk (a0 b0 : Int) (o : Bool) (d0 b : Int) (w0 : (Lit.int .i64 a0).wf = true) (w1 : (Lit.int .i64 b0).wf = true) (w2 : (Lit.int .i64 d0).wf = true) (w3 : (Lit.int .i64 b).wf = true) (w : World) :
    Calls Try.prog 7 #[.agg #[.int .i64 a0, .int .i64 b0, .bool o, .int .i64 d0], .int .i64 b] w fun e w' => e = .returned (.bool true) ∧ Below w.heap.size w w' := by
  clear w0 w1 w2 w3
  obtain ⟨r, er, r0, r1⟩ := low_of a0
  obtain ⟨c, ec, c0, c1⟩ := low_of b0
  obtain ⟨y, p, ey, ep, y0, y1, p0, p1⟩ := pre_of d0
  have k1 : ∀ w, Calls Try.prog 12 #[.agg #[.int .i64 r, .int .i64 c, .bool true, .int .i64 p], .int .i64 1, .int .i64 1] w fun e w' => e = .returned (.agg #[.int .i64 r, .int .i64 c, .bool true, .int .i64 p]) ∧ Below w.heap.size w w' := fun w => write_1 r c true p 1 true rfl w
  have C1 := hide k1
  have C2 := hide (fun w => write_0 r c true p b w)
  have k3 : ∀ w, Calls Try.prog 12 #[.agg #[.int .i64 r, .int .i64 c, .bool true, .int .i64 p], .int .i64 1, .int .i64 0] w fun e w' => e = .returned (.agg #[.int .i64 r, .int .i64 c, .bool false, .int .i64 0]) ∧ Below w.heap.size w w' := fun w => write_1 r c true p 0 false rfl w
  have C3 := hide k3
  have k4 : ∀ w, Calls Try.prog 12 #[.agg #[.int .i64 r, .int .i64 c, .bool false, .int .i64 0], .int .i64 1, .int .i64 1] w fun e w' => e = .returned (.agg #[.int .i64 r, .int .i64 r, .bool true, .int .i64 0]) ∧ Below w.heap.size w w' := fun w => write_1 r c false 0 1 true rfl w
  have C4 := hide k4
  have eb := and_127 b
  obtain ⟨q, hq, q0, q1⟩ : ∃ q, b % 128 = q ∧ 0 ≤ q ∧ q ≤ 127 := ⟨_, rfl, by omega, by omega⟩
  rw [hq] at C2 eb
  have C5 := hide (next_any q c true p)
  rw [next_on q0 q1 c0 c1 p0 p1] at C5
  have C6 := hide (fun w => adv_there q0 q1 c0 c1 p0 p1 w)
  obtain ⟨n, hn, n0, n1⟩ : ∃ n, (c + 1) * 3072 - p = n ∧ 1 ≤ n ∧ n ≤ 393216 := ⟨_, rfl, by omega, by omega⟩
  rw [hn] at C5 C6
  have C7 := hide (fun w => write_no r c true p 2 b (by decide) (by decide) w)
  have C8 := hide (fun w => read_any r c true p w)
  clear hn hq k1 k3 k4
  go_enter Try.func7, Try.ntmps7
  go_wp2_with fail
  refine (C1.out _).mono ?_
  rintro e w1 ⟨rfl, b1⟩
  have R1 := hide (((hasT_new w r c true p).next b1).alloc (.cells #[.int .i64 r, .int .i64 c, .bool true, .int .i64 p] 23))
  have b1' := bnext ((Below.refl _ w).alloc (Nat.le_refl _) _) b1
  have B1 := hide (b1'.alloc b1'.size (.cells #[.int .i64 r, .int .i64 c, .bool true, .int .i64 p] 23))
  have H1 := hide (hasT_new w1 r c true p)
  clear b1 b1'
  go_wp2_with (first | (refine wpList_load_row rfl 23 (.tmp 2) rfl w.heap.size rfl 23 _ (0, 0) _ R1.out Try.underlying23 rfl (by kernel_rfl) ?_))
  refine (C2.out _).mono ?_
  rintro e w2 ⟨rfl, b2⟩
  have R2 := hide ((R1.out.next b2).alloc (.cells #[.int .i64 q, .int .i64 c, .bool true, .int .i64 p] 23))
  have H2 := hide ((H1.out.next b2).alloc (.cells #[.int .i64 q, .int .i64 c, .bool true, .int .i64 p] 23))
  have I2 := hide (hasT_new w2 q c true p)
  have B2 := hide ((bnext B1.out b2).alloc (bnext B1.out b2).size (.cells #[.int .i64 q, .int .i64 c, .bool true, .int .i64 p] 23))
  clear b2 R1 B1 H1
  go_wp2_with (first | (refine wpList_load_row rfl 23 (.tmp 2) rfl w.heap.size rfl 23 _ (0, 0) _ R2.out Try.underlying23 rfl (by kernel_rfl) ?_))
  refine (C3.out _).mono ?_
  rintro e w3 ⟨rfl, b3⟩
  have R3 := hide ((R2.out.next b3).alloc (.cells #[.int .i64 r, .int .i64 c, .bool false, .int .i64 0] 23))
  have H3 := hide ((H2.out.next b3).alloc (.cells #[.int .i64 r, .int .i64 c, .bool false, .int .i64 0] 23))
  have I3 := hide ((I2.out.next b3).alloc (.cells #[.int .i64 r, .int .i64 c, .bool false, .int .i64 0] 23))
  have J3 := hide (hasT_new w3 r c false 0)
  have B3 := hide ((bnext B2.out b3).alloc (bnext B2.out b3).size (.cells #[.int .i64 r, .int .i64 c, .bool false, .int .i64 0] 23))
  clear b3 R2 B2 H2 I2
  go_wp2_with fail
  refine (C4.out _).mono ?_
  rintro e w4 ⟨rfl, b4⟩
  have R4 := hide ((R3.out.next b4).alloc (.cells #[.int .i64 r, .int .i64 r, .bool true, .int .i64 0] 23))
  have H4 := hide ((H3.out.next b4).alloc (.cells #[.int .i64 r, .int .i64 r, .bool true, .int .i64 0] 23))
  have I4 := hide ((I3.out.next b4).alloc (.cells #[.int .i64 r, .int .i64 r, .bool true, .int .i64 0] 23))
  have J4 := hide ((J3.out.next b4).alloc (.cells #[.int .i64 r, .int .i64 r, .bool true, .int .i64 0] 23))
  have K4 := hide (hasT_new w4 r r true 0)
  have B4 := hide ((bnext B3.out b4).alloc (bnext B3.out b4).size (.cells #[.int .i64 r, .int .i64 r, .bool true, .int .i64 0] 23))
  clear b4 R3 B3 H3 I3 J3
  go_wp2_with fail
  obtain ⟨wa, hwa⟩ : ∃ wa, wa = w4.alloc (.cells #[.int .i64 r, .int .i64 r, .bool true, .int .i64 0] 23) := ⟨_, rfl⟩
  rw [← hwa] at R4 H4 I4 J4 K4 B4 ⊢
  clear hwa
  refine wp_region_cell _ _ _ _ (show _ = ([_, _, _, _, _, _, _] ++ [_, _]) ++ [_] from rfl) #[.int .i64 0, .int .i64 0, .bool false, .int .i64 0] #[.int .i64 q, .int .i64 q, .bool true, .int .i64 0] 23 98 9 37 23 (by kernel_rfl) (by kernel_rfl) (by kernel_rfl) (by kernel_rfl) rfl rfl (by decide) rfl (by kernel_rfl) rfl (by kernel_rfl) ?_ ?_
  · intro a w
    rfl
  apply Exists.intro
  refine ⟨fun W hW => ?_, ?_, ?_⟩
  · have I5 := I4.out.next hW
    have i0 := kept_cell I5.c0 I5.lt
    have i1 := kept_cell I5.c1 I5.lt
    have i2 := kept_cell I5.c2 I5.lt
    have i3 := kept_cell I5.c3 I5.lt
    haveI := kept_some W
    repeat (go_big_quiet_step ((first
      | (go_at_call 10; exact kept_call (C5.out _))
      | (go_at_call 8; exact kept_call (C6.out _)))))
    refine wpQuiet_nil ?_
    rfl
  · rfl
  intro g wx bx hg lg
  have R5 := R4.out.next bx
  have H5 := H4.out.next bx
  have I5 := I4.out.next bx
  have J5 := J4.out.next bx
  have K5 := K4.out.next bx
  have X5 : HasT wx g q q true 0 := hg
  have B5 := hide (bnext B4.out bx)
  have rc0 := kept_cell R5.c0 R5.lt
  have rc1 := kept_cell R5.c1 R5.lt
  have rc2 := kept_cell R5.c2 R5.lt
  have rc3 := kept_cell R5.c3 R5.lt
  have hc0 := kept_cell H5.c0 H5.lt
  have hc1 := kept_cell H5.c1 H5.lt
  have hc2 := kept_cell H5.c2 H5.lt
  have hc3 := kept_cell H5.c3 H5.lt
  have ic0 := kept_cell I5.c0 I5.lt
  have ic1 := kept_cell I5.c1 I5.lt
  have ic2 := kept_cell I5.c2 I5.lt
  have ic3 := kept_cell I5.c3 I5.lt
  have jc0 := kept_cell J5.c0 J5.lt
  have jc1 := kept_cell J5.c1 J5.lt
  have jc2 := kept_cell J5.c2 J5.lt
  have jc3 := kept_cell J5.c3 J5.lt
  have kc0 := kept_cell K5.c0 K5.lt
  have kc1 := kept_cell K5.c1 K5.lt
  have kc2 := kept_cell K5.c2 K5.lt
  have kc3 := kept_cell K5.c3 K5.lt
  have xc0 := kept_cell X5.c0 X5.lt
  have xc1 := kept_cell X5.c1 X5.lt
  have xc2 := kept_cell X5.c2 X5.lt
  have xc3 := kept_cell X5.c3 X5.lt
  have qe : ∀ w, (binOp .eql 23 (.agg #[.int .i64 r, .int .i64 c, .bool true, .int .i64 p]) (.agg #[.int .i64 r, .int .i64 c, .bool true, .int .i64 p])).run Try.prog w = .ok (.bool true) w := fun w => (eqT r c true p r c true p w).trans (by simp [sameT])
  clear bx hg lg R4 H4 I4 J4 K4 B4 R5 H5 I5 J5 K5 X5 C1 C2 C3 C4 C5 C6
  simp only [Act.put, List.setIfInBounds_toArray, List.set_cons_succ, List.set_cons_zero]
  go_wp2_with fail
  haveI := kept_some wx
  refine wp_region_kept (by kernel_rfl) (by kernel_rfl) ?_
  repeat (go_big_quiet_step ((first
    | (go_at_call 12; exact kept_call (C7.out _))
    | (go_at_call 16; exact kept_call (C8.out _)))))
  refine wpQuiet_nil ?_
  rintro _ ⟨wk, rfl⟩
  go_wp2
  go_ret
  exact ⟨rfl, bnext B5.out wk.below⟩

set_option maxRecDepth 100000 in
theorem timerWrites_lifted (os : Os) (started : os.Started) (H : Type) (enc : TypeId × Value → H) :
    ReturnsInHanded {} Try.checked os 7 .any (Rows.timerWritesSpec.pre6 enc Try.prog Try.f7 Rows.timerWritesRow.domain false) (Rows.timerWritesSpec.post enc Try.prog Try.f7 false true false false) := by
  refine returnsInHanded_of_change (C := Try.checked) own started (by kernel_rfl) Try.func7
    (ChangeSpec.witness6 (enc := enc) (C := Try.checked) false ⟨#[], #[.agg #[.int .i64 0, .int .i64 0, .bool false, .int .i64 0], .int .i64 0], []⟩ 8 (by kernel_rfl) (by kernel_rfl) (by kernel_rfl) (by kernel_rfl)) ?_
  intro W base args ds gs before hval0 hW hcnd _
  have hval : ∀ (j : Nat) t v, Try.f7.params[j]? = some t → args[j]? = some v → Value.okWide Try.prog W .any base t v := hval0
  have hW' := hW
  obtain ⟨p, q, hA0, hV, rfl, hfz, hnd⟩ := hW
  have hA : DataW.TrodAll enc Try.prog W 0 (fun _ => true) true Try.f7.params.toList args.toList ds p := hA0
  rw [Try.params7] at hA hval
  obtain ⟨v0, vs0, d0, ds0, p0, q0, hargs, rfl, rfl, h0, r0⟩ := trodAll_cons hA
  obtain ⟨v1, vs1, d1, ds1, p1, q1, rfl, rfl, rfl, h1, r1⟩ := trodAll_cons r0
  obtain ⟨rfl, rfl, rfl⟩ := trodAll_nil r1
  obtain rfl : args = #[v0, v1] := by cases args; simp_all
  obtain ⟨rfl, rfl⟩ := trodVars_none hV
  have k0 := h0
  have lt0 : ∀ x ∈ p0, x.block < W.heap.size := by obtain ⟨m, hm⟩ := k0; exact DataW.trod_lt m _ _ _ hm
  obtain ⟨cs0, fu0, rfl, sz0, hf0⟩ := open_struct_cells (n := 4) Try.underlying23 (by kernel_rfl) (hval 0 23 v0 rfl rfl) h0
  obtain ⟨y0f0, hy0f0⟩ := hf0 0 _ rfl
  obtain ⟨a0f0, g0f0, _, w0f0⟩ := DataW.trod_int Try.underlying3 hy0f0
  have e0f0 := cell_at (by kernel_rfl) g0f0
  obtain ⟨y0f1, hy0f1⟩ := hf0 1 _ rfl
  obtain ⟨a0f1, g0f1, _, w0f1⟩ := DataW.trod_int Try.underlying3 hy0f1
  have e0f1 := cell_at (by kernel_rfl) g0f1
  obtain ⟨y0f2, hy0f2⟩ := hf0 2 _ rfl
  obtain ⟨a0f2, g0f2, _⟩ := DataW.trod_bool Try.underlying4 hy0f2
  have e0f2 := cell_at (by kernel_rfl) g0f2
  obtain ⟨y0f3, hy0f3⟩ := hf0 3 _ rfl
  obtain ⟨a0f3, g0f3, _, w0f3⟩ := DataW.trod_int Try.underlying3 hy0f3
  have e0f3 := cell_at (by kernel_rfl) g0f3
  obtain rfl : cs0 = #[.int .i64 a0f0, .int .i64 a0f1, .bool a0f2, .int .i64 a0f3] := cells_are [.int .i64 a0f0, .int .i64 a0f1, .bool a0f2, .int .i64 a0f3] sz0 (fun j hj => by
    rcases j with _ | _ | _ | _ | j
    · exact e0f0
    · exact e0f1
    · exact e0f2
    · exact e0f3
    · exact absurd hj (by simp only [List.length_cons, List.length_nil]; omega))
  clear hy0f0 g0f0 e0f0 hy0f1 g0f1 e0f1 hy0f2 g0f2 e0f2 hy0f3 g0f3 e0f3 sz0 hf0
  obtain ⟨a1, rfl, rfl, rfl, w1⟩ := open_int Try.underlying3 (hval 1 3 v1 rfl rfl) h1
  clear hA0 hval0
  refine (timerWrites_walk a0f0 a0f1 a0f2 a0f3 a1 w0f0 w0f1 w0f3 w1 W).mono fun e W' ⟨he, bel⟩ => ?_
  subst he
  exact ⟨_, rfl, _, _, _, [], _, [], hW', trodAll_mk1 (shut_bool Try.underlying4 _), (trodAll_cons_mk (Below.trod laidOut (by kernel_rfl) (of_decide_eq_true (by kernel_rfl)) k0 bel lt0) (trodAll_cons_mk (shut_int Try.underlying3 w1) trodAll_mk0)), rfl, bel.frame _, fun h => by cases h⟩

theorem timerWrites_over : Rows.timerWritesRow.holds Try.pinned (OpenSpec.ofChange Rows.timerWritesSpec) :=
  OpenClaim.holds_of_wide 7 Try.f7 rfl rfl rfl rfl rfl rfl rfl ⟨rfl, rfl, rfl, rfl, rfl⟩ rfl rfl rfl rfl rfl (by kernel_rfl) Try.func7 (by kernel_rfl)
    (of_decide_eq_true (by kernel_rfl)) (by unfold Func.isWrapper; first | (rw [if_pos (by decide +kernel)]; kernel_rfl) | (rw [if_neg (by decide +kernel)]; exact ⟨rfl, rfl⟩))
    (fun os started H enc _ => timerWrites_lifted os started H enc)

theorem timerWrites_holds : Rows.TimerWritesSaid := timerWrites_over
#print axioms timerWrites_holds
end Go.Proofs.Ytcppphnnaojbhaa
