/- For every timer the law TimerNext of layer 10 returns true: a timer that is on does not come round ahead of Next, and there it does, once, and is its Reload then. No condition. -/
import Derived.Test.YtcppphnnaojbhaaLaws10
namespace Go.Proofs.Ytcppphnnaojbhaa
open Go.ChangeShapes Go.WideShapes Go.ChangeAt Go.RowKit
open Go.ChangeMaps (open_string shut_string)
set_option linter.unusedVariables false
theorem own : ownKnob Try.prog.godebug = none := by kernel_rfl

theorem timerNext_walk (a b : Int) (o : Bool) (d : Int) (w0 : (Lit.int .i64 a).wf = true) (w1 : (Lit.int .i64 b).wf = true) (w2 : (Lit.int .i64 d).wf = true) (w : World) :
    Calls Try.prog 5 #[.agg #[.int .i64 a, .int .i64 b, .bool o, .int .i64 d]] w fun e w' => e = .returned (.bool true) ∧ Below w.heap.size w w' := by
  clear w0 w1 w2
  obtain ⟨r, er, r0, r1⟩ := low_of a
  obtain ⟨c, ec, c0, c1⟩ := low_of b
  obtain ⟨y, p, ey, ep, y0, y1, p0, p1⟩ := pre_of d
  have CN := hide (next_any r c true p)
  rw [next_on r0 r1 c0 c1 p0 p1] at CN
  obtain ⟨x, u, ca⟩ := adv_ahead r0 r1 c0 c1 p0 p1
  have CA := hide ca
  have CT := hide (fun w => adv_there r0 r1 c0 c1 p0 p1 w)
  have CZ := hide (next_any 0 0 false 0)
  rw [show nextOf 0 0 false 0 = -1 from rfl] at CZ
  clear ca
  obtain ⟨n, hn, n0, n1⟩ : ∃ n, (c + 1) * 3072 - p = n ∧ 1 ≤ n ∧ n ≤ 393216 := ⟨_, rfl, by omega, by omega⟩
  rw [hn] at CN CA CT
  clear hn
  go_enter Try.func5, Try.ntmps5
  go_wp2_with fail
  refine (CN.out _).mono ?_
  rintro e w1 ⟨rfl, b1⟩
  have R1 := hide ((hasT_new w r c true p).next b1)
  have B1 := hide (bnext ((Below.refl _ w).alloc (Nat.le_refl _) _) b1)
  clear b1
  go_wp2_with (first | (refine wpList_load_row rfl 23 (.tmp 1) rfl w.heap.size rfl 23 _ (0, 0) _ R1.out Try.underlying23 rfl (by kernel_rfl) ?_))
  refine (CA.out _).mono ?_
  rintro e w2 ⟨rfl, b2⟩
  have R2 := hide ((R1.out.next b2).alloc (.cells #[.int .i64 r, .int .i64 x, .bool true, .int .i64 u] 23))
  have B2 := hide ((bnext B1.out b2).alloc (bnext B1.out b2).size (.cells #[.int .i64 r, .int .i64 x, .bool true, .int .i64 u] 23))
  clear b2 R1 B1
  go_wp2_with (first | (refine wpList_load_row rfl 23 (.tmp 1) rfl w.heap.size rfl 23 _ (0, 0) _ R2.out Try.underlying23 rfl (by kernel_rfl) ?_))
  refine (CT.out _).mono ?_
  rintro e w3 ⟨rfl, b3⟩
  have R3 := hide (R2.out.next b3)
  have k0 := R3.out.c0
  have l0 := R3.out.lt
  have B3 := hide ((bnext B2.out b3).alloc (bnext B2.out b3).size (.cells #[.int .i64 r, .int .i64 r, .bool true, .int .i64 0] 23))
  clear b3 R2 B2
  go_wp2_with fail
  refine (CZ.out _).mono ?_
  rintro e w4 ⟨rfl, b4⟩
  have B4 := hide (bnext B3.out b4)
  clear b4 B3
  go_wp2
  go_ret
  exact ⟨rfl, B4.out⟩

set_option maxRecDepth 100000 in
theorem timerNext_lifted (os : Os) (started : os.Started) (H : Type) (enc : TypeId × Value → H) :
    ReturnsInHanded {} Try.checked os 5 .any (Rows.timerNextSpec.pre6 enc Try.prog Try.f5 Rows.timerNextRow.domain false) (Rows.timerNextSpec.post enc Try.prog Try.f5 false true false false) := by
  refine returnsInHanded_of_change (C := Try.checked) own started (by kernel_rfl) Try.func5
    (ChangeSpec.witness6 (enc := enc) (C := Try.checked) false ⟨#[], #[.agg #[.int .i64 0, .int .i64 0, .bool false, .int .i64 0]], []⟩ 8 (by kernel_rfl) (by kernel_rfl) (by kernel_rfl) (by kernel_rfl)) ?_
  intro W base args ds gs before hval0 hW hcnd _
  have hval : ∀ (j : Nat) t v, Try.f5.params[j]? = some t → args[j]? = some v → Value.okWide Try.prog W .any base t v := hval0
  have hW' := hW
  obtain ⟨p, q, hA0, hV, rfl, hfz, hnd⟩ := hW
  have hA : DataW.TrodAll enc Try.prog W 0 (fun _ => true) true Try.f5.params.toList args.toList ds p := hA0
  rw [Try.params5] at hA hval
  obtain ⟨v0, vs0, d0, ds0, p0, q0, hargs, rfl, rfl, h0, r0⟩ := trodAll_cons hA
  obtain ⟨rfl, rfl, rfl⟩ := trodAll_nil r0
  obtain rfl : args = #[v0] := by cases args; simp_all
  obtain ⟨rfl, rfl⟩ := trodVars_none hV
  have k0 := h0
  have lt0 : ∀ x ∈ p0, x.block < W.heap.size := by obtain ⟨m, hm⟩ := k0; exact DataW.trod_lt m _ _ _ hm
  obtain ⟨cs0, fu0, rfl, sz0, hf0⟩ := open_struct_cells (n := 4) Try.underlying23 (by kernel_rfl) (hval 0 23 v0 rfl rfl) h0
  obtain ⟨y0f0, hy0f0⟩ := hf0 0 _ rfl
  obtain ⟨a0f0, g0f0, _, w0f0⟩ := DataW.trod_int Try.underlying3 hy0f0
  have e0f0 := cell_at (by kernel_rfl) g0f0
  obtain ⟨y0f1, hy0f1⟩ := hf0 1 _ rfl
  obtain ⟨a0f1, g0f1, _, w0f1⟩ := DataW.trod_int Try.underlying3 hy0f1
  have e0f1 := cell_at (by kernel_rfl) g0f1
  obtain ⟨y0f2, hy0f2⟩ := hf0 2 _ rfl
  obtain ⟨a0f2, g0f2, _⟩ := DataW.trod_bool Try.underlying4 hy0f2
  have e0f2 := cell_at (by kernel_rfl) g0f2
  obtain ⟨y0f3, hy0f3⟩ := hf0 3 _ rfl
  obtain ⟨a0f3, g0f3, _, w0f3⟩ := DataW.trod_int Try.underlying3 hy0f3
  have e0f3 := cell_at (by kernel_rfl) g0f3
  obtain rfl : cs0 = #[.int .i64 a0f0, .int .i64 a0f1, .bool a0f2, .int .i64 a0f3] := cells_are [.int .i64 a0f0, .int .i64 a0f1, .bool a0f2, .int .i64 a0f3] sz0 (fun j hj => by
    rcases j with _ | _ | _ | _ | j
    · exact e0f0
    · exact e0f1
    · exact e0f2
    · exact e0f3
    · exact absurd hj (by simp only [List.length_cons, List.length_nil]; omega))
  clear hy0f0 g0f0 e0f0 hy0f1 g0f1 e0f1 hy0f2 g0f2 e0f2 hy0f3 g0f3 e0f3 sz0 hf0
  clear hA0 hval0
  refine (timerNext_walk a0f0 a0f1 a0f2 a0f3 w0f0 w0f1 w0f3 W).mono fun e W' ⟨he, bel⟩ => ?_
  subst he
  exact ⟨_, rfl, _, _, _, [], _, [], hW', trodAll_mk1 (shut_bool Try.underlying4 _), (trodAll_cons_mk (Below.trod laidOut (by kernel_rfl) (of_decide_eq_true (by kernel_rfl)) k0 bel lt0) trodAll_mk0), rfl, bel.frame _, fun h => by cases h⟩

theorem timerNext_over : Rows.timerNextRow.holds Try.pinned (OpenSpec.ofChange Rows.timerNextSpec) :=
  OpenClaim.holds_of_wide 5 Try.f5 rfl rfl rfl rfl rfl rfl rfl ⟨rfl, rfl, rfl, rfl, rfl⟩ rfl rfl rfl rfl rfl (by kernel_rfl) Try.func5 (by kernel_rfl)
    (of_decide_eq_true (by kernel_rfl)) (by unfold Func.isWrapper; first | (rw [if_pos (by decide +kernel)]; kernel_rfl) | (rw [if_neg (by decide +kernel)]; exact ⟨rfl, rfl⟩))
    (fun os started H enc _ => timerNext_lifted os started H enc)

theorem timerNext_holds : Rows.TimerNextSaid := timerNext_over
#print axioms timerNext_holds
end Go.Proofs.Ytcppphnnaojbhaa
