/- For every timer, every number of ticks and every write the law TimerTells of layer 10 returns true: any timer, any ticks on, is the document's, and came round as often; any write leaves its timer; it comes round next when it says. No condition. -/
import Derived.Test.YtcppphnnaojbhaaLaws10
import Derived.Test.YtcppphnnaojbhaaRef10c
import Derived.Test.YtcppphnnaojbhaaTwo
namespace Go.Proofs.Ytcppphnnaojbhaa
open Go.ChangeShapes Go.WideShapes Go.ChangeAt Go.RowKit
open Go.ChangeMaps (open_string shut_string)
set_option linter.unusedVariables false
theorem own : ownKnob Try.prog.godebug = none := by kernel_rfl

theorem adv_both (r c : Int) (o : Bool) (p t : Int) (t1 : t ≤ 8388608) : ∃ (r' c' : Int) (o' : Bool) (p' n : Int),
    (∀ w, Calls Try.prog 8 #[.agg #[.int .i64 r, .int .i64 c, .bool o, .int .i64 p], .int .i64 t] w fun e w' => e = .returned (.tuple #[.agg #[.int .i64 r', .int .i64 c', .bool o', .int .i64 p'], .int .i64 n]) ∧ Below w.heap.size w w') ∧
    (∀ w, Calls Try.prog 9 #[.agg #[.int .i64 r, .int .i64 c, .bool o, .int .i64 p], .int .i64 t] w fun e w' => e = .returned (.tuple #[.agg #[.int .i64 r', .int .i64 c', .bool o', .int .i64 p'], .int .i64 n]) ∧ Below w.heap.size w w') := by
  by_cases h : (o && okT r c o p) = true
  · by_cases ht : t < 1
    · exact ⟨r, c, o, p, 0, adv_still r c o p t (.inr (.inl ht)), radv_still r c o p t (.inr ht)⟩
    · obtain ⟨rfl, ho⟩ : o = true ∧ okT r c o p = true := by simpa using h
      exact ⟨_, _, _, _, _, adv_on r c p t ho (by omega) (by omega), radv_on r c p t ho (by omega) (by omega)⟩
  · have h' : (o && okT r c o p) = false := by simpa using h
    exact ⟨r, c, o, p, 0, adv_still r c o p t (.inl h'), radv_still r c o p t (.inl h')⟩
theorem write_both (r c : Int) (o : Bool) (p a b : Int) : ∃ (r' c' : Int) (o' : Bool) (p' : Int),
    (∀ w, Calls Try.prog 12 #[.agg #[.int .i64 r, .int .i64 c, .bool o, .int .i64 p], .int .i64 a, .int .i64 b] w fun e w' => e = .returned (.agg #[.int .i64 r', .int .i64 c', .bool o', .int .i64 p']) ∧ Below w.heap.size w w') ∧
    (∀ w, Calls Try.prog 13 #[.agg #[.int .i64 r, .int .i64 c, .bool o, .int .i64 p], .int .i64 a, .int .i64 b] w fun e w' => e = .returned (.agg #[.int .i64 r', .int .i64 c', .bool o', .int .i64 p']) ∧ Below w.heap.size w w') := by
  by_cases h0 : a = 0
  · subst h0
    exact ⟨_, _, _, _, write_0 r c o p b, rwrite_0 r c o p b⟩
  · by_cases h1 : a = 1
    · subst h1
      exact ⟨_, _, _, _, write_1 r c o p b _ rfl, rwrite_1 r c o p b _ rfl⟩
    · exact ⟨_, _, _, _, write_no r c o p a b h0 h1, rwrite_no r c o p a b (by simpa using h0) (by simpa using h1)⟩
theorem ticks_23 (a : Int) : ∃ t, a.tmod 8388608 = t ∧ t ≤ 8388608 ∧ -8388608 ≤ t := by
  have h1 := Int.lt_tmod_of_pos a (b := 8388608) (by decide)
  have h2 := Int.tmod_lt_of_pos a (b := 8388608) (by decide)
  exact ⟨_, rfl, by omega, by omega⟩
theorem has2_row {w : World} {n : Nat} {x y : Int} {t : TypeId} (h : w.heap[n]? = some (.cells #[.int .i64 x, .int .i64 y] t (0, 0))) : Has2 w n x y :=
  ⟨lt_of_block h, (cell_of_row w n 0 _ _ _ h).trans rfl, (cell_of_row w n 1 _ _ _ h).trans rfl⟩
theorem pair_of (z : List Int) (h : z.length = 2) : ∃ x y, z = [x, y] := by
  match z, h with
  | [x, y], _ => exact ⟨x, y, rfl⟩

theorem timerTells_walk (r c : Int) (o : Bool) (p a1 : Int) (z : List Int) (w0 : (Lit.int .i64 r).wf = true) (w1 : (Lit.int .i64 c).wf = true) (w2 : (Lit.int .i64 p).wf = true) (w3 : (Lit.int .i64 a1).wf = true) (l2 : z.length = 2) (w4 : ∀ x ∈ z, (Lit.int .i64 x).wf = true) (w : World) :
    Calls Try.prog 3 #[.agg #[.int .i64 r, .int .i64 c, .bool o, .int .i64 p], .int .i64 a1, .agg (z.map (Value.int .i64)).toArray] w fun e w' => e = .returned (.bool true) ∧ Below w.heap.size w w' := by
  clear w0 w1 w2 w3 w4
  obtain ⟨a, b, rfl⟩ := pair_of z l2
  clear l2
  simp only [List.map_cons, List.map_nil]
  obtain ⟨t, et, t0, t1⟩ := ticks_23 a1
  obtain ⟨r', c', o', p', n, k1, k2⟩ := adv_both r c o p t t0
  obtain ⟨r2, c2, o2, p2, k3, k4⟩ := write_both r c o p a b
  have C1 := hide k1
  have C2 := hide k2
  have C3 := hide k3
  have C4 := hide k4
  have C5 := hide (next_any r c o p)
  have C6 := hide (rnext_any r c o p)
  have C7 := hide (fun w => valid_any r c o p w)
  have C8 := hide (fun w => (rvalid_any r c o p w).mono fun e w' h => (⟨h.1, h.2 ▸ (Below.refl _ w).alloc (Nat.le_refl _) _⟩ : e = .returned (.bool (okT r c o p)) ∧ Below w.heap.size w w'))
  have C9 := hide (fun w => read_any r c o p w)
  have hz : okT 0 0 false 0 = true := rfl
  have q1 : ∀ w, (binOp .eql 27 (.agg #[.int .i64 r', .int .i64 c', .bool o', .int .i64 p']) (.agg #[.int .i64 r', .int .i64 c', .bool o', .int .i64 p'])).run Try.prog w = .ok (.bool true) w := fun w => (eqR r' c' o' p' r' c' o' p' w).trans (by rw [sameT_self])
  have q2 : ∀ w, (binOp .eql 27 (.agg #[.int .i64 r2, .int .i64 c2, .bool o2, .int .i64 p2]) (.agg #[.int .i64 r2, .int .i64 c2, .bool o2, .int .i64 p2])).run Try.prog w = .ok (.bool true) w := fun w => (eqR r2 c2 o2 p2 r2 c2 o2 p2 w).trans (by rw [sameT_self])
  generalize nextOf r c o p = m at *
  clear k1 k2 k3 k4
  go_enter Try.func3, Try.ntmps3
  go_wp2_with fail
  refine (C1.out _).mono ?_
  rintro e w1 ⟨rfl, b1⟩
  have b1' := bnext (((Below.refl _ w).alloc (Nat.le_refl _) _).alloc (by simp) _) b1
  have R1 := hide (((hasT_new w r c o p).alloc _).next b1)
  have A1 := hide (show Has2 w1 (w.heap.size + 1) a b from has2_row ((b1.block (w.heap.size + 1) (by simp)).trans (heap_alloc2_new _ _ _)))
  have R2 := hide (R1.out.alloc (.cells #[.int .i64 r', .int .i64 c', .bool o', .int .i64 p'] 23))
  have B2 := hide (b1'.alloc b1'.size (.cells #[.int .i64 r', .int .i64 c', .bool o', .int .i64 p'] 23))
  have A2 := hide (A1.out.next ((Below.refl _ w1).alloc (Nat.le_refl _) (.cells #[.int .i64 r', .int .i64 c', .bool o', .int .i64 p'] 23)))
  have X2 := hide (hasT_new w1 r' c' o' p')
  clear b1 b1' R1 A1
  go_wp2_with (first | (refine wpList_load_row rfl 23 (.tmp 3) rfl w.heap.size rfl 23 _ (0, 0) _ R2.out Try.underlying23 rfl (by kernel_rfl) ?_))
  refine (C2.out _).mono ?_
  rintro e w2 ⟨rfl, b2⟩
  obtain ⟨wa, hwa⟩ : ∃ wa, wa = w2.alloc (.cells #[.int .i64 r', .int .i64 c', .bool o', .int .i64 p'] 27) := ⟨_, rfl⟩
  have n2 : Below w2.heap.size w2 wa := by rw [hwa]; exact (Below.refl _ w2).alloc (Nat.le_refl _) _
  have R3 := (R2.out.next b2).next n2
  have A3 := (A2.out.next b2).next n2
  have X3 := (X2.out.next b2).next n2
  have Y3 : wa.heap[w2.heap.size]? = some (.cells #[.int .i64 r', .int .i64 c', .bool o', .int .i64 p'] 27 (0, 0)) := by rw [hwa]; exact heap_alloc_new _ _
  have B3 := hide (bnext (bnext B2.out b2) n2)
  have r0 := kept_cell R3.c0 R3.lt
  have r1 := kept_cell R3.c1 R3.lt
  have r2 := kept_cell R3.c2 R3.lt
  have r3 := kept_cell R3.c3 R3.lt
  have x0 := kept_cell X3.c0 X3.lt
  have x1 := kept_cell X3.c1 X3.lt
  have x2 := kept_cell X3.c2 X3.lt
  have x3 := kept_cell X3.c3 X3.lt
  have a0 := kept_cell A3.2.1 A3.1
  have a1 := kept_cell A3.2.2 A3.1
  have y0 := kept_cell ((cell_of_row wa w2.heap.size 0 _ _ _ Y3).trans rfl) (lt_of_block Y3)
  have y1 := kept_cell ((cell_of_row wa w2.heap.size 1 _ _ _ Y3).trans rfl) (lt_of_block Y3)
  have y2 := kept_cell ((cell_of_row wa w2.heap.size 2 _ _ _ Y3).trans rfl) (lt_of_block Y3)
  have y3 := kept_cell ((cell_of_row wa w2.heap.size 3 _ _ _ Y3).trans rfl) (lt_of_block Y3)
  clear b2 n2 R2 B2 A2 X2 R3 A3 X3 Y3
  go_wp2_with fail
  rw [← hwa]
  clear hwa
  haveI := kept_some wa
  refine wp_region_kept (by kernel_rfl) (by kernel_rfl) ?_
  repeat (go_big_quiet_step ((first
    | (go_at_call 10; exact kept_call (C5.out _))
    | (go_at_call 11; exact kept_call (C6.out _))
    | (go_at_call 12; exact kept_call (C3.out _))
    | (go_at_call 13; exact kept_call (C4.out _))
    | (go_at_call 14; exact kept_call (valid_any _ _ _ _ _))
    | (go_at_call 15; exact kept_call (C8.out _))
    | (go_at_call 16; exact kept_call (C9.out _)))))
  refine wpQuiet_nil ?_
  rintro _ ⟨wk, rfl⟩
  go_wp2
  go_ret
  exact ⟨rfl, bnext B3.out wk.below⟩

set_option maxRecDepth 100000 in
theorem timerTells_lifted (os : Os) (started : os.Started) (H : Type) (enc : TypeId × Value → H) :
    ReturnsInHanded {} Try.checked os 3 .any (Rows.timerTellsSpec.pre6 enc Try.prog Try.f3 Rows.timerTellsRow.domain false) (Rows.timerTellsSpec.post enc Try.prog Try.f3 false true false false) := by
  refine returnsInHanded_of_change (C := Try.checked) own started (by kernel_rfl) Try.func3
    (ChangeSpec.witness6 (enc := enc) (C := Try.checked) false ⟨#[], #[.agg #[.int .i64 0, .int .i64 0, .bool false, .int .i64 0], .int .i64 0, .agg #[.int .i64 0, .int .i64 0]], []⟩ 8 (by kernel_rfl) (by kernel_rfl) (by kernel_rfl) (by kernel_rfl)) ?_
  intro W base args ds gs before hval0 hW hcnd _
  have hval : ∀ (j : Nat) t v, Try.f3.params[j]? = some t → args[j]? = some v → Value.okWide Try.prog W .any base t v := hval0
  have hW' := hW
  obtain ⟨p, q, hA0, hV, rfl, hfz, hnd⟩ := hW
  have hA : DataW.TrodAll enc Try.prog W 0 (fun _ => true) true Try.f3.params.toList args.toList ds p := hA0
  rw [Try.params3] at hA hval
  obtain ⟨v0, vs0, d0, ds0, p0, q0, hargs, rfl, rfl, h0, r0⟩ := trodAll_cons hA
  obtain ⟨v1, vs1, d1, ds1, p1, q1, rfl, rfl, rfl, h1, r1⟩ := trodAll_cons r0
  obtain ⟨v2, vs2, d2, ds2, p2, q2, rfl, rfl, rfl, h2, r2⟩ := trodAll_cons r1
  obtain ⟨rfl, rfl, rfl⟩ := trodAll_nil r2
  obtain rfl : args = #[v0, v1, v2] := by cases args; simp_all
  obtain ⟨rfl, rfl⟩ := trodVars_none hV
  have k0 := h0
  have lt0 : ∀ x ∈ p0, x.block < W.heap.size := by obtain ⟨m, hm⟩ := k0; exact DataW.trod_lt m _ _ _ hm
  obtain ⟨cs0, fu0, rfl, sz0, hf0⟩ := open_struct_cells (n := 4) Try.underlying23 (by kernel_rfl) (hval 0 23 v0 rfl rfl) h0
  obtain ⟨y0f0, hy0f0⟩ := hf0 0 _ rfl
  obtain ⟨a0f0, g0f0, _, w0f0⟩ := DataW.trod_int Try.underlying3 hy0f0
  have e0f0 := cell_at (by kernel_rfl) g0f0
  obtain ⟨y0f1, hy0f1⟩ := hf0 1 _ rfl
  obtain ⟨a0f1, g0f1, _, w0f1⟩ := DataW.trod_int Try.underlying3 hy0f1
  have e0f1 := cell_at (by kernel_rfl) g0f1
  obtain ⟨y0f2, hy0f2⟩ := hf0 2 _ rfl
  obtain ⟨a0f2, g0f2, _⟩ := DataW.trod_bool Try.underlying4 hy0f2
  have e0f2 := cell_at (by kernel_rfl) g0f2
  obtain ⟨y0f3, hy0f3⟩ := hf0 3 _ rfl
  obtain ⟨a0f3, g0f3, _, w0f3⟩ := DataW.trod_int Try.underlying3 hy0f3
  have e0f3 := cell_at (by kernel_rfl) g0f3
  obtain rfl : cs0 = #[.int .i64 a0f0, .int .i64 a0f1, .bool a0f2, .int .i64 a0f3] := cells_are [.int .i64 a0f0, .int .i64 a0f1, .bool a0f2, .int .i64 a0f3] sz0 (fun j hj => by
    rcases j with _ | _ | _ | _ | j
    · exact e0f0
    · exact e0f1
    · exact e0f2
    · exact e0f3
    · exact absurd hj (by simp only [List.length_cons, List.length_nil]; omega))
  clear hy0f0 g0f0 e0f0 hy0f1 g0f1 e0f1 hy0f2 g0f2 e0f2 hy0f3 g0f3 e0f3 sz0 hf0
  obtain ⟨a1, rfl, rfl, rfl, w1⟩ := open_int Try.underlying3 (hval 1 3 v1 rfl rfl) h1
  have k2 := h2
  have lt2 : ∀ x ∈ p2, x.block < W.heap.size := by obtain ⟨m, hm⟩ := k2; exact DataW.trod_lt m _ _ _ hm
  obtain ⟨z2, l2, rfl, w2⟩ := open_array_ints Try.underlying24 Try.underlying3 (by kernel_rfl) (by kernel_rfl) (hval 2 24 v2 rfl rfl) h2
  clear hA0 hval0
  refine (timerTells_walk a0f0 a0f1 a0f2 a0f3 a1 z2 w0f0 w0f1 w0f3 w1 l2 w2 W).mono fun e W' ⟨he, bel⟩ => ?_
  subst he
  exact ⟨_, rfl, _, _, _, [], _, [], hW', trodAll_mk1 (shut_bool Try.underlying4 _), (trodAll_cons_mk (Below.trod laidOut (by kernel_rfl) (of_decide_eq_true (by kernel_rfl)) k0 bel lt0) (trodAll_cons_mk (shut_int Try.underlying3 w1) (trodAll_cons_mk (Below.trod laidOut (by kernel_rfl) (of_decide_eq_true (by kernel_rfl)) k2 bel lt2) trodAll_mk0))), rfl, bel.frame _, fun h => by cases h⟩

theorem timerTells_over : Rows.timerTellsRow.holds Try.pinned (OpenSpec.ofChange Rows.timerTellsSpec) :=
  OpenClaim.holds_of_wide 3 Try.f3 rfl rfl rfl rfl rfl rfl rfl ⟨rfl, rfl, rfl, rfl, rfl⟩ rfl rfl rfl rfl rfl (by kernel_rfl) Try.func3 (by kernel_rfl)
    (of_decide_eq_true (by kernel_rfl)) (by unfold Func.isWrapper; first | (rw [if_pos (by decide +kernel)]; kernel_rfl) | (rw [if_neg (by decide +kernel)]; exact ⟨rfl, rfl⟩))
    (fun os started H enc _ => timerTells_lifted os started H enc)

theorem timerTells_holds : Rows.TimerTellsSaid := timerTells_over
#print axioms timerTells_holds
end Go.Proofs.Ytcppphnnaojbhaa
