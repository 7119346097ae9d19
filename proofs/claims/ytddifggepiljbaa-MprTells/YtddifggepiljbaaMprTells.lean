/- For every file, place and two numbers the law MprTells of layer 5 returns true: any file has the document's place on the bus of any place, and its file and byte by any mask. No condition. -/
import Derived.Test.YtddifggepiljbaaMprValid
import Derived.Test.YtddifggepiljbaaRef5
import Derived.Test.YtddifggepiljbaaArrays
import Derived.Deep.RegionWith
namespace Go.Proofs.Ytddifggepiljbaa
open Go.ChangeShapes Go.WideShapes Go.ChangeAt Go.RowKit
open Go.ChangeMaps (open_string shut_string)
set_option linter.unusedVariables false
theorem own : ownKnob Try.prog.godebug = none := by kernel_rfl

theorem two_of (l : List Int) (h : l.length = 2) : ∃ a b, l = [a, b] := by
  match l, h with
  | [a, b], _ => exact ⟨a, b, rfl⟩
theorem same_self (f : Nat → Int) : same8 f f = true := by unfold same8; exact beq_self_eq_true _
/-- The first k registers are bytes. -/
def okTo (f : Nat → Int) (k : Nat) : Bool := decide (∀ j : Nat, j < k → 0 ≤ f j ∧ f j ≤ 255)
theorem okTo_all (f : Nat → Int) : okTo f 8 = isFile f := rfl
theorem okTo_no (f : Nat → Int) (k : Nat) (h : okTo f k = false) : okTo f (k + 1) = false := by
  unfold okTo at *
  rw [decide_eq_false_iff_not] at *
  exact fun g => h fun j hj => g j (by omega)
theorem okTo_out (f : Nat → Int) (k : Nat) (h : ¬ (0 ≤ f k ∧ f k ≤ 255)) : okTo f (k + 1) = false := by
  unfold okTo
  rw [decide_eq_false_iff_not]
  exact fun g => h (g k (by omega))
theorem okTo_yes (f : Nat → Int) (k : Nat) (h : okTo f k = true) (h0 : 0 ≤ f k) (h1 : f k ≤ 255) : okTo f (k + 1) = true := by
  unfold okTo at *
  rw [decide_eq_true_eq] at *
  intro j hj
  by_cases e : j = k
  · subst e; exact ⟨h0, h1⟩
  · exact h j (by omega)
theorem phys_fresh_any (w : World) : Calls Try.prog 7 #[.agg #[.int .i64 0, .int .i64 248, .int .i64 0, .int .i64 0, .int .i64 0, .int .i64 0, .int .i64 0, .int .i64 0], .int .i64 8197] w fun e w' => e = .returned (.int .i64 2031621) ∧ Below w.heap.size w w' :=
  phys_any freshOf 8197 w

set_option maxHeartbeats 2000000 in
theorem mprTells_walk (z0 : List Int) (a : Int) (z2 : List Int) (l0 : z0.length = 8) (w0 : ∀ z ∈ z0, (Lit.int .i64 z).wf = true) (w1 : (Lit.int .i64 a).wf = true) (l2 : z2.length = 2) (w2 : ∀ z ∈ z2, (Lit.int .i64 z).wf = true) (w : World) :
    Calls Try.prog 3 #[.agg (z0.map (Value.int .i64)).toArray, .int .i64 a, .agg (z2.map (Value.int .i64)).toArray] w fun e w' => e = .returned (.bool true) ∧ Below w.heap.size w w' := by
  obtain ⟨f, rfl⟩ := file_of z0 l0
  obtain ⟨x, y, rfl⟩ := two_of z2 l2
  clear w0 w1 w2 l0 l2
  simp only [List.map]
  go_enter Try.func3, Try.ntmps3
  go_wp2_with fail
  obtain ⟨wa, hwa⟩ : ∃ wa, wa = (w.alloc (.cells #[.int .i64 (f 0), .int .i64 (f 1), .int .i64 (f 2), .int .i64 (f 3), .int .i64 (f 4), .int .i64 (f 5), .int .i64 (f 6), .int .i64 (f 7)] 22)).alloc (.cells #[.int .i64 x, .int .i64 y] 23) := ⟨_, rfl⟩
  try rw [← hwa]
  have H0 := hide (by rw [hwa]; exact (has8_new w f _).next ((Below.refl _ _).alloc (Nat.le_refl _) _) : Has8 wa w.heap.size f)
  have B0 := hide (by rw [hwa]; exact ((Below.refl _ w).alloc (Nat.le_refl _) _).alloc (by simp) _ : Below w.heap.size w wa)
  have X0 := hide (by rw [hwa]; simp : wa.cell? ⟨w.heap.size + 1, 0, none⟩ = some (.int .i64 x))
  have X1 := hide (by rw [hwa]; simp : wa.cell? ⟨w.heap.size + 1, 1, none⟩ = some (.int .i64 y))
  have hz : w.heap.size + 1 < wa.heap.size := by rw [hwa]; simp
  clear hwa
  go_loop [7, 8] (fun so si => ∃ (i : Nat) (o : Bool), i ≤ 8 ∧ si = .int .i64 (i : Int) ∧ so = .bool o ∧ o = okTo f i) (fun _ si => 8 - (intOf si).toNat)
  case atStart => exact ⟨0, true, by omega, rfl, rfl, rfl⟩
  case round =>
    obtain ⟨i, o, hi, rfl, rfl, ho⟩ := hrel
    have HO := hide ho
    clear ho
    obtain ⟨hd, d0, d1, d2, d3, d4, d5, d6, d7⟩ := H0.out
    rcases nine hi with rfl | rfl | rfl | rfl | rfl | rfl | rfl | rfl | rfl
    · cases o with
      | false =>
        have E := hide (okTo_no f 0 HO.out.symm)
        go_wp2_with fail
        exact ⟨⟨0 + 1, _, by decide, rfl, rfl, E.out.symm⟩, by simp [intOf]⟩
      | true =>
        by_cases h0 : 0 ≤ f 0
        · by_cases h1 : f 0 ≤ 255
          · have E := hide (okTo_yes f 0 HO.out.symm h0 h1)
            go_wp2_with fail
            exact ⟨⟨0 + 1, _, by decide, rfl, rfl, E.out.symm⟩, by simp [intOf]⟩
          · have E := hide (okTo_out f 0 (fun h => h1 h.2))
            go_wp2_with fail
            exact ⟨⟨0 + 1, _, by decide, rfl, rfl, E.out.symm⟩, by simp [intOf]⟩
        · have E := hide (okTo_out f 0 (fun h => h0 h.1))
          go_wp2_with fail
          exact ⟨⟨0 + 1, _, by decide, rfl, rfl, E.out.symm⟩, by simp [intOf]⟩
    · cases o with
      | false =>
        have E := hide (okTo_no f 1 HO.out.symm)
        go_wp2_with fail
        exact ⟨⟨1 + 1, _, by decide, rfl, rfl, E.out.symm⟩, by simp [intOf]⟩
      | true =>
        by_cases h0 : 0 ≤ f 1
        · by_cases h1 : f 1 ≤ 255
          · have E := hide (okTo_yes f 1 HO.out.symm h0 h1)
            go_wp2_with fail
            exact ⟨⟨1 + 1, _, by decide, rfl, rfl, E.out.symm⟩, by simp [intOf]⟩
          · have E := hide (okTo_out f 1 (fun h => h1 h.2))
            go_wp2_with fail
            exact ⟨⟨1 + 1, _, by decide, rfl, rfl, E.out.symm⟩, by simp [intOf]⟩
        · have E := hide (okTo_out f 1 (fun h => h0 h.1))
          go_wp2_with fail
          exact ⟨⟨1 + 1, _, by decide, rfl, rfl, E.out.symm⟩, by simp [intOf]⟩
    · cases o with
      | false =>
        have E := hide (okTo_no f 2 HO.out.symm)
        go_wp2_with fail
        exact ⟨⟨2 + 1, _, by decide, rfl, rfl, E.out.symm⟩, by simp [intOf]⟩
      | true =>
        by_cases h0 : 0 ≤ f 2
        · by_cases h1 : f 2 ≤ 255
          · have E := hide (okTo_yes f 2 HO.out.symm h0 h1)
            go_wp2_with fail
            exact ⟨⟨2 + 1, _, by decide, rfl, rfl, E.out.symm⟩, by simp [intOf]⟩
          · have E := hide (okTo_out f 2 (fun h => h1 h.2))
            go_wp2_with fail
            exact ⟨⟨2 + 1, _, by decide, rfl, rfl, E.out.symm⟩, by simp [intOf]⟩
        · have E := hide (okTo_out f 2 (fun h => h0 h.1))
          go_wp2_with fail
          exact ⟨⟨2 + 1, _, by decide, rfl, rfl, E.out.symm⟩, by simp [intOf]⟩
    · cases o with
      | false =>
        have E := hide (okTo_no f 3 HO.out.symm)
        go_wp2_with fail
        exact ⟨⟨3 + 1, _, by decide, rfl, rfl, E.out.symm⟩, by simp [intOf]⟩
      | true =>
        by_cases h0 : 0 ≤ f 3
        · by_cases h1 : f 3 ≤ 255
          · have E := hide (okTo_yes f 3 HO.out.symm h0 h1)
            go_wp2_with fail
            exact ⟨⟨3 + 1, _, by decide, rfl, rfl, E.out.symm⟩, by simp [intOf]⟩
          · have E := hide (okTo_out f 3 (fun h => h1 h.2))
            go_wp2_with fail
            exact ⟨⟨3 + 1, _, by decide, rfl, rfl, E.out.symm⟩, by simp [intOf]⟩
        · have E := hide (okTo_out f 3 (fun h => h0 h.1))
          go_wp2_with fail
          exact ⟨⟨3 + 1, _, by decide, rfl, rfl, E.out.symm⟩, by simp [intOf]⟩
    · cases o with
      | false =>
        have E := hide (okTo_no f 4 HO.out.symm)
        go_wp2_with fail
        exact ⟨⟨4 + 1, _, by decide, rfl, rfl, E.out.symm⟩, by simp [intOf]⟩
      | true =>
        by_cases h0 : 0 ≤ f 4
        · by_cases h1 : f 4 ≤ 255
          · have E := hide (okTo_yes f 4 HO.out.symm h0 h1)
            go_wp2_with fail
            exact ⟨⟨4 + 1, _, by decide, rfl, rfl, E.out.symm⟩, by simp [intOf]⟩
          · have E := hide (okTo_out f 4 (fun h => h1 h.2))
            go_wp2_with fail
            exact ⟨⟨4 + 1, _, by decide, rfl, rfl, E.out.symm⟩, by simp [intOf]⟩
        · have E := hide (okTo_out f 4 (fun h => h0 h.1))
          go_wp2_with fail
          exact ⟨⟨4 + 1, _, by decide, rfl, rfl, E.out.symm⟩, by simp [intOf]⟩
    · cases o with
      | false =>
        have E := hide (okTo_no f 5 HO.out.symm)
        go_wp2_with fail
        exact ⟨⟨5 + 1, _, by decide, rfl, rfl, E.out.symm⟩, by simp [intOf]⟩
      | true =>
        by_cases h0 : 0 ≤ f 5
        · by_cases h1 : f 5 ≤ 255
          · have E := hide (okTo_yes f 5 HO.out.symm h0 h1)
            go_wp2_with fail
            exact ⟨⟨5 + 1, _, by decide, rfl, rfl, E.out.symm⟩, by simp [intOf]⟩
          · have E := hide (okTo_out f 5 (fun h => h1 h.2))
            go_wp2_with fail
            exact ⟨⟨5 + 1, _, by decide, rfl, rfl, E.out.symm⟩, by simp [intOf]⟩
        · have E := hide (okTo_out f 5 (fun h => h0 h.1))
          go_wp2_with fail
          exact ⟨⟨5 + 1, _, by decide, rfl, rfl, E.out.symm⟩, by simp [intOf]⟩
    · cases o with
      | false =>
        have E := hide (okTo_no f 6 HO.out.symm)
        go_wp2_with fail
        exact ⟨⟨6 + 1, _, by decide, rfl, rfl, E.out.symm⟩, by simp [intOf]⟩
      | true =>
        by_cases h0 : 0 ≤ f 6
        · by_cases h1 : f 6 ≤ 255
          · have E := hide (okTo_yes f 6 HO.out.symm h0 h1)
            go_wp2_with fail
            exact ⟨⟨6 + 1, _, by decide, rfl, rfl, E.out.symm⟩, by simp [intOf]⟩
          · have E := hide (okTo_out f 6 (fun h => h1 h.2))
            go_wp2_with fail
            exact ⟨⟨6 + 1, _, by decide, rfl, rfl, E.out.symm⟩, by simp [intOf]⟩
        · have E := hide (okTo_out f 6 (fun h => h0 h.1))
          go_wp2_with fail
          exact ⟨⟨6 + 1, _, by decide, rfl, rfl, E.out.symm⟩, by simp [intOf]⟩
    · cases o with
      | false =>
        have E := hide (okTo_no f 7 HO.out.symm)
        go_wp2_with fail
        exact ⟨⟨7 + 1, _, by decide, rfl, rfl, E.out.symm⟩, by simp [intOf]⟩
      | true =>
        by_cases h0 : 0 ≤ f 7
        · by_cases h1 : f 7 ≤ 255
          · have E := hide (okTo_yes f 7 HO.out.symm h0 h1)
            go_wp2_with fail
            exact ⟨⟨7 + 1, _, by decide, rfl, rfl, E.out.symm⟩, by simp [intOf]⟩
          · have E := hide (okTo_out f 7 (fun h => h1 h.2))
            go_wp2_with fail
            exact ⟨⟨7 + 1, _, by decide, rfl, rfl, E.out.symm⟩, by simp [intOf]⟩
        · have E := hide (okTo_out f 7 (fun h => h0 h.1))
          go_wp2_with fail
          exact ⟨⟨7 + 1, _, by decide, rfl, rfl, E.out.symm⟩, by simp [intOf]⟩
    · have k0 := kept_cell d0 hd
      have k1 := kept_cell d1 hd
      have k2 := kept_cell d2 hd
      have k3 := kept_cell d3 hd
      have k4 := kept_cell d4 hd
      have k5 := kept_cell d5 hd
      have k6 := kept_cell d6 hd
      have k7 := kept_cell d7 hd
      have x0 := kept_cell X0.out hz
      have x1 := kept_cell X1.out hz
      clear d0 d1 d2 d3 d4 d5 d6 d7
      have V := hide (valid_any f)
      rw [← okTo_all, ← HO.out] at V
      have T1 := hide (tam_any f x y)
      have T2 := hide (rtam_any f x y)
      generalize tamOf f x y = g at *
      have hq := fun w => (same_self g) ▸ eq8 g g w
      have P1 := hide (phys_any f a)
      have P2 := hide (rphys_any f a)
      generalize physOf f a = p at *
      have M1 := hide (tma_any f x y)
      have M2 := hide (rtma_any f x y)
      generalize tmaOf f x y = m at *
      go_wp2_with fail
      haveI := kept_some wa
      refine wp_region_kept (by kernel_rfl) (by kernel_rfl) ?_
      repeat (go_big_quiet_step ((first
        | (go_at_call_of 7 (Value.int .i64 8197); exact kept_call (phys_fresh_any _))
        | (go_at_call 7; exact kept_call (P1.out _))
        | (go_at_call 8; exact kept_call (P2.out _))
        | (go_at_call 9; exact kept_call (T1.out _))
        | (go_at_call 10; exact kept_call (T2.out _))
        | (go_at_call 11; exact kept_call (M1.out _))
        | (go_at_call 12; exact kept_call (M2.out _))
        | (go_at_call 13; exact kept_call (V.out _))
        | (go_at_call 14; exact kept_call (fresh_any _)))))
      refine wpQuiet_nil ?_
      rintro _ ⟨wk, rfl⟩
      go_wp2
      go_ret
      exact ⟨rfl, bnext B0.out wk.below⟩

set_option maxRecDepth 100000 in
theorem mprTells_lifted (os : Os) (started : os.Started) (H : Type) (enc : TypeId × Value → H) :
    ReturnsInHanded {} Try.checked os 3 .any (Rows.mprTellsSpec.pre6 enc Try.prog Try.f3 Rows.mprTellsRow.domain false) (Rows.mprTellsSpec.post enc Try.prog Try.f3 false true false false) := by
  refine returnsInHanded_of_change (C := Try.checked) own started (by kernel_rfl) Try.func3
    (ChangeSpec.witness6 (enc := enc) (C := Try.checked) false ⟨#[], #[.agg #[.int .i64 0, .int .i64 0, .int .i64 0, .int .i64 0, .int .i64 0, .int .i64 0, .int .i64 0, .int .i64 0], .int .i64 0, .agg #[.int .i64 0, .int .i64 0]], []⟩ 8 (by kernel_rfl) (by kernel_rfl) (by kernel_rfl) (by kernel_rfl)) ?_
  intro W base args ds gs before hval0 hW hcnd _
  have hval : ∀ (j : Nat) t v, Try.f3.params[j]? = some t → args[j]? = some v → Value.okWide Try.prog W .any base t v := hval0
  have hW' := hW
  obtain ⟨p, q, hA0, hV, rfl, hfz, hnd⟩ := hW
  have hA : DataW.TrodAll enc Try.prog W 0 (fun _ => true) true Try.f3.params.toList args.toList ds p := hA0
  rw [Try.params3] at hA hval
  obtain ⟨v0, vs0, d0, ds0, p0, q0, hargs, rfl, rfl, h0, r0⟩ := trodAll_cons hA
  obtain ⟨v1, vs1, d1, ds1, p1, q1, rfl, rfl, rfl, h1, r1⟩ := trodAll_cons r0
  obtain ⟨v2, vs2, d2, ds2, p2, q2, rfl, rfl, rfl, h2, r2⟩ := trodAll_cons r1
  obtain ⟨rfl, rfl, rfl⟩ := trodAll_nil r2
  obtain rfl : args = #[v0, v1, v2] := by cases args; simp_all
  obtain ⟨rfl, rfl⟩ := trodVars_none hV
  have k0 := h0
  have lt0 : ∀ x ∈ p0, x.block < W.heap.size := by obtain ⟨m, hm⟩ := k0; exact DataW.trod_lt m _ _ _ hm
  obtain ⟨z0, l0, rfl, w0⟩ := open_array_ints Try.underlying22 Try.underlying3 (by kernel_rfl) (by kernel_rfl) (hval 0 22 v0 rfl rfl) h0
  obtain ⟨a1, rfl, rfl, rfl, w1⟩ := open_int Try.underlying3 (hval 1 3 v1 rfl rfl) h1
  have k2 := h2
  have lt2 : ∀ x ∈ p2, x.block < W.heap.size := by obtain ⟨m, hm⟩ := k2; exact DataW.trod_lt m _ _ _ hm
  obtain ⟨z2, l2, rfl, w2⟩ := open_array_ints Try.underlying23 Try.underlying3 (by kernel_rfl) (by kernel_rfl) (hval 2 23 v2 rfl rfl) h2
  clear hA0 hval0
  refine (mprTells_walk z0 a1 z2 l0 w0 w1 l2 w2 W).mono fun e W' ⟨he, bel⟩ => ?_
  subst he
  exact ⟨_, rfl, _, _, _, [], _, [], hW', trodAll_mk1 (shut_bool Try.underlying4 _), (trodAll_cons_mk (Below.trod laidOut (by kernel_rfl) (of_decide_eq_true (by kernel_rfl)) k0 bel lt0) (trodAll_cons_mk (shut_int Try.underlying3 w1) (trodAll_cons_mk (Below.trod laidOut (by kernel_rfl) (of_decide_eq_true (by kernel_rfl)) k2 bel lt2) trodAll_mk0))), rfl, bel.frame _, fun h => by cases h⟩

theorem mprTells_over : Rows.mprTellsRow.holds Try.pinned (OpenSpec.ofChange Rows.mprTellsSpec) :=
  OpenClaim.holds_of_wide 3 Try.f3 rfl rfl rfl rfl rfl rfl rfl ⟨rfl, rfl, rfl, rfl, rfl⟩ rfl rfl rfl rfl rfl (by kernel_rfl) Try.func3 (by kernel_rfl)
    (of_decide_eq_true (by kernel_rfl)) (by unfold Func.isWrapper; first | (rw [if_pos (by decide +kernel)]; kernel_rfl) | (rw [if_neg (by decide +kernel)]; exact ⟨rfl, rfl⟩))
    (fun os started H enc _ => mprTells_lifted os started H enc)

theorem mprTells_holds : Rows.MprTellsSaid := mprTells_over
#print axioms mprTells_holds
end Go.Proofs.Ytddifggepiljbaa
