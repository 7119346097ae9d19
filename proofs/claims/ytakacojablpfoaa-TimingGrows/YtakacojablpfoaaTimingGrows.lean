/- For every setup and every number the law TimingGrows of layer 14 returns true: with more lines asked no fewer are shown, and the picture begins where it did; with more cells a line is no narrower. No condition. -/
import Derived.Test.YtakacojablpfoaaGeo14
import Derived.Test.YtakacojablpfoaaStructs
import Derived.Deep.CutRange
namespace Go.Proofs.Ytakacojablpfoaa
open Go.ChangeShapes Go.WideShapes Go.ChangeAt Go.RowKit
open Go.ChangeMaps (open_string shut_string)
set_option linter.unusedVariables false
theorem own : ownKnob Try.prog.godebug = none := by kernel_rfl

theorem and_63 (n : Int) : bits .and .i64 n 63 = n % 64 := and_mask 6 (by decide) n
theorem wide_more (a c m : Int) (c0 : 0 ≤ c) (c1 : c < 64) (m0 : 0 ≤ m) (m1 : m < 64) : wideOf a c ≤ wideOf a (c + m) ∧ wideOf a (c + m) - wideOf a c ≤ 8 * m := by
  unfold wideOf widthOf inB
  generalize mostOf a = u
  omega
theorem bot_more (b d f m : Int) (f0 : 0 ≤ f) (f1 : f < 256) (m0 : 0 ≤ m) (m1 : m < 64) : botOf b d f ≤ botOf b d (f + m) ∧ botOf b d (f + m) - botOf b d f ≤ m := by
  unfold botOf heightOf inB
  generalize linOf b = u
  generalize topOf b d = y
  omega
theorem grows_all (a b c d f g' n c' f' m x t v k l x' v' k' : Int) (w : World)
    (C1 : Hid (∀ w, Calls Try.prog 8 #[.agg #[.int .i64 a, .int .i64 b, .int .i64 c', .int .i64 d, .int .i64 f', .int .i64 g']] w fun e w' => e = .returned (.agg #[.int .i64 x, .int .i64 t, .int .i64 v, .int .i64 k, .int .i64 l]) ∧ Below w.heap.size w w'))
    (C2 : Hid (∀ w, Calls Try.prog 8 #[.agg #[.int .i64 a, .int .i64 b, .int .i64 (c' + m), .int .i64 d, .int .i64 (f' + m), .int .i64 g']] w fun e w' => e = .returned (.agg #[.int .i64 x', .int .i64 t, .int .i64 v', .int .i64 k', .int .i64 l]) ∧ Below w.heap.size w w'))
    (ec : bits .and .i64 c 63 = c') (ef : bits .and .i64 f 255 = f') (em : bits .and .i64 n 63 = m) (c0 : 0 ≤ c') (c1 : c' < 64) (f0 : 0 ≤ f') (f1 : f' < 256) (m0 : 0 ≤ m) (m1 : m < 64)
    (x0 : 8 ≤ x) (x1 : x ≤ x') (x2 : x' - x ≤ 8 * m) (x3 : x' ≤ 512) (v0 : 0 ≤ v) (v1 : v ≤ v') (v2 : v' - v ≤ m) (v3 : v' ≤ 263) : Calls Try.prog 6 #[.agg #[.int .i64 a, .int .i64 b, .int .i64 c, .int .i64 d, .int .i64 f, .int .i64 g'], .int .i64 n] w fun e w' => e = .returned (.bool true) ∧ Below w.heap.size w w' := by
  have X := hide (And.intro x0 (And.intro x1 (And.intro x2 (And.intro x3 (And.intro v0 (And.intro v1 (And.intro v2 v3)))))))
  clear x0 x1 x2 x3 v0 v1 v2 v3
  go_enter Try.func6, Try.ntmps6
  go_wp2_with fail
  refine (C1.out _).mono ?_
  rintro e w1 ⟨rfl, b1⟩
  clear C1 ec ef em
  have B1 := hide ((bnext ((Below.refl _ w).alloc (Nat.le_refl _) _) b1))
  have s1 := (b1.block w.heap.size (by simp)).trans (heap_alloc_new w (.cells #[.int .i64 a, .int .i64 b, .int .i64 c', .int .i64 d, .int .i64 f', .int .i64 g'] 23))
  have hs : w.heap.size < w1.heap.size := Nat.lt_of_lt_of_le (by simp) b1.size
  have A1 := (Below.refl _ w1).alloc (Nat.le_refl _) (.cells #[.int .i64 x, .int .i64 t, .int .i64 v, .int .i64 k, .int .i64 l] 25)
  have S1 := hide ((A1.block w.heap.size hs).trans s1)
  have d4 : w1.cell? ⟨w.heap.size, 4, none⟩ = some (.int .i64 f') := (cell_of_row w1 w.heap.size 4 _ _ _ s1).trans rfl
  have d2 : w1.cell? ⟨w.heap.size, 2, none⟩ = some (.int .i64 c') := (cell_of_row w1 w.heap.size 2 _ _ _ s1).trans rfl
  generalize hz : w.heap.size = z at S1 d4 d2 hs B1 ⊢
  have HZ := hide hz
  clear hz A1 s1 b1
  go_upto_region 5 with (first | (refine wpList_load_row rfl 23 (.tmp 2) rfl z rfl 23 _ (0, 0) _ S1.out Try.underlying23 rfl (by kernel_rfl) ?_))
  go_region_held3 (fun w' => w'.cell? ⟨z, 4, none⟩ = some (.int .i64 f') ∧ w'.cell? ⟨z, 2, none⟩ = some (.int .i64 c')) (simp [d4, d2, hs, Nat.lt_succ_of_lt hs, World.cell?_alloc_lt]) (fail)
  have e1 : IntKind.i64.wrap (f' + m) = f' + m := i64_small _ (by omega) (by omega)
  have e2 : IntKind.i64.wrap (c' + m) = c' + m := i64_small _ (by omega) (by omega)
  rw [e1, e2]
  refine under_then fun wb hwb => ?_
  have hwb' : wb = ((w1.alloc (.cells #[.int .i64 x, .int .i64 t, .int .i64 v, .int .i64 k, .int .i64 l] 25)).alloc (.cells #[.int .i64 a, .int .i64 b, .int .i64 (c' + m), .int .i64 d, .int .i64 (f' + m), .int .i64 g'] 23)).drew := hwb
  have N1 : Below w1.heap.size w1 wb := by rw [hwb']; exact (((Below.refl _ w1).alloc (Nat.le_refl _) _).alloc (by simp) _).drew
  have eh : wb.heap = (w1.heap.push (.cells #[.int .i64 x, .int .i64 t, .int .i64 v, .int .i64 k, .int .i64 l] 25)).push (.cells #[.int .i64 a, .int .i64 b, .int .i64 (c' + m), .int .i64 d, .int .i64 (f' + m), .int .i64 g'] 23) := by rw [hwb']; rfl
  have G2 := hide (show HasG wb w1.heap.size x t v k l by unfold HasG; rw [eh, Array.getElem?_push, if_neg (by simp), Array.getElem?_push, if_pos rfl])
  have U2 := hide (show wb.heap[w1.heap.size + 1]? = some (.cells #[.int .i64 a, .int .i64 b, .int .i64 (c' + m), .int .i64 d, .int .i64 (f' + m), .int .i64 g'] 23 (0, 0)) by rw [eh, Array.getElem?_push, if_pos (by simp)])
  have B2 := hide (B1.out.trans (N1.mono (Nat.le_of_lt hs)))
  clear hwb hwb' N1 eh e1 e2 S1 d4 d2 B1 hs
  generalize w1.heap.size = y at *
  go_wp2_with (first | (refine wpList_load_row rfl 23 (.tmp 6) rfl (y + 1) rfl 23 _ (0, 0) _ U2.out Try.underlying23 rfl (by kernel_rfl) ?_))
  refine (C2.out _).mono ?_
  rintro e w2 ⟨rfl, b2⟩
  have n2 := (Below.refl _ w2).alloc (Nat.le_refl _) (.cells #[.int .i64 x', .int .i64 t, .int .i64 v', .int .i64 k', .int .i64 l] 25)
  have G3 := (G2.out.next b2).next n2
  have H3 := hasG_new w2 x' t v' k' l
  have hy : z ≤ wb.heap.size := by have := HZ.out; have := B2.out.size; omega
  have B3 := hide ((B2.out.trans (b2.mono hy)).trans (n2.mono (Nat.le_trans hy b2.size)))
  clear C2 b2 G2 U2 B2 n2 hy
  go_upto_region 7 with fail
  generalize w2.alloc (.cells #[.int .i64 x', .int .i64 t, .int .i64 v', .int .i64 k', .int .i64 l] 25) = wc at *
  generalize w2.heap.size = y2 at *
  have g0 := G3.c0
  have g1 := G3.c1
  have g2 := G3.c2
  have g4 := G3.c4
  have h0 := H3.c0
  have h1 := H3.c1
  have h2 := H3.c2
  have h4 := H3.c4
  obtain ⟨x0, x1, x2, x3, v0, v1, v2, v3⟩ := X.out
  clear G3 H3 X
  go_wp2
  go_ret
  exact ⟨rfl, by rw [HZ.out]; exact B3.out⟩
theorem timingGrows_walk (a b c d f g' n : Int) (w0 : (Lit.int .i64 a).wf = true) (w1 : (Lit.int .i64 b).wf = true) (w2 : (Lit.int .i64 c).wf = true) (w3 : (Lit.int .i64 d).wf = true) (w4 : (Lit.int .i64 f).wf = true) (w5 : (Lit.int .i64 g').wf = true) (w6 : (Lit.int .i64 n).wf = true) (w : World) : Calls Try.prog 6 #[.agg #[.int .i64 a, .int .i64 b, .int .i64 c, .int .i64 d, .int .i64 f, .int .i64 g'], .int .i64 n] w fun e w' => e = .returned (.bool true) ∧ Below w.heap.size w w' := by
  have hc : 0 ≤ c % 64 ∧ c % 64 < 64 := by omega
  have hf : 0 ≤ f % 256 ∧ f % 256 < 256 := by omega
  have hm : 0 ≤ n % 64 ∧ n % 64 < 64 := by omega
  have e1 := wide_more a (c % 64) (n % 64) hc.1 hc.2 hm.1 hm.2
  have e2 := bot_more b d (f % 256) (n % 64) hf.1 hf.2 hm.1 hm.2
  have e3 := wide_le a (c % 64)
  have e4 := wide_le a (c % 64 + n % 64)
  have e5 := bot_le b d (f % 256)
  have e6 := bot_le b d (f % 256 + n % 64)
  have e7 := top_le b d
  have e8 := lin_le b
  exact grows_all a b c d f g' n (c % 64) (f % 256) (n % 64) _ _ _ _ _ _ _ _ w (hide (of_any a b (c % 64) d (f % 256) g')) (hide (of_any a b (c % 64 + n % 64) d (f % 256 + n % 64) g'))
    (and_63 c) (and_255 f) (and_63 n) hc.1 hc.2 hf.1 hf.2 hm.1 hm.2 e3.1 e1.1 e1.2 e4.2.1 (by omega) e2.1 e2.2 (by omega)

set_option maxRecDepth 100000 in
theorem timingGrows_lifted (os : Os) (started : os.Started) (H : Type) (enc : TypeId × Value → H) :
    ReturnsInHanded {} Try.checked os 6 .any (Rows.timingGrowsSpec.pre6 enc Try.prog Try.f6 Rows.timingGrowsRow.domain false) (Rows.timingGrowsSpec.post enc Try.prog Try.f6 false true false false) := by
  refine returnsInHanded_of_change (C := Try.checked) own started (by kernel_rfl) Try.func6
    (ChangeSpec.witness6 (enc := enc) (C := Try.checked) false ⟨#[], #[.agg #[.int .i64 0, .int .i64 0, .int .i64 0, .int .i64 0, .int .i64 0, .int .i64 0], .int .i64 0], []⟩ 8 (by kernel_rfl) (by kernel_rfl) (by kernel_rfl) (by kernel_rfl)) ?_
  intro W base args ds gs before hval0 hW hcnd _
  have hval : ∀ (j : Nat) t v, Try.f6.params[j]? = some t → args[j]? = some v → Value.okWide Try.prog W .any base t v := hval0
  have hW' := hW
  obtain ⟨p, q, hA0, hV, rfl, hfz, hnd⟩ := hW
  have hA : DataW.TrodAll enc Try.prog W 0 (fun _ => true) true Try.f6.params.toList args.toList ds p := hA0
  rw [Try.params6] at hA hval
  obtain ⟨v0, vs0, d0, ds0, p0, q0, hargs, rfl, rfl, h0, r0⟩ := trodAll_cons hA
  obtain ⟨v1, vs1, d1, ds1, p1, q1, rfl, rfl, rfl, h1, r1⟩ := trodAll_cons r0
  obtain ⟨rfl, rfl, rfl⟩ := trodAll_nil r1
  obtain rfl : args = #[v0, v1] := by cases args; simp_all
  obtain ⟨rfl, rfl⟩ := trodVars_none hV
  have k0 := h0
  have lt0 : ∀ x ∈ p0, x.block < W.heap.size := by obtain ⟨m, hm⟩ := k0; exact DataW.trod_lt m _ _ _ hm
  obtain ⟨cs0, fu0, rfl, sz0, hf0⟩ := open_struct_cells (n := 6) Try.underlying23 (by kernel_rfl) (hval 0 23 v0 rfl rfl) h0
  obtain ⟨y0f0, hy0f0⟩ := hf0 0 _ rfl
  obtain ⟨a0f0, g0f0, _, w0f0⟩ := DataW.trod_int Try.underlying3 hy0f0
  have e0f0 := cell_at (by kernel_rfl) g0f0
  obtain ⟨y0f1, hy0f1⟩ := hf0 1 _ rfl
  obtain ⟨a0f1, g0f1, _, w0f1⟩ := DataW.trod_int Try.underlying3 hy0f1
  have e0f1 := cell_at (by kernel_rfl) g0f1
  obtain ⟨y0f2, hy0f2⟩ := hf0 2 _ rfl
  obtain ⟨a0f2, g0f2, _, w0f2⟩ := DataW.trod_int Try.underlying3 hy0f2
  have e0f2 := cell_at (by kernel_rfl) g0f2
  obtain ⟨y0f3, hy0f3⟩ := hf0 3 _ rfl
  obtain ⟨a0f3, g0f3, _, w0f3⟩ := DataW.trod_int Try.underlying3 hy0f3
  have e0f3 := cell_at (by kernel_rfl) g0f3
  obtain ⟨y0f4, hy0f4⟩ := hf0 4 _ rfl
  obtain ⟨a0f4, g0f4, _, w0f4⟩ := DataW.trod_int Try.underlying3 hy0f4
  have e0f4 := cell_at (by kernel_rfl) g0f4
  obtain ⟨y0f5, hy0f5⟩ := hf0 5 _ rfl
  obtain ⟨a0f5, g0f5, _, w0f5⟩ := DataW.trod_int Try.underlying3 hy0f5
  have e0f5 := cell_at (by kernel_rfl) g0f5
  obtain rfl : cs0 = #[.int .i64 a0f0, .int .i64 a0f1, .int .i64 a0f2, .int .i64 a0f3, .int .i64 a0f4, .int .i64 a0f5] := cells_are [.int .i64 a0f0, .int .i64 a0f1, .int .i64 a0f2, .int .i64 a0f3, .int .i64 a0f4, .int .i64 a0f5] sz0 (fun j hj => by
    rcases j with _ | _ | _ | _ | _ | _ | j
    · exact e0f0
    · exact e0f1
    · exact e0f2
    · exact e0f3
    · exact e0f4
    · exact e0f5
    · exact absurd hj (by simp only [List.length_cons, List.length_nil]; omega))
  clear hy0f0 g0f0 e0f0 hy0f1 g0f1 e0f1 hy0f2 g0f2 e0f2 hy0f3 g0f3 e0f3 hy0f4 g0f4 e0f4 hy0f5 g0f5 e0f5 sz0 hf0
  obtain ⟨a1, rfl, rfl, rfl, w1⟩ := open_int Try.underlying3 (hval 1 3 v1 rfl rfl) h1
  clear hA0 hval0
  refine (timingGrows_walk a0f0 a0f1 a0f2 a0f3 a0f4 a0f5 a1 w0f0 w0f1 w0f2 w0f3 w0f4 w0f5 w1 W).mono fun e W' ⟨he, bel⟩ => ?_
  subst he
  exact ⟨_, rfl, _, _, _, [], _, [], hW', trodAll_mk1 (shut_bool Try.underlying4 _), (trodAll_cons_mk (Below.trod laidOut (by kernel_rfl) (of_decide_eq_true (by kernel_rfl)) k0 bel lt0) (trodAll_cons_mk (shut_int Try.underlying3 w1) trodAll_mk0)), rfl, bel.frame _, fun h => by cases h⟩

theorem timingGrows_over : Rows.timingGrowsRow.holds Try.pinned (OpenSpec.ofChange Rows.timingGrowsSpec) :=
  OpenClaim.holds_of_wide 6 Try.f6 rfl rfl rfl rfl rfl rfl rfl ⟨rfl, rfl, rfl, rfl, rfl⟩ rfl rfl rfl rfl rfl (by kernel_rfl) Try.func6 (by kernel_rfl)
    (of_decide_eq_true (by kernel_rfl)) (by unfold Func.isWrapper; first | (rw [if_pos (by decide +kernel)]; kernel_rfl) | (rw [if_neg (by decide +kernel)]; exact ⟨rfl, rfl⟩))
    (fun os started H enc _ => timingGrows_lifted os started H enc)

theorem timingGrows_holds : Rows.TimingGrowsSaid := timingGrows_over
#print axioms timingGrows_holds
end Go.Proofs.Ytakacojablpfoaa
