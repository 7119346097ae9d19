/- DmaFills, at the landed commit: whatever three integers come in, the call returns true: a block that is moved onto the place behind its beginning fills all behind it with its first word. No condition. -/
import Derived.Test.YtndphclogkmonaaLaw16
namespace Go.Proofs.Ytndphclogkmonaa
open Go.ChangeShapes Go.WideShapes Go.ChangeAt Go.RowKit
set_option linter.unusedVariables false

set_option maxHeartbeats 1000000 in
theorem fills (a0 a1 a2 A n x : Int) (w : World) (e0 : bits .and .i64 a0 65535 = x) (hx : a0 % 65536 = x) (e1 : bits .and .i64 a1 16383 = A) (e2 : bits .and .i64 a2 255 = n) (hA0 : 0 ≤ A) (hA1 : A < 16384) (hn0 : 0 ≤ n) (hn1 : n < 256) : Calls Try.prog 6 #[.int .i64 a0, .int .i64 a1, .int .i64 a2] w fun e w' => e = .returned (.bool true) ∧ Below w.heap.size w w' := by
  go_enter Try.func6, Try.ntmps6
  go_wp2_with fail
  refine (new_any _).mono ?_
  rintro e w1 ⟨rfl, h1, b1⟩
  have H1 := hide h1
  have B1 := hide b1
  clear h1 b1
  obtain ⟨g, hg⟩ : ∃ g, w.heap.size = g := ⟨_, rfl⟩
  have HG := hide (show w.heap.size ≤ g by omega)
  rw [hg] at H1 ⊢
  clear hg
  obtain ⟨f, hf⟩ : ∃ f, pokeAt (fun _ => 0) A a0 = f := ⟨_, rfl⟩
  have F0 := hide (show wordAt f A = a0 % 65536 by rw [← hf, wordAt_same, if_pos (by omega)])
  have F1 := hide (show wordAt f (A + n + 2) = 0 by rw [← hf, wordAt_other _ _ _ _ (by omega), wordAt_zero])
  have HF := hide hf
  clear hf
  go_wp2_with fail
  refine (poke_is g _ _ _ _ _ _ _ H1.out A a0 f HF.out).mono ?_
  rintro e w2 ⟨rfl, h2, o2⟩
  have H2 := hide h2
  have B2 := hide (bonly B1.out o2 HG.out (Nat.le_refl _))
  clear h2 o2 H1 B1 HF
  obtain ⟨N, hN⟩ : ∃ N : Nat, n + 1 = (N : Int) := ⟨(n + 1).toNat, by omega⟩
  obtain ⟨F, hF⟩ : ∃ F, mvTo f A 1 (A + 1) 1 N = F := ⟨_, rfl⟩
  have T0 := hide (show ∀ i : Nat, i ≤ N → wordAt F (A + i) = x by rw [← hF, ← hx]; exact fill_at f A a0 N hA0 (by omega) F0.out N (Nat.le_refl _))
  have T1 := hide (show wordAt F (A + n + 2) = 0 by
    rw [← hF, mv_other f A 1 (A + 1) 1 _ N (fun i hi => by rw [placeAt_on _ _ (by omega) (by omega)]; omega)]
    exact F1.out)
  have HF := hide hF
  have HN := hide hN
  clear hF F0 F1
  go_wp2_with fail
  refine (move_is g _ _ _ _ _ _ _ H2.out A (A + 1) n 0 A 1 (A + 1) 1 (A + n + 1) (A + n + 2) N F (by omega) (by omega) (farOf_0 _) (farOf_0 _) (by omega) (by rw [placeAt_on _ _ (by omega) (by omega)]; omega) (by rw [placeAt_on _ _ (by omega) (by omega)]; omega) HF.out).mono ?_
  rintro e w3 ⟨rfl, h3, o3⟩
  have H3 := hide h3
  have B3 := hide (bonly B2.out o3 HG.out (Nat.le_refl _))
  clear h3 o3 H2 B2 HF
  go_wp2_with fail
  refine under_name fun w4 hw4 => ?_
  have n4 : Below w3.heap.size w3 w4 := by rw [hw4]; exact (Below.refl _ w3).alloc (Nat.le_refl _) _
  have E4 := hide (show HasE w4 w3.heap.size (A + n + 1) (A + n + 2) by rw [hw4]; exact heap_alloc_new _ _)
  have H4 := hide (H3.out.next n4)
  have B4 := hide (bnext B3.out n4)
  clear hw4 n4 H3 B3
  obtain ⟨g2, hg2⟩ : ∃ g2, w3.heap.size = g2 := ⟨_, rfl⟩
  rw [hg2] at E4 ⊢
  clear hg2
  have HQ := eqE (A + n + 1) (A + n + 2)
  go_loop [9] (fun si => ∃ (k : Nat), k ≤ N + 1 ∧ si = .int .i64 (k : Int)) (fun si => N + 1 - (intOf si).toNat)
  case atStart => exact ⟨0, Nat.zero_le _, rfl⟩
  case round =>
    obtain ⟨k, hk, rfl⟩ := hrel
    by_cases hlt : k ≤ N
    · go_wp2_with fail
      refine (word_is g _ _ _ _ _ _ _ H4.out (A + k) x (T0.out k hlt)).mono ?_
      rintro e w5 ⟨rfl, hw⟩
      subst w5
      go_wp2_with fail
      go_round
      case rel => exact ⟨k + 1, by omega, by go_num⟩
      case measure => simp [intOf]; omega
    · obtain rfl : k = N + 1 := by omega
      go_wp2_with (first | (refine wpList_load_row rfl 29 (.tmp 8) rfl g2 rfl _ _ _ _ E4.out Try.underlying29 rfl (by kernel_rfl) ?_))
      refine (word_is g _ _ _ _ _ _ _ H4.out (A + n + 2) 0 T1.out).mono ?_
      rintro e w5 ⟨rfl, hw⟩
      subst w5
      go_wp2_with fail
      go_ret
      exact ⟨rfl, B4.out⟩
theorem dmaFills_walk (a0 a1 a2 : Int) (w0 : (Lit.int .i64 a0).wf = true) (w1 : (Lit.int .i64 a1).wf = true) (w2 : (Lit.int .i64 a2).wf = true) (w : World) : Calls Try.prog 6 #[.int .i64 a0, .int .i64 a1, .int .i64 a2] w fun e w' => e = .returned (.bool true) ∧ Below w.heap.size w w' :=
  fills a0 a1 a2 (a1 % 16384) (a2 % 256) (a0 % 65536) w (and_65535 a0) rfl (and_16383 a1) (and_255 a2) (by omega) (by omega) (by omega) (by omega)

set_option maxRecDepth 100000 in
theorem dmaFills_lifted (os : Os) (started : os.Started) (H : Type) (enc : TypeId × Value → H) :
    ReturnsInHanded {} Try.checked os 6 .any (Rows.dmaFillsSpec.pre6 enc Try.prog Try.f6 Rows.dmaFillsRow.domain false) (Rows.dmaFillsSpec.post enc Try.prog Try.f6 false true false false) := by
  refine returnsInHanded_of_change (C := Try.checked) own started (by kernel_rfl) Try.func6
    (ChangeSpec.witness6 (enc := enc) (C := Try.checked) false ⟨#[], #[.int .i64 0, .int .i64 0, .int .i64 0], []⟩ 8 (by kernel_rfl) (by kernel_rfl) (by kernel_rfl) (by kernel_rfl)) ?_
  intro W base args ds gs before hval0 hW hcnd _
  have hval : ∀ (j : Nat) t v, Try.f6.params[j]? = some t → args[j]? = some v → Value.okWide Try.prog W .any base t v := hval0
  have hW' := hW
  obtain ⟨p, q, hA0, hV, rfl, hfz, hnd⟩ := hW
  have hA : DataW.TrodAll enc Try.prog W 0 (fun _ => true) true Try.f6.params.toList args.toList ds p := hA0
  rw [Try.params6] at hA hval
  obtain ⟨v0, vs0, d0, ds0, p0, q0, hargs, rfl, rfl, h0, r0⟩ := trodAll_cons hA
  obtain ⟨v1, vs1, d1, ds1, p1, q1, rfl, rfl, rfl, h1, r1⟩ := trodAll_cons r0
  obtain ⟨v2, vs2, d2, ds2, p2, q2, rfl, rfl, rfl, h2, r2⟩ := trodAll_cons r1
  obtain ⟨rfl, rfl, rfl⟩ := trodAll_nil r2
  obtain rfl : args = #[v0, v1, v2] := by cases args; simp_all
  obtain ⟨rfl, rfl⟩ := trodVars_none hV
  obtain ⟨a0, rfl, rfl, rfl, w0⟩ := open_int Try.underlying3 (hval 0 3 v0 rfl rfl) h0
  obtain ⟨a1, rfl, rfl, rfl, w1⟩ := open_int Try.underlying3 (hval 1 3 v1 rfl rfl) h1
  obtain ⟨a2, rfl, rfl, rfl, w2⟩ := open_int Try.underlying3 (hval 2 3 v2 rfl rfl) h2
  clear hA0 hval0
  refine (dmaFills_walk a0 a1 a2 w0 w1 w2 W).mono fun e W' ⟨he, bel⟩ => ?_
  subst he
  exact ⟨_, rfl, _, _, _, [], _, [], hW', trodAll_mk1 (shut_bool Try.underlying4 _), (trodAll_cons_mk (shut_int Try.underlying3 w0) (trodAll_cons_mk (shut_int Try.underlying3 w1) (trodAll_cons_mk (shut_int Try.underlying3 w2) trodAll_mk0))), rfl, bel.frame _, fun h => by cases h⟩

theorem dmaFills_over : Rows.dmaFillsRow.holds Try.pinned (OpenSpec.ofChange Rows.dmaFillsSpec) :=
  OpenClaim.holds_of_wide 6 Try.f6 rfl rfl rfl rfl rfl rfl rfl ⟨rfl, rfl, rfl, rfl, rfl⟩ rfl rfl rfl rfl rfl (by kernel_rfl) Try.func6 (by kernel_rfl)
    (of_decide_eq_true (by kernel_rfl)) (by unfold Func.isWrapper; first | (rw [if_pos (by decide +kernel)]; kernel_rfl) | (rw [if_neg (by decide +kernel)]; exact ⟨rfl, rfl⟩))
    (fun os started H enc _ => dmaFills_lifted os started H enc)

theorem dmaFills_holds : Rows.DmaFillsSaid := dmaFills_over
#print axioms dmaFills_holds

end Go.Proofs.Ytndphclogkmonaa
