/- VramNobody, at the landed commit: whatever integer comes in, the call returns true: video memory that no call made has no words. No condition. -/
import Derived.Test.YtbeiphnlckflpaaNone13
namespace Go.Proofs.Ytbeiphnlckflpaa
open Go.ChangeShapes Go.WideShapes Go.ChangeAt Go.RowKit
set_option linter.unusedVariables false
theorem vramNobody_walk (a0 : Int) (w0 : (Lit.int .i64 a0).wf = true) (w : World) : Calls Try.prog 5 #[.int .i64 a0] w fun e w' => e = .returned (.bool true) ∧ Below w.heap.size w w' := by
  clear w0
  obtain ⟨F, hF⟩ : ∃ F, pokeAt (fun _ => 0) 5 7 = F := ⟨_, rfl⟩
  have h7 : wordAt F 5 = 7 := by rw [← hF]; simp [wordAt, pokeAt, upd]
  have HF := hide hF
  have H7 := hide h7
  clear hF h7
  go_enter Try.func5, Try.ntmps5
  go_wp2_with (first | (refine wpList_built rfl 48 _ rfl #[] (by simp) _ run_plain ?_))
  obtain ⟨wa, hwa⟩ : ∃ wa, wa = ((w.alloc (.cells (rowM false (fun _ => 0) 0 0 0 0 0) 48)).alloc (.cells #[.pointer none, .pointer (some ⟨w.heap.size, 0, none⟩)] 23)) := ⟨_, rfl⟩
  rw [← hwa]
  have hp : wa.heap[w.heap.size + 1]? = some (.cells #[.pointer none, .pointer (some ⟨w.heap.size, 0, none⟩)] 23 (0, 0)) := by rw [hwa]; exact heap_alloc2_new _ _ _
  have cA : wa.cell? ⟨w.heap.size + 1, 0, none⟩ = some (.pointer none) := (cell_of_row wa _ 0 _ _ _ hp).trans rfl
  have cB : wa.cell? ⟨w.heap.size + 1, 1, none⟩ = some (.pointer (some ⟨w.heap.size, 0, none⟩)) := (cell_of_row wa _ 1 _ _ _ hp).trans rfl
  have hm : HasM wa w.heap.size false (fun _ => 0) 0 0 0 0 0 := by rw [hwa]; exact (hasM_new w _ _ _ _ _ _ _).next ((Below.refl _ _).alloc (Nat.le_refl _) _)
  have C0 := hide hm.c0
  have BA := hide (show Below w.heap.size w wa by rw [hwa]; exact ((Below.refl _ w).alloc (Nat.le_refl _) _).alloc (by simp) _)
  clear hwa hp hm
  go_loopw [15] (fun si wr => ∃ k : Int, (k = 0 ∨ k = 1 ∨ k = 2) ∧ si = .int .i64 k ∧ wr = wa) (fun si _ => 2 - (intOf si).toNat)
  case atStart => exact ⟨0, .inl rfl, rfl, rfl⟩
  case round =>
    obtain ⟨k, hk, rfl, rfl⟩ := hrel
    rcases hk with rfl | rfl | rfl
    · have HM := hide (missing_nil wr)
      go_wp2_with fail
      refine (setWrite_no _ _ HM.out _).mono ?_
      rintro e w1 ⟨rfl, hw⟩
      subst w1
      go_wp2_with fail
      refine (setRead_no _ _ HM.out _).mono ?_
      rintro e w1 ⟨rfl, hw⟩
      subst w1
      go_wp2_with fail
      refine (setStep_no _ _ HM.out _).mono ?_
      rintro e w1 ⟨rfl, hw⟩
      subst w1
      go_wp2_with fail
      refine (put_no _ _ HM.out _ _).mono ?_
      rintro e w1 ⟨rfl, hw⟩
      subst w1
      go_wp2_with fail
      refine (poke_no _ _ HM.out _ _).mono ?_
      rintro e w1 ⟨rfl, hw⟩
      subst w1
      go_wp2_with fail
      refine (ports_no _ _ HM.out).mono ?_
      rintro e w1 ⟨rfl, hw⟩
      subst w1
      go_wp2_with fail
      refine (get_no _ _ HM.out _).mono ?_
      rintro e w1 ⟨rfl, hw⟩
      subst w1
      go_wp2_with fail
      refine (word_no _ _ HM.out _).mono ?_
      rintro e w1 ⟨rfl, hw⟩
      subst w1
      go_wp2_with fail
      refine (words_no _ _ HM.out _ _).mono ?_
      rintro e w1 ⟨rfl, hw⟩
      subst w1
      go_wp2_with fail
      go_roundw
      case rel => exact ⟨1, .inr (.inl rfl), rfl, trivial⟩
      case measure => simp [intOf]
    · have HM := hide (missing_is _ false wr C0.out)
      go_wp2_with fail
      refine (setWrite_no _ _ HM.out _).mono ?_
      rintro e w1 ⟨rfl, hw⟩
      subst w1
      go_wp2_with fail
      refine (setRead_no _ _ HM.out _).mono ?_
      rintro e w1 ⟨rfl, hw⟩
      subst w1
      go_wp2_with fail
      refine (setStep_no _ _ HM.out _).mono ?_
      rintro e w1 ⟨rfl, hw⟩
      subst w1
      go_wp2_with fail
      refine (put_no _ _ HM.out _ _).mono ?_
      rintro e w1 ⟨rfl, hw⟩
      subst w1
      go_wp2_with fail
      refine (poke_no _ _ HM.out _ _).mono ?_
      rintro e w1 ⟨rfl, hw⟩
      subst w1
      go_wp2_with fail
      refine (ports_no _ _ HM.out).mono ?_
      rintro e w1 ⟨rfl, hw⟩
      subst w1
      go_wp2_with fail
      refine (get_no _ _ HM.out _).mono ?_
      rintro e w1 ⟨rfl, hw⟩
      subst w1
      go_wp2_with fail
      refine (word_no _ _ HM.out _).mono ?_
      rintro e w1 ⟨rfl, hw⟩
      subst w1
      go_wp2_with fail
      refine (words_no _ _ HM.out _ _).mono ?_
      rintro e w1 ⟨rfl, hw⟩
      subst w1
      go_wp2_with fail
      go_roundw
      case rel => exact ⟨2, .inr (.inr rfl), rfl, trivial⟩
      case measure => simp [intOf]
    · go_wp2_with fail
      refine (new_any _).mono ?_
      rintro e w1 ⟨rfl, h1, b1⟩
      have H1 := hide h1
      have B1 := hide (bnext BA.out b1)
      have hg : w.heap.size ≤ wr.heap.size := BA.out.size
      clear h1 b1 BA cA cB C0
      generalize wr.heap.size = g at *
      go_wp2_with fail
      refine (poke_is g _ _ _ _ _ _ _ H1.out 5 7 F HF.out).mono ?_
      rintro e w2 ⟨rfl, h2, o2⟩
      have H2 := hide h2
      have B2 := hide (bonly B1.out o2 hg (Nat.le_refl _))
      clear h2 o2 H1 B1
      go_wp2_with fail
      refine (word_is g _ _ _ _ _ _ _ H2.out 5 7 H7.out).mono ?_
      rintro e w3 ⟨rfl, hw⟩
      subst w3
      go_wp2_with fail
      go_ret
      exact ⟨rfl, B2.out⟩

set_option maxRecDepth 100000 in
theorem vramNobody_lifted (os : Os) (started : os.Started) (H : Type) (enc : TypeId × Value → H) :
    ReturnsInHanded {} Try.checked os 5 .any (Rows.vramNobodySpec.pre6 enc Try.prog Try.f5 Rows.vramNobodyRow.domain false) (Rows.vramNobodySpec.post enc Try.prog Try.f5 false true false false) := by
  refine returnsInHanded_of_change (C := Try.checked) own started (by kernel_rfl) Try.func5
    (ChangeSpec.witness6 (enc := enc) (C := Try.checked) false ⟨#[], #[.int .i64 0], []⟩ 8 (by kernel_rfl) (by kernel_rfl) (by kernel_rfl) (by kernel_rfl)) ?_
  intro W base args ds gs before hval0 hW hcnd _
  have hval : ∀ (j : Nat) t v, Try.f5.params[j]? = some t → args[j]? = some v → Value.okWide Try.prog W .any base t v := hval0
  have hW' := hW
  obtain ⟨p, q, hA0, hV, rfl, hfz, hnd⟩ := hW
  have hA : DataW.TrodAll enc Try.prog W 0 (fun _ => true) true Try.f5.params.toList args.toList ds p := hA0
  rw [Try.params5] at hA hval
  obtain ⟨v0, vs0, d0, ds0, p0, q0, hargs, rfl, rfl, h0, r0⟩ := trodAll_cons hA
  obtain ⟨rfl, rfl, rfl⟩ := trodAll_nil r0
  obtain rfl : args = #[v0] := by cases args; simp_all
  obtain ⟨rfl, rfl⟩ := trodVars_none hV
  obtain ⟨a0, rfl, rfl, rfl, w0⟩ := open_int Try.underlying3 (hval 0 3 v0 rfl rfl) h0
  clear hA0 hval0
  refine (vramNobody_walk a0 w0 W).mono fun e W' ⟨he, bel⟩ => ?_
  subst he
  exact ⟨_, rfl, _, _, _, [], _, [], hW', trodAll_mk1 (shut_bool Try.underlying4 _), (trodAll_cons_mk (shut_int Try.underlying3 w0) trodAll_mk0), rfl, bel.frame _, fun h => by cases h⟩

theorem vramNobody_over : Rows.vramNobodyRow.holds Try.pinned (OpenSpec.ofChange Rows.vramNobodySpec) :=
  OpenClaim.holds_of_wide 5 Try.f5 rfl rfl rfl rfl rfl rfl rfl ⟨rfl, rfl, rfl, rfl, rfl⟩ rfl rfl rfl rfl rfl (by kernel_rfl) Try.func5 (by kernel_rfl)
    (of_decide_eq_true (by kernel_rfl)) (by unfold Func.isWrapper; first | (rw [if_pos (by decide +kernel)]; kernel_rfl) | (rw [if_neg (by decide +kernel)]; exact ⟨rfl, rfl⟩))
    (fun os started H enc _ => vramNobody_lifted os started H enc)

theorem vramNobody_holds : Rows.VramNobodySaid := vramNobody_over
#print axioms vramNobody_holds

end Go.Proofs.Ytbeiphnlckflpaa
