/- VramSteps, at the landed commit: whatever three integers come in, the call returns true: behind a word that is written, or read, the place is the step further, modulo 65536; a low byte alone moves nothing. No condition. -/
import Derived.Test.YtbeiphnlckflpaaLaw13
namespace Go.Proofs.Ytbeiphnlckflpaa
open Go.ChangeShapes Go.WideShapes Go.ChangeAt Go.RowKit
set_option linter.unusedVariables false
theorem vramSteps_walk (a0 a1 a2 : Int) (w0 : (Lit.int .i64 a0).wf = true) (w1 : (Lit.int .i64 a1).wf = true) (w2 : (Lit.int .i64 a2).wf = true) (w : World) : Calls Try.prog 7 #[.int .i64 a0, .int .i64 a1, .int .i64 a2] w fun e w' => e = .returned (.bool true) ∧ Below w.heap.size w w' := by
  clear w0 w1 w2
  have e0 := and_65535 a0
  have e1 := and_65535 a1
  have e2 := and_31 a2
  obtain ⟨A, hA⟩ : ∃ A, a0 % 65536 = A := ⟨_, rfl⟩
  obtain ⟨S, hS⟩ : ∃ S, a1 % 65536 = S := ⟨_, rfl⟩
  obtain ⟨N, hN⟩ : ∃ N, a2 % 32 = N := ⟨_, rfl⟩
  have hA0 : 0 ≤ A := by omega
  have hA1 : A < 65536 := by omega
  have hS0 : 0 ≤ S := by omega
  have hS1 : S < 65536 := by omega
  have hN0 : 0 ≤ N := by omega
  have hN1 : N < 32 := by omega
  obtain ⟨y, hy⟩ : ∃ y, wordAt (fun _ => 0) A = y := ⟨_, rfl⟩
  rw [hA] at e0
  rw [hS] at e1
  rw [hN] at e2
  have HA := hide hA
  have HS := hide hS
  have HY := hide hy
  clear hA hS hN hy
  go_enter Try.func7, Try.ntmps7
  go_wp2_with fail
  refine (new_any _).mono ?_
  rintro e w1 ⟨rfl, h1, b1⟩
  have H1 := hide h1
  have B1 := hide b1
  clear h1 b1
  obtain ⟨g, hg⟩ : ∃ g, w.heap.size = g := ⟨_, rfl⟩
  rw [hg] at H1 ⊢
  go_wp2_with fail
  refine (setWrite_is g _ _ _ _ _ _ _ H1.out a0 A HA.out).mono ?_
  rintro e w2 ⟨rfl, h2, o2⟩
  have H2 := hide h2
  have B2 := hide (bonly B1.out o2 (Nat.le_of_eq hg) (Nat.le_refl _))
  clear h2 o2 H1 B1
  go_wp2_with fail
  refine (setRead_is g _ _ _ _ _ _ _ H2.out a0 A y HA.out HY.out).mono ?_
  rintro e w3 ⟨rfl, h3, o3⟩
  have H3 := hide h3
  have B3 := hide (bonly B2.out o3 (Nat.le_of_eq hg) (Nat.le_refl _))
  clear h3 o3 H2 B2
  go_wp2_with fail
  refine (setStep_is g _ _ _ _ _ _ _ H3.out a1 S HS.out).mono ?_
  rintro e w4 ⟨rfl, h4, o4⟩
  have H4 := hide h4
  have B4 := hide (bonly B3.out o4 (Nat.le_of_eq hg) (Nat.le_refl _))
  clear h4 o4 H3 B3 HA HS HY
  go_wp2_with fail
  go_loopw [8] (fun si wr => ∃ (k : Nat) (lo : Int), (k : Int) ≤ N ∧ si = .int .i64 (k : Int) ∧ HasM wr g true (fun _ => 0) A A S lo y ∧ Below w.heap.size w wr) (fun si _ => 32 - (intOf si).toNat)
  case atStart => exact ⟨0, 0, by simpa using hN0, rfl, H4.out, B4.out⟩
  case round =>
    obtain ⟨k, lo, hk, rfl, hv, hb⟩ := hrel
    have VK := hide hv
    have BK := hide hb
    clear hv hb H4 B4
    by_cases hlt : (k : Int) < N
    · go_wp2_with fail
      refine (putLow_is g _ _ _ _ _ _ _ VK.out _ _ rfl).mono ?_
      rintro e w5 ⟨rfl, h5, o5⟩
      have H5 := hide h5
      have B5 := hide (bonly BK.out o5 (Nat.le_of_eq hg) (Nat.le_refl _))
      clear h5 o5 VK BK
      go_wp2_with fail
      refine (getLow_is g _ _ _ _ _ _ _ H5.out).mono ?_
      rintro e w6 ⟨rfl, hw⟩
      subst w6
      go_wp2_with fail
      go_roundw
      case rel => exact ⟨k + 1, _, by omega, by go_num, H5.out, B5.out⟩
      case measure => simp [intOf]; omega
    · go_wp2_with fail
      refine (ports_is g _ _ _ _ _ _ _ VK.out).mono ?_
      rintro e w5 ⟨rfl, b5⟩
      have V5 := hide (show HasM w5 g true (fun _ => 0) (placeAt A S 0) (placeAt A S 0) S lo y by rw [placeAt_zero A S hA0 hA1]; exact VK.out.next b5)
      have B5 := hide (bnext BK.out b5)
      clear b5 VK BK
      go_wp2_with fail
      go_loopw [14] (fun si wr => ∃ (j : Nat) (f : Nat → Int) (bu : Int), (j : Int) ≤ N ∧ si = .int .i64 (j : Int) ∧ HasM wr g true f (placeAt A S j) (placeAt A S j) S lo bu ∧ Below w.heap.size w wr) (fun si _ => 32 - (intOf si).toNat)
      case atStart => exact ⟨0, _, _, by simpa using hN0, rfl, V5.out, B5.out⟩
      case round =>
        obtain ⟨j, f, bu, hj, rfl, hv, hb⟩ := hrel
        have VJ := hide hv
        have BJ := hide hb
        clear hv hb V5 B5
        have p0 := placeAt_ge A S j
        have p1 := placeAt_lt A S j
        have hn := placeAt_next A S j
        by_cases hjt : (j : Int) < N
        · have HN := hide hn
          clear hn
          have P0 := hide p0
          have P1 := hide p1
          clear p0 p1
          go_wp2_with fail
          refine (putHigh_is g _ _ _ _ _ _ _ VJ.out _ _ _ _ rfl rfl P0.out P1.out hS0 hS1 HN.out).mono ?_
          rintro e w6 ⟨rfl, h6, o6⟩
          have H6 := hide h6
          have B6 := hide (bonly BJ.out o6 (Nat.le_of_eq hg) (Nat.le_refl _))
          clear h6 o6 VJ BJ
          go_wp2_with fail
          refine (getHigh_is g _ _ _ _ _ _ _ H6.out _ _ P0.out P1.out hS0 hS1 HN.out rfl).mono ?_
          rintro e w7 ⟨rfl, h7, o7⟩
          have B7 := hide (bonly B6.out o7 (Nat.le_of_eq hg) (Nat.le_refl _))
          have H7 := hide h7
          clear h7 o7 H6 B6
          go_wp2_with fail
          go_roundw
          case rel => exact ⟨j + 1, _, _, by omega, by go_num, H7.out, B7.out⟩
          case measure => simp [intOf]; omega
        · have hjN : (j : Int) = N := by omega
          clear hn
          obtain ⟨q, hq⟩ : ∃ q, placeAt A S j = q := ⟨_, rfl⟩
          have hp0 : 0 ≤ N * S := Int.mul_nonneg hN0 hS0
          have hp1 : N * S ≤ 32 * 65536 := Int.mul_le_mul (by omega) (by omega) hS0 (by omega)
          have em := and_65535 (A + N * S)
          have hm : (A + N * S) % 65536 = q := by rw [← hq, ← hjN]; rfl
          rw [hm] at em
          rw [hq] at VJ p0 p1
          clear hq hm
          obtain ⟨M, hM⟩ : ∃ M, N * S = M := ⟨_, rfl⟩
          rw [hM] at hp0 hp1 em
          go_wp2_with fail
          refine (ports_is g _ _ _ _ _ _ _ VJ.out).mono ?_
          rintro e w6 ⟨rfl, b6⟩
          have B6 := hide (bnext BJ.out b6)
          clear b6 VJ BJ
          go_wp2_with fail
          go_ret
          exact ⟨rfl, B6.out⟩

set_option maxRecDepth 100000 in
theorem vramSteps_lifted (os : Os) (started : os.Started) (H : Type) (enc : TypeId × Value → H) :
    ReturnsInHanded {} Try.checked os 7 .any (Rows.vramStepsSpec.pre6 enc Try.prog Try.f7 Rows.vramStepsRow.domain false) (Rows.vramStepsSpec.post enc Try.prog Try.f7 false true false false) := by
  refine returnsInHanded_of_change (C := Try.checked) own started (by kernel_rfl) Try.func7
    (ChangeSpec.witness6 (enc := enc) (C := Try.checked) false ⟨#[], #[.int .i64 0, .int .i64 0, .int .i64 0], []⟩ 8 (by kernel_rfl) (by kernel_rfl) (by kernel_rfl) (by kernel_rfl)) ?_
  intro W base args ds gs before hval0 hW hcnd _
  have hval : ∀ (j : Nat) t v, Try.f7.params[j]? = some t → args[j]? = some v → Value.okWide Try.prog W .any base t v := hval0
  have hW' := hW
  obtain ⟨p, q, hA0, hV, rfl, hfz, hnd⟩ := hW
  have hA : DataW.TrodAll enc Try.prog W 0 (fun _ => true) true Try.f7.params.toList args.toList ds p := hA0
  rw [Try.params7] at hA hval
  obtain ⟨v0, vs0, d0, ds0, p0, q0, hargs, rfl, rfl, h0, r0⟩ := trodAll_cons hA
  obtain ⟨v1, vs1, d1, ds1, p1, q1, rfl, rfl, rfl, h1, r1⟩ := trodAll_cons r0
  obtain ⟨v2, vs2, d2, ds2, p2, q2, rfl, rfl, rfl, h2, r2⟩ := trodAll_cons r1
  obtain ⟨rfl, rfl, rfl⟩ := trodAll_nil r2
  obtain rfl : args = #[v0, v1, v2] := by cases args; simp_all
  obtain ⟨rfl, rfl⟩ := trodVars_none hV
  obtain ⟨a0, rfl, rfl, rfl, w0⟩ := open_int Try.underlying3 (hval 0 3 v0 rfl rfl) h0
  obtain ⟨a1, rfl, rfl, rfl, w1⟩ := open_int Try.underlying3 (hval 1 3 v1 rfl rfl) h1
  obtain ⟨a2, rfl, rfl, rfl, w2⟩ := open_int Try.underlying3 (hval 2 3 v2 rfl rfl) h2
  clear hA0 hval0
  refine (vramSteps_walk a0 a1 a2 w0 w1 w2 W).mono fun e W' ⟨he, bel⟩ => ?_
  subst he
  exact ⟨_, rfl, _, _, _, [], _, [], hW', trodAll_mk1 (shut_bool Try.underlying4 _), (trodAll_cons_mk (shut_int Try.underlying3 w0) (trodAll_cons_mk (shut_int Try.underlying3 w1) (trodAll_cons_mk (shut_int Try.underlying3 w2) trodAll_mk0))), rfl, bel.frame _, fun h => by cases h⟩

theorem vramSteps_over : Rows.vramStepsRow.holds Try.pinned (OpenSpec.ofChange Rows.vramStepsSpec) :=
  OpenClaim.holds_of_wide 7 Try.f7 rfl rfl rfl rfl rfl rfl rfl ⟨rfl, rfl, rfl, rfl, rfl⟩ rfl rfl rfl rfl rfl (by kernel_rfl) Try.func7 (by kernel_rfl)
    (of_decide_eq_true (by kernel_rfl)) (by unfold Func.isWrapper; first | (rw [if_pos (by decide +kernel)]; kernel_rfl) | (rw [if_neg (by decide +kernel)]; exact ⟨rfl, rfl⟩))
    (fun os started H enc _ => vramSteps_lifted os started H enc)

theorem vramSteps_holds : Rows.VramStepsSaid := vramSteps_over
#print axioms vramSteps_holds

end Go.Proofs.Ytbeiphnlckflpaa
