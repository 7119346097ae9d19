/- For every file, number of a register and byte the law MprBack of layer 5 returns true: what was put into one register is told of it, and the others are as they were. No condition. -/
import Derived.Test.YtddifggepiljbaaPlainBack
import Derived.Test.YtddifggepiljbaaArrays
namespace Go.Proofs.Ytddifggepiljbaa
open Go.ChangeShapes Go.WideShapes Go.ChangeAt Go.RowKit
open Go.ChangeMaps (open_string shut_string)
set_option linter.unusedVariables false
theorem own : ownKnob Try.prog.godebug = none := by kernel_rfl

set_option maxHeartbeats 1000000 in
theorem mprBack_walk (z0 : List Int) (a1 a2 : Int) (l0 : z0.length = 8) (w0 : ∀ z ∈ z0, (Lit.int .i64 z).wf = true) (w1 : (Lit.int .i64 a1).wf = true) (w2 : (Lit.int .i64 a2).wf = true) (w : World) :
    Calls Try.prog 5 #[.agg (z0.map (Value.int .i64)).toArray, .int .i64 a1, .int .i64 a2] w fun e w' => e = .returned (.bool true) ∧ Below w.heap.size w w' := by
  obtain ⟨f, rfl⟩ := file_of z0 l0
  clear w0 w1 w2 l0
  obtain ⟨q, hq⟩ : ∃ q, q = a1 % 8 := ⟨_, rfl⟩
  have q0 : 0 ≤ q := by omega
  have q1 : q < 8 := by omega
  have hp := pow_16 q q0 (by omega)
  have e1 : bits .and .i64 a1 7 = q := (and_7 a1).trans hq.symm
  have e2 : bits .and .i64 a2 255 = a2 % 256 := and_255 a2
  clear hq
  have C1 := hide (tam_any f (2 ^ q.toNat) a2)
  have T := hide (tam_one f q a2 q0 q1)
  generalize tamOf f (2 ^ q.toNat) a2 = g at *
  have G0 : Hid (g q.toNat = a2 % 256) := by have := T.out q.toNat (by omega); rw [if_pos (by omega)] at this; exact this
  have G1 : Hid (∀ i : Nat, i < 8 → ¬ (i : Int) = q → g i = f i) := fun i hi h => by have := T.out i hi; rw [if_neg h] at this; exact this
  clear T
  simp only [List.map]
  go_enter Try.func5, Try.ntmps5
  go_wp2_with fail
  obtain ⟨wa, hwa⟩ : ∃ wa, wa = w.alloc (.cells #[.int .i64 (f 0), .int .i64 (f 1), .int .i64 (f 2), .int .i64 (f 3), .int .i64 (f 4), .int .i64 (f 5), .int .i64 (f 6), .int .i64 (f 7)] 22) := ⟨_, rfl⟩
  rw [← hwa]
  have H0 := hide (by rw [hwa]; exact has8_new w f _ : Has8 wa w.heap.size f)
  have B0 := hide (by rw [hwa]; exact (Below.refl _ w).alloc (Nat.le_refl _) _ : Below w.heap.size w wa)
  clear hwa
  refine (C1.out _).mono ?_
  rintro e wb ⟨rfl, b1⟩
  have H1 := hide (H0.out.next b1)
  have B1 := hide (bnext B0.out b1)
  clear b1 H0 B0
  go_wp2_with fail
  obtain ⟨wc, hwc⟩ : ∃ wc, wc = wb.alloc (.cells #[.int .i64 (g 0), .int .i64 (g 1), .int .i64 (g 2), .int .i64 (g 3), .int .i64 (g 4), .int .i64 (g 5), .int .i64 (g 6), .int .i64 (g 7)] 26) := ⟨_, rfl⟩
  try rw [← hwc]
  have H2 := hide (by rw [hwc]; exact H1.out.next ((Below.refl _ _).alloc (Nat.le_refl _) _) : Has8 wc w.heap.size f)
  have H3 := hide (by rw [hwc]; exact has8_new wb g _ : Has8 wc wb.heap.size g)
  have B2 := hide (by rw [hwc]; exact bnext B1.out ((Below.refl _ _).alloc (Nat.le_refl _) _) : Below w.heap.size w wc)
  clear hwc H1 B1
  generalize wb.heap.size = gb at *
  go_loopw [8] (fun si wr => ∃ i : Nat, i ≤ 8 ∧ si = .int .i64 (i : Int) ∧ Has8 wr w.heap.size f ∧ Has8 wr gb g ∧ Below w.heap.size w wr) (fun si _ => 8 - (intOf si).toNat)
  case atStart => exact ⟨0, by omega, rfl, H2.out, H3.out, B2.out⟩
  case round =>
    clear H2 H3 B2
    obtain ⟨i, hi, rfl, h2, h3, b3⟩ := hrel
    have H2 := hide h2
    have H3 := hide h3
    have B3 := hide b3
    obtain ⟨_, d0, d1, d2, d3, d4, d5, d6, d7⟩ := h2
    obtain ⟨_, c0, c1, c2, c3, c4, c5, c6, c7⟩ := h3
    clear b3
    rcases nine hi with rfl | rfl | rfl | rfl | rfl | rfl | rfl | rfl | rfl
    · by_cases hiq : (0 : Int) = q
      · have hqi := hiq.symm
        clear hiq
        go_wp2_with fail
        go_quiet (fail)
        go_wp2_with fail
        exact ⟨⟨0 + 1, by decide, rfl, H2.out.drew _, H3.out.drew _, below_drew B3.out _⟩, by simp [intOf]⟩
      · rw [G1.out 0 (by decide) hiq] at c0
        go_wp2_with fail
        go_quiet (fail)
        go_wp2_with fail
        exact ⟨⟨0 + 1, by decide, rfl, H2.out.drew _, H3.out.drew _, below_drew B3.out _⟩, by simp [intOf]⟩
    · by_cases hiq : (1 : Int) = q
      · have hqi := hiq.symm
        clear hiq
        go_wp2_with fail
        go_quiet (fail)
        go_wp2_with fail
        exact ⟨⟨1 + 1, by decide, rfl, H2.out.drew _, H3.out.drew _, below_drew B3.out _⟩, by simp [intOf]⟩
      · rw [G1.out 1 (by decide) hiq] at c1
        go_wp2_with fail
        go_quiet (fail)
        go_wp2_with fail
        exact ⟨⟨1 + 1, by decide, rfl, H2.out.drew _, H3.out.drew _, below_drew B3.out _⟩, by simp [intOf]⟩
    · by_cases hiq : (2 : Int) = q
      · have hqi := hiq.symm
        clear hiq
        go_wp2_with fail
        go_quiet (fail)
        go_wp2_with fail
        exact ⟨⟨2 + 1, by decide, rfl, H2.out.drew _, H3.out.drew _, below_drew B3.out _⟩, by simp [intOf]⟩
      · rw [G1.out 2 (by decide) hiq] at c2
        go_wp2_with fail
        go_quiet (fail)
        go_wp2_with fail
        exact ⟨⟨2 + 1, by decide, rfl, H2.out.drew _, H3.out.drew _, below_drew B3.out _⟩, by simp [intOf]⟩
    · by_cases hiq : (3 : Int) = q
      · have hqi := hiq.symm
        clear hiq
        go_wp2_with fail
        go_quiet (fail)
        go_wp2_with fail
        exact ⟨⟨3 + 1, by decide, rfl, H2.out.drew _, H3.out.drew _, below_drew B3.out _⟩, by simp [intOf]⟩
      · rw [G1.out 3 (by decide) hiq] at c3
        go_wp2_with fail
        go_quiet (fail)
        go_wp2_with fail
        exact ⟨⟨3 + 1, by decide, rfl, H2.out.drew _, H3.out.drew _, below_drew B3.out _⟩, by simp [intOf]⟩
    · by_cases hiq : (4 : Int) = q
      · have hqi := hiq.symm
        clear hiq
        go_wp2_with fail
        go_quiet (fail)
        go_wp2_with fail
        exact ⟨⟨4 + 1, by decide, rfl, H2.out.drew _, H3.out.drew _, below_drew B3.out _⟩, by simp [intOf]⟩
      · rw [G1.out 4 (by decide) hiq] at c4
        go_wp2_with fail
        go_quiet (fail)
        go_wp2_with fail
        exact ⟨⟨4 + 1, by decide, rfl, H2.out.drew _, H3.out.drew _, below_drew B3.out _⟩, by simp [intOf]⟩
    · by_cases hiq : (5 : Int) = q
      · have hqi := hiq.symm
        clear hiq
        go_wp2_with fail
        go_quiet (fail)
        go_wp2_with fail
        exact ⟨⟨5 + 1, by decide, rfl, H2.out.drew _, H3.out.drew _, below_drew B3.out _⟩, by simp [intOf]⟩
      · rw [G1.out 5 (by decide) hiq] at c5
        go_wp2_with fail
        go_quiet (fail)
        go_wp2_with fail
        exact ⟨⟨5 + 1, by decide, rfl, H2.out.drew _, H3.out.drew _, below_drew B3.out _⟩, by simp [intOf]⟩
    · by_cases hiq : (6 : Int) = q
      · have hqi := hiq.symm
        clear hiq
        go_wp2_with fail
        go_quiet (fail)
        go_wp2_with fail
        exact ⟨⟨6 + 1, by decide, rfl, H2.out.drew _, H3.out.drew _, below_drew B3.out _⟩, by simp [intOf]⟩
      · rw [G1.out 6 (by decide) hiq] at c6
        go_wp2_with fail
        go_quiet (fail)
        go_wp2_with fail
        exact ⟨⟨6 + 1, by decide, rfl, H2.out.drew _, H3.out.drew _, below_drew B3.out _⟩, by simp [intOf]⟩
    · by_cases hiq : (7 : Int) = q
      · have hqi := hiq.symm
        clear hiq
        go_wp2_with fail
        go_quiet (fail)
        go_wp2_with fail
        exact ⟨⟨7 + 1, by decide, rfl, H2.out.drew _, H3.out.drew _, below_drew B3.out _⟩, by simp [intOf]⟩
      · rw [G1.out 7 (by decide) hiq] at c7
        go_wp2_with fail
        go_quiet (fail)
        go_wp2_with fail
        exact ⟨⟨7 + 1, by decide, rfl, H2.out.drew _, H3.out.drew _, below_drew B3.out _⟩, by simp [intOf]⟩
    · have T1 := hide (tma_any g (2 ^ q.toNat) 0)
      rw [tma_one g q 0 q0 q1, G0.out, Int.emod_emod_of_dvd a2 (by decide : (256 : Int) ∣ 256)] at T1
      have T2 := hide (phys_any g (q * 8192))
      rw [phys_first g q q0 q1, G0.out, Int.emod_emod_of_dvd a2 (by decide : (256 : Int) ∣ 256)] at T2
      have T3 := hide (tma_any g 0 77)
      rw [tma_none g 77] at T3
      go_wp2_with fail
      refine (T1.out _).mono ?_
      rintro e w4 ⟨rfl, b4⟩
      have H4 := hide (H3.out.next b4)
      have B4 := hide (bnext B3.out b4)
      clear b4 c0 c1 c2 c3 c4 c5 c6 c7 d0 d1 d2 d3 d4 d5 d6 d7 H2 H3 B3 T1
      have cq : w4.cell? ⟨gb, q.toNat, none⟩ = some (.int .i64 (a2 % 256)) := by rw [H4.out.at q.toNat (by omega), G0.out]
      obtain ⟨_, c0, c1, c2, c3, c4, c5, c6, c7⟩ := H4.out
      go_wp2_with fail
      refine (T2.out _).mono ?_
      rintro e w5 ⟨rfl, b5⟩
      have H5 := H4.out.next b5
      have B5 := hide (bnext B4.out b5)
      clear b5 cq c0 c1 c2 c3 c4 c5 c6 c7 H4 B4 T2
      obtain ⟨_, c0, c1, c2, c3, c4, c5, c6, c7⟩ := H5
      go_wp2_with fail
      refine (T3.out _).mono ?_
      rintro e w6 ⟨rfl, b6⟩
      have B6 := hide (bnext B5.out b6)
      clear b6 c0 c1 c2 c3 c4 c5 c6 c7 B5
      go_wp2_with fail
      go_ret
      exact ⟨rfl, B6.out⟩

set_option maxRecDepth 100000 in
theorem mprBack_lifted (os : Os) (started : os.Started) (H : Type) (enc : TypeId × Value → H) :
    ReturnsInHanded {} Try.checked os 5 .any (Rows.mprBackSpec.pre6 enc Try.prog Try.f5 Rows.mprBackRow.domain false) (Rows.mprBackSpec.post enc Try.prog Try.f5 false true false false) := by
  refine returnsInHanded_of_change (C := Try.checked) own started (by kernel_rfl) Try.func5
    (ChangeSpec.witness6 (enc := enc) (C := Try.checked) false ⟨#[], #[.agg #[.int .i64 0, .int .i64 0, .int .i64 0, .int .i64 0, .int .i64 0, .int .i64 0, .int .i64 0, .int .i64 0], .int .i64 0, .int .i64 0], []⟩ 8 (by kernel_rfl) (by kernel_rfl) (by kernel_rfl) (by kernel_rfl)) ?_
  intro W base args ds gs before hval0 hW hcnd _
  have hval : ∀ (j : Nat) t v, Try.f5.params[j]? = some t → args[j]? = some v → Value.okWide Try.prog W .any base t v := hval0
  have hW' := hW
  obtain ⟨p, q, hA0, hV, rfl, hfz, hnd⟩ := hW
  have hA : DataW.TrodAll enc Try.prog W 0 (fun _ => true) true Try.f5.params.toList args.toList ds p := hA0
  rw [Try.params5] at hA hval
  obtain ⟨v0, vs0, d0, ds0, p0, q0, hargs, rfl, rfl, h0, r0⟩ := trodAll_cons hA
  obtain ⟨v1, vs1, d1, ds1, p1, q1, rfl, rfl, rfl, h1, r1⟩ := trodAll_cons r0
  obtain ⟨v2, vs2, d2, ds2, p2, q2, rfl, rfl, rfl, h2, r2⟩ := trodAll_cons r1
  obtain ⟨rfl, rfl, rfl⟩ := trodAll_nil r2
  obtain rfl : args = #[v0, v1, v2] := by cases args; simp_all
  obtain ⟨rfl, rfl⟩ := trodVars_none hV
  have k0 := h0
  have lt0 : ∀ x ∈ p0, x.block < W.heap.size := by obtain ⟨m, hm⟩ := k0; exact DataW.trod_lt m _ _ _ hm
  obtain ⟨z0, l0, rfl, w0⟩ := open_array_ints Try.underlying22 Try.underlying3 (by kernel_rfl) (by kernel_rfl) (hval 0 22 v0 rfl rfl) h0
  obtain ⟨a1, rfl, rfl, rfl, w1⟩ := open_int Try.underlying3 (hval 1 3 v1 rfl rfl) h1
  obtain ⟨a2, rfl, rfl, rfl, w2⟩ := open_int Try.underlying3 (hval 2 3 v2 rfl rfl) h2
  clear hA0 hval0
  refine (mprBack_walk z0 a1 a2 l0 w0 w1 w2 W).mono fun e W' ⟨he, bel⟩ => ?_
  subst he
  exact ⟨_, rfl, _, _, _, [], _, [], hW', trodAll_mk1 (shut_bool Try.underlying4 _), (trodAll_cons_mk (Below.trod laidOut (by kernel_rfl) (of_decide_eq_true (by kernel_rfl)) k0 bel lt0) (trodAll_cons_mk (shut_int Try.underlying3 w1) (trodAll_cons_mk (shut_int Try.underlying3 w2) trodAll_mk0))), rfl, bel.frame _, fun h => by cases h⟩

theorem mprBack_over : Rows.mprBackRow.holds Try.pinned (OpenSpec.ofChange Rows.mprBackSpec) :=
  OpenClaim.holds_of_wide 5 Try.f5 rfl rfl rfl rfl rfl rfl rfl ⟨rfl, rfl, rfl, rfl, rfl⟩ rfl rfl rfl rfl rfl (by kernel_rfl) Try.func5 (by kernel_rfl)
    (of_decide_eq_true (by kernel_rfl)) (by unfold Func.isWrapper; first | (rw [if_pos (by decide +kernel)]; kernel_rfl) | (rw [if_neg (by decide +kernel)]; exact ⟨rfl, rfl⟩))
    (fun os started H enc _ => mprBack_lifted os started H enc)

theorem mprBack_holds : Rows.MprBackSaid := mprBack_over
#print axioms mprBack_holds
end Go.Proofs.Ytddifggepiljbaa
