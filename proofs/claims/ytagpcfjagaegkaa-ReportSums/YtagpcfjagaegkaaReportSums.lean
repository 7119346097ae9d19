/- For all lines and samples the law ReportSums of layer 28 returns true: any frame (of fewer than 9000 numbers and pieces) has the document's sum. No condition; the slices' lengths are within the form's own reach, so that their sum does not pass Go's int. -/
import Derived.Test.YtagpcfjagaegkaaPicW28
import Derived.Test.YtagpcfjagaegkaaPicR28
import Derived.Test.YtagpcfjagaegkaaRowRows
import Derived.OpenShut
import Derived.ShutString
import Derived.ChangeOld
import Derived.Below
namespace Go.Proofs.Ytagpcfjagaegkaa
open Go.ChangeShapes Go.WideShapes Go.ChangeAt Go.RowKit
open Go.ChangeMaps (open_string shut_string)
set_option linter.unusedVariables false
theorem own : ownKnob Try.prog.godebug = none := by kernel_rfl
theorem pic_none (w : World) : Calls Try.prog 4 #[.agg #[.slice none 0 0, .slice none 0 0]] w fun e w' => e = .returned (.int .i64 1) ∧ Below w.heap.size w w' :=
  pic_any w none 0 0 (fun _ => (none, 0, 0)) (fun _ _ => 0) none 0 0 (fun _ _ => 0) ⟨by omega, .inl rfl⟩ ⟨by omega, .inl rfl⟩ (by decide)
theorem reportSums_walk (a0 : Option Addr) (len0 cap0 : Nat) (a1 : Option Addr) (len1 cap1 : Nat) (W : World) (w0 : IsLines W a0 len0 cap0) (w1 : IsArrs .i64 2 W a1 len1 cap1) (n1 : cap1 * 16 ≤ 140737488351232) :
    Calls Try.prog 3 #[.slice a0 len0 cap0, .slice a1 len1 cap1] W fun e w' => e = .returned (.bool true) ∧ Below W.heap.size W w' := by
  obtain ⟨L, V, h0⟩ := w0
  obtain ⟨S, h1⟩ := sides_of w1 n1
  have m0 := h0.1
  have m1 := h1.1
  have H0 := hide h0
  have H1 := hide h1
  clear h0 h1 w1 n1
  go_enter Try.func3, Try.ntmps3
  go_upto_region 3 with fail
  go_loopw [5, 6] (fun sn si wr => ∃ (i : Nat) (t : Int), i ≤ len0 ∧ si = .int .i64 (i : Int) ∧ sn = .int .i64 t ∧ Hid (t = ((len0 + len1 + tot L i : Nat) : Int) ∧ t < 1000000000000000) ∧ Below W.heap.size W wr) (fun _ si _ => len0 - (intOf si).toNat)
  case atStart => exact ⟨0, (len0 : Int) + len1, Nat.zero_le _, rfl, by go_num, hide (by show _ = ((len0 + len1 + 0 : Nat) : Int) ∧ _; omega), by first | exact Below.refl _ _ | exact (Below.refl _ _).drew⟩
  case round =>
    obtain ⟨i, t, hi, rfl, rfl, HT, b1⟩ := hrel
    have B1 := hide b1
    clear b1
    have t0 : 0 ≤ t ∧ t < 1000000000000000 := ⟨by have := HT.out.1; omega, HT.out.2⟩
    by_cases hn : t < 9000
    · by_cases hlt : i < len0
      · obtain ⟨hmm, h | ⟨bb, off, rfl, hbb, hc⟩⟩ := H0.out
        · omega
        · obtain ⟨ci, hLm, HN⟩ := hc i hlt
          have ci := (B1.out.cell (p := ⟨bb, off + i, none⟩) hbb).trans ci
          obtain ⟨la, hla⟩ : ∃ x, (L i).1 = x := ⟨_, rfl⟩
          obtain ⟨ln, hln⟩ : ∃ x, (L i).2.1 = x := ⟨_, rfl⟩
          obtain ⟨lc, hlc⟩ : ∃ x, (L i).2.2 = x := ⟨_, rfl⟩
          rw [hla, hln, hlc] at ci
          rw [hln] at hLm
          clear hc hmm hbb HN
          go_wp2_with fail
          go_roundw
          case rel => exact ⟨i + 1, t + ln, by omega, by go_num, by go_num, hide (by have := HT.out; rw [tot, hln]; omega), B1.out⟩
          case measure => simp [intOf]; omega
      · obtain rfl : i = len0 := by omega
        have hT := HT.out
        have K1 := hide (fun w h0 h1 => pic_any w a0 i cap0 L V a1 len1 cap1 S h0 h1 (by omega))
        have K2 := hide (fun w h0 h1 => rpic_any w a0 i cap0 L V a1 len1 cap1 S h0 h1 (by omega))
        have K3 := hide pic_none
        obtain ⟨R, hR⟩ : ∃ R, picOf L V i S len1 = R := ⟨_, rfl⟩
        rw [hR] at K1 K2
        clear hR hT
        go_wp2_with (first
          | (go_at_call 4; refine (K1.out _ (H0.out.next B1.out) (H1.out.next B1.out)).mono ?_; rintro e w3 ⟨rfl, b3⟩; have B3 := hide (B1.out.trans (b3.mono B1.out.size)); clear b3 B1 K1)
          | (go_at_call 5; refine (K2.out _ (H0.out.next B3.out) (H1.out.next B3.out)).mono ?_; rintro e w4 ⟨rfl, b4⟩; have B4 := hide (B3.out.trans (b4.mono B3.out.size)); clear b4 B3 K2)
          | (go_at_call 4; refine (K3.out _).mono ?_; rintro e w5 ⟨rfl, b5⟩; have B5 := hide (B4.out.trans (b5.mono B4.out.size)); clear b5 B4 K3))
        go_ret
        exact ⟨rfl, B5.out⟩
    · by_cases hlt : i < len0
      · go_wp2_with fail
        go_ret
        exact ⟨rfl, B1.out⟩
      · go_wp2_with fail
        go_ret
        exact ⟨rfl, B1.out⟩
set_option maxRecDepth 100000 in
theorem reportSums_lifted (os : Os) (started : os.Started) (H : Type) (enc : TypeId × Value → H) :
    ReturnsInHanded {} Try.checked os 3 .any (Rows.reportSumsSpec.pre6 enc Try.prog Try.f3 Rows.reportSumsRow.domain false) (Rows.reportSumsSpec.post enc Try.prog Try.f3 false true false false) := by
  refine returnsInHanded_of_change_sized (C := Try.checked) own started (by kernel_rfl) Try.func3
    (ChangeSpec.witness6 (enc := enc) (C := Try.checked) false ⟨#[], #[.slice none 0 0, .slice none 0 0], []⟩ 8 (by kernel_rfl) (by kernel_rfl) (by kernel_rfl) (by kernel_rfl)) ?_
  intro W base args ds gs before hval0 hW hcnd hsz _
  have hval : ∀ (j : Nat) t v, Try.f3.params[j]? = some t → args[j]? = some v → Value.okWide Try.prog W .any base t v := hval0
  have hW' := hW
  obtain ⟨p, q, hA0, hV, rfl, hfz, hnd⟩ := hW
  have hA : DataW.TrodAll enc Try.prog W 0 (fun _ => true) true Try.f3.params.toList args.toList ds p := hA0
  rw [Try.params3] at hA hval
  obtain ⟨v0, vs0, d0, ds0, p0, q0, hargs, rfl, rfl, h0, r0⟩ := trodAll_cons hA
  obtain ⟨v1, vs1, d1, ds1, p1, q1, rfl, rfl, rfl, h1, r1⟩ := trodAll_cons r0
  obtain ⟨rfl, rfl, rfl⟩ := trodAll_nil r1
  obtain rfl : args = #[v0, v1] := by cases args; simp_all
  obtain ⟨rfl, rfl⟩ := trodVars_none hV
  obtain ⟨a0, len0, cap0, rfl⟩ := okWide_slice Try.underlying22 (hval 0 22 v0 rfl rfl)
  have k0 := h0
  have lt0 : ∀ x ∈ p0, x.block < W.heap.size := by obtain ⟨m, hm⟩ := k0; exact DataW.trod_lt m _ _ _ hm
  have w0 : IsLines W a0 len0 cap0 := open_lines Try.underlying22 Try.underlying24 (by kernel_rfl) (by kernel_rfl) Try.underlying3 (by kernel_rfl) (by kernel_rfl) h0 (each_reach (j := 0) hsz rfl rfl)
  obtain ⟨a1, len1, cap1, rfl⟩ := okWide_slice Try.underlying23 (hval 1 23 v1 rfl rfl)
  have k1 := h1
  have lt1 : ∀ x ∈ p1, x.block < W.heap.size := by obtain ⟨m, hm⟩ := k1; exact DataW.trod_lt m _ _ _ hm
  have w1 : IsArrs .i64 2 W a1 len1 cap1 := open_arrays Try.underlying23 Try.underlying32 (by kernel_rfl) Try.underlying3 (by kernel_rfl) h1
  have n1 : cap1 * 16 ≤ 140737488351232 := by
    obtain ⟨fuel, hf⟩ := k1
    exact slice_reach (k := 16) Try.underlying23 (by kernel_rfl) (by simpa [Value.cells] using hf) (each_reach (j := 1) hsz rfl rfl)
  clear hA0 hval0
  refine (reportSums_walk a0 len0 cap0 a1 len1 cap1 W w0 w1 n1).mono fun e W' ⟨he, bel⟩ => ?_
  subst he
  exact ⟨_, rfl, _, _, _, [], _, [], hW', trodAll_mk1 (shut_bool Try.underlying4 _), (trodAll_cons_mk (Below.trod laidOut (by kernel_rfl) (of_decide_eq_true (by kernel_rfl)) k0 bel lt0) (trodAll_cons_mk (Below.trod laidOut (by kernel_rfl) (of_decide_eq_true (by kernel_rfl)) k1 bel lt1) trodAll_mk0)), rfl, bel.frame _, fun h => by cases h⟩

theorem reportSums_inPlace : (Rows.reportSumsRow.inPlace == Try.pinned.checked.prog.inPlace 3) = true := by kernel_rfl
theorem reportSums_unfollowed : (Rows.reportSumsRow.unfollowed == Try.pinned.checked.prog.unfollowed 3) = true := by kernel_rfl
theorem reportSums_recurses : (Rows.reportSumsRow.recurses == Try.pinned.checked.prog.recurses 3) = true := by kernel_rfl
theorem reportSums_named : (Rows.reportSumsRow.named == Try.pinned.checked.prog.varsNamed 3) = true := by kernel_rfl
theorem reportSums_laidOutB : laidOutB Try.pinned.checked.prog = true := by kernel_rfl
theorem reportSums_heard : Try.pinned.checked.prog.stopsHeard = true := by kernel_rfl
theorem reportSums_mayEnter : Try.pinned.checked.prog.mayEnter = true := by kernel_rfl
theorem reportSums_facts : joinedFacts Try.pinned.checked.prog 3 Try.f3 Rows.reportSumsSpec Rows.reportSumsRow = true := by
  unfold joinedFacts
  rw [reportSums_inPlace, reportSums_unfollowed, reportSums_recurses, reportSums_named, reportSums_laidOutB, reportSums_heard, reportSums_mayEnter]
  kernel_rfl
theorem reportSums_over : Rows.reportSumsRow.holds Try.pinned (OpenSpec.ofChange Rows.reportSumsSpec) :=
  OpenClaim.holds_of_wide 3 Try.f3 rfl rfl rfl rfl rfl rfl rfl ⟨rfl, rfl, rfl, rfl, rfl⟩ rfl rfl rfl rfl rfl (by kernel_rfl) Try.func3 reportSums_facts
    (of_decide_eq_true (by kernel_rfl)) (by unfold Func.isWrapper; first | (rw [if_pos (by decide +kernel)]; kernel_rfl) | (rw [if_neg (by decide +kernel)]; exact ⟨rfl, rfl⟩))
    (fun os started H enc _ => reportSums_lifted os started H enc)

theorem reportSums_holds : Rows.ReportSumsSaid := reportSums_over
#print axioms reportSums_holds
end Go.Proofs.Ytagpcfjagaegkaa
