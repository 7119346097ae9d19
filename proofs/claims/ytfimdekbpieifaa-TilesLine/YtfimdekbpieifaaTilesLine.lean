/- TilesLine, at the landed commit: whatever slice of words, view and array of two integers come in, the call returns true: any line of any background has the document's pixels, as many as it says. No condition. -/
import Derived.Test.YtfimdekbpieifaaLine17
import Derived.Test.YtfimdekbpieifaaMade17
import Derived.Test.YtfimdekbpieifaaRef17
import Derived.Test.YtfimdekbpieifaaWant17
import Derived.Test.YtfimdekbpieifaaTurn17
import Derived.Test.YtfimdekbpieifaaArrays
import Derived.Deep.RegionWith
namespace Go.Proofs.Ytfimdekbpieifaa
open Go.ChangeShapes Go.WideShapes Go.ChangeAt Go.RowKit
set_option linter.unusedVariables false

set_option maxHeartbeats 1000000 in
theorem line_out (a : Option Addr) (len cap : Nat) (W H X Y y n : Int) (pa pw : Nat → Int) (w : World) (HR : Hid (IsPokes w a len pa pw)) (hn : Hid (n < 1 ∨ 512 < n)) (b1 b2 : Bool) (h1 : decide (n < 1) = b1) (h2 : decide (512 < n) = b2) : Calls Try.prog 4 #[.slice a len cap, .agg #[.int .i64 W, .int .i64 H, .int .i64 X, .int .i64 Y], .agg #[.int .i64 y, .int .i64 n]] w fun e w' => e = .returned (.bool true) ∧ Below w.heap.size w w' := by
  go_enter Try.func4, Try.ntmps4
  go_wp2_with fail
  refine under_calls fun wa hwa => ?_
  obtain ⟨b0, b1, _, BB⟩ := two_named hwa
  clear hwa
  have V0 := hide (show HasV wa w.heap.size W H X Y from b0)
  have A0 := hide (show Has2 wa (w.heap.size + 1) y n from b1)
  have B0 := hide BB
  clear b0 b1 BB
  obtain ⟨z, hz⟩ : ∃ z, w.heap.size = z := ⟨_, rfl⟩
  rw [hz] at V0 A0 ⊢
  clear hz
  refine (made_is a len cap pa pw wa (HR.out.next B0.out)).mono ?_
  rintro e w2 ⟨g, c, d, rfl, k2⟩
  have WF := hide (words_made pa pw (min len 80))
  generalize madeTo pa pw (min len 80) = f at *
  have H2 := hide k2.2.1
  have D2 := hide k2.2.2.1
  have V2 := hide (V0.out.next k2.below)
  have A2 := hide (A0.out.next k2.below)
  have B2 := hide (bnext B0.out k2.below)
  clear k2 V0 A0 B0 HR
  have c0 := A2.out.c0
  have c1 := A2.out.c1
  go_wp2_with (first | (refine wpList_load_row rfl 24 (.tmp 4) rfl z rfl _ _ _ _ V2.out Try.underlying24 rfl (by kernel_rfl) ?_))
  clear c0 c1
  refine (line_no g f 0 0 1 0 0 w2 H2.out W H X Y y n hn.out).mono ?_
  rintro e w3 ⟨rfl, b3⟩
  have D3 := hide (D2.out.next b3)
  have V3 := hide (V2.out.next b3)
  have A3 := hide (A2.out.next b3)
  have B3 := hide (bnext B2.out b3)
  clear b3 D2 V2 A2 B2 H2
  go_wp2_with fail
  refine under_calls fun w4 hw4 => ?_
  have n4 : Below w3.heap.size w3 w4 := by rw [hw4]; exact (Below.refl _ w3).alloc (Nat.le_refl _) _
  have P4 := hide (pokes_two (show w4.heap[w3.heap.size]? = some (.cells #[.int .i64 0, .int .i64 12289, .int .i64 16, .int .i64 32896] 31 (0, 0)) by rw [hw4]; exact heap_alloc_new _ _))
  refine (made_is _ 2 2 twoA twoW w4 P4.out).mono ?_
  rintro e w5 ⟨g2, c2, d2, rfl, k5⟩
  have M5 := hide (show HasM w5 g2 true (madeTo twoA twoW 2) 0 0 1 0 0 from k5.2.1)
  have n5 := hide (bnext n4 k5.below)
  clear hw4 n4 k5 P4
  go_wp2_with fail
  have KL : Calls Try.prog 12 #[.pointer (some ⟨g2, 0, none⟩), .agg #[.int .i64 32, .int .i64 32, .int .i64 0, .int .i64 0], .int .i64 0, .int .i64 1] w5 _ := line_is g2 _ 0 0 1 0 0 w5 M5.out (fun j => pixelG (wordAt (madeTo twoA twoW 2)) 32 32 0 0 j 0) (words_made twoA twoW 2) 32 32 0 0 0 1 (by omega) (by omega) (fun j => rfl)
  refine KL.mono ?_
  rintro e w6 ⟨g1, hg1, rfl, r6, b6⟩
  have n6 := hide (bnext n5.out b6)
  have f0 : w6.cell? ⟨g1, 0, none⟩ = some (.int .i64 51) := (r6.at 0 (by omega)).trans (by rw [show ((0 : Nat) : Int) = 0 from rfl, two_51])
  clear KL r6 b6 hg1 M5 n5
  have V6 := hide (V3.out.next n6.out)
  have A6 := hide (A3.out.next n6.out)
  have B6 := hide (bnext B3.out n6.out)
  have D6 := hide (D3.out.next n6.out)
  have c1 := A6.out.c1
  have hb : b1 = true ∨ b1 = false ∧ b2 = true := by
    have := hn.out
    cases b1
    · right
      refine ⟨rfl, ?_⟩
      rw [← h2, decide_eq_true_eq]
      rw [decide_eq_false_iff_not] at h1
      omega
    · exact .inl rfl
  rcases hb with rfl | ⟨rfl, rfl⟩
  · go_wp2_with fail
    go_ret
    exact ⟨rfl, B6.out⟩
  · go_wp2_with fail
    go_ret
    exact ⟨rfl, B6.out⟩
set_option maxHeartbeats 1000000 in
theorem line_in (a : Option Addr) (len cap : Nat) (W H X Y y : Int) (N : Nat) (hN0 : 1 ≤ N) (hN1 : N ≤ 512) (pa pw : Nat → Int) (w : World) (HR : Hid (IsPokes w a len pa pw)) : Calls Try.prog 4 #[.slice a len cap, .agg #[.int .i64 W, .int .i64 H, .int .i64 X, .int .i64 Y], .agg #[.int .i64 y, .int .i64 (N : Int)]] w fun e w' => e = .returned (.bool true) ∧ Below w.heap.size w w' := by
  go_enter Try.func4, Try.ntmps4
  go_wp2_with fail
  refine under_calls fun wa hwa => ?_
  obtain ⟨b0, b1, _, BB⟩ := two_named hwa
  clear hwa
  have V0 := hide (show HasV wa w.heap.size W H X Y from b0)
  have A0 := hide (show Has2 wa (w.heap.size + 1) y (N : Int) from b1)
  have B0 := hide BB
  clear b0 b1 BB
  obtain ⟨z, hz⟩ : ∃ z, w.heap.size = z := ⟨_, rfl⟩
  rw [hz] at V0 A0 ⊢
  clear hz
  refine (made_is a len cap pa pw wa (HR.out.next B0.out)).mono ?_
  rintro e w2 ⟨g, c, d, rfl, k2⟩
  have WF := hide (words_made pa pw (min len 80))
  generalize madeTo pa pw (min len 80) = f at *
  have H2 := hide k2.2.1
  have D2 := hide k2.2.2.1
  have V2 := hide (V0.out.next k2.below)
  have A2 := hide (A0.out.next k2.below)
  have B2 := hide (bnext B0.out k2.below)
  clear k2 V0 A0 B0 HR
  have c0 := A2.out.c0
  have c1 := A2.out.c1
  go_wp2_with (first | (refine wpList_load_row rfl 24 (.tmp 4) rfl z rfl _ _ _ _ V2.out Try.underlying24 rfl (by kernel_rfl) ?_))
  clear c0 c1
  refine (line_is g f 0 0 1 0 0 w2 H2.out (fun j => pixelG (wordAt f) W H X Y j y) WF.out W H X Y y N hN0 hN1 (fun j => rfl)).mono ?_
  rintro e w3 ⟨gl, hgl, rfl, r3, b3⟩
  have D3 := hide (D2.out.next b3)
  have V3 := hide (V2.out.next b3)
  have A3 := hide (A2.out.next b3)
  have B3 := hide (bnext B2.out b3)
  have R3 := hide r3
  clear b3 r3 hgl D2 V2 A2 B2 H2
  go_wp2_with fail
  refine under_calls fun w4 hw4 => ?_
  have n4 : Below w3.heap.size w3 w4 := by rw [hw4]; exact (Below.refl _ w3).alloc (Nat.le_refl _) _
  have P4 := hide (pokes_two (show w4.heap[w3.heap.size]? = some (.cells #[.int .i64 0, .int .i64 12289, .int .i64 16, .int .i64 32896] 31 (0, 0)) by rw [hw4]; exact heap_alloc_new _ _))
  refine (made_is _ 2 2 twoA twoW w4 P4.out).mono ?_
  rintro e w5 ⟨g2, c2, d2, rfl, k5⟩
  have M5 := hide (show HasM w5 g2 true (madeTo twoA twoW 2) 0 0 1 0 0 from k5.2.1)
  have n5 := hide (bnext n4 k5.below)
  clear hw4 n4 k5 P4
  go_wp2_with fail
  have KL : Calls Try.prog 12 #[.pointer (some ⟨g2, 0, none⟩), .agg #[.int .i64 32, .int .i64 32, .int .i64 0, .int .i64 0], .int .i64 0, .int .i64 1] w5 _ := line_is g2 _ 0 0 1 0 0 w5 M5.out (fun j => pixelG (wordAt (madeTo twoA twoW 2)) 32 32 0 0 j 0) (words_made twoA twoW 2) 32 32 0 0 0 1 (by omega) (by omega) (fun j => rfl)
  refine KL.mono ?_
  rintro e w6 ⟨g1, hg1, rfl, r6, b6⟩
  have n6 := hide (bnext n5.out b6)
  have f0 : w6.cell? ⟨g1, 0, none⟩ = some (.int .i64 51) := (r6.at 0 (by omega)).trans (by rw [show ((0 : Nat) : Int) = 0 from rfl, two_51])
  clear KL r6 b6 hg1 M5 n5
  have V6 := hide (V3.out.next n6.out)
  have A6 := hide (A3.out.next n6.out)
  have B6 := hide (bnext B3.out n6.out)
  have D6 := hide (D3.out.next n6.out)
  have R6 := hide (R3.out.next n6.out)
  clear R3 V3 A3 B3 D3 n6
  have c1 := A6.out.c1
  have hd1 : decide ((N : Int) < 1) = false := decide_eq_false (by omega)
  have hd2 : decide ((512 : Int) < N) = false := decide_eq_false (by omega)
  go_wp2_with fail
  clear hd1 hd2 f0 c1
  go_loopw [13] (fun si wr => ∃ (i : Nat), i ≤ N ∧ si = .int .i64 (i : Int) ∧ HasR wr c d f 0 0 1 0 0 ∧ HasV wr z W H X Y ∧ Has2 wr (z + 1) y (N : Int) ∧ HasRow wr gl (lineOf (fun j => pixelG (wordAt f) W H X Y j y) N) ∧ Below w.heap.size w wr) (fun si _ => N - (intOf si).toNat)
  case atStart => exact ⟨0, Nat.zero_le _, rfl, D6.out, V6.out, A6.out, R6.out, B6.out⟩
  case round =>
    obtain ⟨i, hi, rfl, h1, h2, h3, h4, h5⟩ := hrel
    have DI := hide h1
    have VI := hide h2
    have AI := hide h3
    have RI := hide h4
    have BI := hide h5
    clear h1 h2 h3 h4 h5 D6 V6 A6 R6 B6
    by_cases hlt : i < N
    · have hca := RI.out.at i hlt
      obtain ⟨v, hv⟩ : ∃ v, pixelG (wordAt f) W H X Y (i : Int) y = v := ⟨_, rfl⟩
      rw [hv] at hca
      have HV := hide hv
      clear hv
      set_option maxRecDepth 20000 in
      go_wp2_with fail
      have k0 := kept_cell hca (lt_of_block RI.out)
      have k1 := kept_cell AI.out.c0 AI.out.lt
      clear hca
      haveI := kept_some wr
      refine wp_region_kept (by kernel_rfl) (by kernel_rfl) ?_
      repeat (first
        | (refine wpQuiet_row rfl 24 (.tmp 4) rfl z rfl 24 _ (0, 0) _ (fun w' ⟨x, hx⟩ => by rw [hx]; exact VI.out.next x.below) Try.underlying24 rfl (by kernel_rfl) ?_; simp only [Act.put, List.setIfInBounds_toArray, List.set_cons_succ, List.set_cons_zero])
        | (go_big_quiet_step ((first
          | (go_at_call 10; exact kept_call (rpixel_is c d f _ _ _ _ _ _ (DI.out.next (Kept.below _)) WF.out W H X Y (i : Int) y v HV.out))))))
      refine wpQuiet_nil ?_
      rintro _ ⟨wk, rfl⟩
      clear k0 k1
      have D7 := hide (DI.out.next wk.below)
      have V7 := hide (VI.out.next wk.below)
      have A7 := hide (AI.out.next wk.below)
      have R7 := hide (RI.out.next wk.below)
      have B7 := hide (bnext BI.out wk.below)
      clear DI VI AI RI BI
      set_option maxRecDepth 20000 in
      go_wp2_with fail
      set_option maxRecDepth 20000 in
      go_roundw
      case rel => exact ⟨i + 1, by omega, by go_num, D7.out, V7.out, A7.out, R7.out, B7.out⟩
      case measure => simp [intOf]; omega
    · obtain rfl : i = N := by omega
      set_option maxRecDepth 20000 in
      go_wp2_with fail
      go_ret
      exact ⟨rfl, BI.out⟩
theorem tilesLine_walk (a0 : Option Addr) (len0 cap0 : Nat) (a1f0 a1f1 a1f2 a1f3 : Int) (z2 : List Int) (w : World) (w0 : IsStructs [some .i64, some .i64] w a0 len0 cap0) (w1f0 : (Lit.int .i64 a1f0).wf = true) (w1f1 : (Lit.int .i64 a1f1).wf = true) (w1f2 : (Lit.int .i64 a1f2).wf = true) (w1f3 : (Lit.int .i64 a1f3).wf = true) (l2 : z2.length = 2) (w2 : ∀ z ∈ z2, (Lit.int .i64 z).wf = true) :
    Calls Try.prog 4 #[.slice a0 len0 cap0, .agg #[.int .i64 a1f0, .int .i64 a1f1, .int .i64 a1f2, .int .i64 a1f3], .agg (z2.map (Value.int .i64)).toArray] w fun e w' => e = .returned (.bool true) ∧ Below w.heap.size w w' := by
  obtain ⟨x0, n, rfl⟩ := two_list z2 l2
  obtain ⟨pa, pw, hp⟩ := pokes_in w0
  by_cases hn : n < 1 ∨ 512 < n
  · exact line_out a0 len0 cap0 a1f0 a1f1 a1f2 a1f3 x0 n pa pw w (hide hp) (hide hn) _ _ rfl rfl
  · obtain ⟨N, rfl⟩ : ∃ N : Nat, n = (N : Int) := ⟨n.toNat, by omega⟩
    exact line_in a0 len0 cap0 a1f0 a1f1 a1f2 a1f3 x0 N (by omega) (by omega) pa pw w (hide hp)

set_option maxRecDepth 100000 in
theorem tilesLine_lifted (os : Os) (started : os.Started) (H : Type) (enc : TypeId × Value → H) :
    ReturnsInHanded {} Try.checked os 4 .any (Rows.tilesLineSpec.pre6 enc Try.prog Try.f4 Rows.tilesLineRow.domain false) (Rows.tilesLineSpec.post enc Try.prog Try.f4 false true false false) := by
  refine returnsInHanded_of_change (C := Try.checked) own started (by kernel_rfl) Try.func4
    (ChangeSpec.witness6 (enc := enc) (C := Try.checked) false ⟨#[], #[.slice none 0 0, .agg #[.int .i64 0, .int .i64 0, .int .i64 0, .int .i64 0], .agg #[.int .i64 0, .int .i64 0]], []⟩ 8 (by kernel_rfl) (by kernel_rfl) (by kernel_rfl) (by kernel_rfl)) ?_
  intro W base args ds gs before hval0 hW hcnd _
  have hval : ∀ (j : Nat) t v, Try.f4.params[j]? = some t → args[j]? = some v → Value.okWide Try.prog W .any base t v := hval0
  have hW' := hW
  obtain ⟨p, q, hA0, hV, rfl, hfz, hnd⟩ := hW
  have hA : DataW.TrodAll enc Try.prog W 0 (fun _ => true) true Try.f4.params.toList args.toList ds p := hA0
  rw [Try.params4] at hA hval
  obtain ⟨v0, vs0, d0, ds0, p0, q0, hargs, rfl, rfl, h0, r0⟩ := trodAll_cons hA
  obtain ⟨v1, vs1, d1, ds1, p1, q1, rfl, rfl, rfl, h1, r1⟩ := trodAll_cons r0
  obtain ⟨v2, vs2, d2, ds2, p2, q2, rfl, rfl, rfl, h2, r2⟩ := trodAll_cons r1
  obtain ⟨rfl, rfl, rfl⟩ := trodAll_nil r2
  obtain rfl : args = #[v0, v1, v2] := by cases args; simp_all
  obtain ⟨rfl, rfl⟩ := trodVars_none hV
  obtain ⟨a0, len0, cap0, rfl⟩ := okWide_slice Try.underlying22 (hval 0 22 v0 rfl rfl)
  have k0 := h0
  have lt0 : ∀ x ∈ p0, x.block < W.heap.size := by obtain ⟨m, hm⟩ := k0; exact DataW.trod_lt m _ _ _ hm
  have w0 : IsStructs [some .i64, some .i64] W a0 len0 cap0 := open_structs Try.underlying22 Try.underlying31 (by kernel_rfl) (fun j k hk => by
    rcases j with _ | _ | j
    · cases hk; exact ⟨_, rfl, rfl, by kernel_rfl, Try.underlying3⟩
    · cases hk; exact ⟨_, rfl, rfl, by kernel_rfl, Try.underlying3⟩
    · simp at hk) h0
  have k1 := h1
  have lt1 : ∀ x ∈ p1, x.block < W.heap.size := by obtain ⟨m, hm⟩ := k1; exact DataW.trod_lt m _ _ _ hm
  obtain ⟨cs1, fu1, rfl, sz1, hf1⟩ := open_struct_cells (n := 4) Try.underlying24 (by kernel_rfl) (hval 1 24 v1 rfl rfl) h1
  obtain ⟨y1f0, hy1f0⟩ := hf1 0 _ rfl
  obtain ⟨a1f0, g1f0, _, w1f0⟩ := DataW.trod_int Try.underlying3 hy1f0
  have e1f0 := cell_at (by kernel_rfl) g1f0
  obtain ⟨y1f1, hy1f1⟩ := hf1 1 _ rfl
  obtain ⟨a1f1, g1f1, _, w1f1⟩ := DataW.trod_int Try.underlying3 hy1f1
  have e1f1 := cell_at (by kernel_rfl) g1f1
  obtain ⟨y1f2, hy1f2⟩ := hf1 2 _ rfl
  obtain ⟨a1f2, g1f2, _, w1f2⟩ := DataW.trod_int Try.underlying3 hy1f2
  have e1f2 := cell_at (by kernel_rfl) g1f2
  obtain ⟨y1f3, hy1f3⟩ := hf1 3 _ rfl
  obtain ⟨a1f3, g1f3, _, w1f3⟩ := DataW.trod_int Try.underlying3 hy1f3
  have e1f3 := cell_at (by kernel_rfl) g1f3
  obtain rfl : cs1 = #[.int .i64 a1f0, .int .i64 a1f1, .int .i64 a1f2, .int .i64 a1f3] := cells_are [.int .i64 a1f0, .int .i64 a1f1, .int .i64 a1f2, .int .i64 a1f3] sz1 (fun j hj => by
    rcases j with _ | _ | _ | _ | j
    · exact e1f0
    · exact e1f1
    · exact e1f2
    · exact e1f3
    · exact absurd hj (by simp only [List.length_cons, List.length_nil]; omega))
  clear hy1f0 g1f0 e1f0 hy1f1 g1f1 e1f1 hy1f2 g1f2 e1f2 hy1f3 g1f3 e1f3 sz1 hf1
  have k2 := h2
  have lt2 : ∀ x ∈ p2, x.block < W.heap.size := by obtain ⟨m, hm⟩ := k2; exact DataW.trod_lt m _ _ _ hm
  obtain ⟨z2, l2, rfl, w2⟩ := open_array_ints Try.underlying25 Try.underlying3 (by kernel_rfl) (by kernel_rfl) (hval 2 25 v2 rfl rfl) h2
  clear hA0 hval0
  refine (tilesLine_walk a0 len0 cap0 a1f0 a1f1 a1f2 a1f3 z2 W w0 w1f0 w1f1 w1f2 w1f3 l2 w2).mono fun e W' ⟨he, bel⟩ => ?_
  subst he
  exact ⟨_, rfl, _, _, _, [], _, [], hW', trodAll_mk1 (shut_bool Try.underlying4 _), (trodAll_cons_mk (Below.trod laidOut (by kernel_rfl) (of_decide_eq_true (by kernel_rfl)) k0 bel lt0) (trodAll_cons_mk (Below.trod laidOut (by kernel_rfl) (of_decide_eq_true (by kernel_rfl)) k1 bel lt1) (trodAll_cons_mk (Below.trod laidOut (by kernel_rfl) (of_decide_eq_true (by kernel_rfl)) k2 bel lt2) trodAll_mk0))), rfl, bel.frame _, fun h => by cases h⟩

theorem tilesLine_over : Rows.tilesLineRow.holds Try.pinned (OpenSpec.ofChange Rows.tilesLineSpec) :=
  OpenClaim.holds_of_wide 4 Try.f4 rfl rfl rfl rfl rfl rfl rfl ⟨rfl, rfl, rfl, rfl, rfl⟩ rfl rfl rfl rfl rfl (by kernel_rfl) Try.func4 (by kernel_rfl)
    (of_decide_eq_true (by kernel_rfl)) (by unfold Func.isWrapper; first | (rw [if_pos (by decide +kernel)]; kernel_rfl) | (rw [if_neg (by decide +kernel)]; exact ⟨rfl, rfl⟩))
    (fun os started H enc _ => tilesLine_lifted os started H enc)

theorem tilesLine_holds : Rows.TilesLineSaid := tilesLine_over
#print axioms tilesLine_holds

end Go.Proofs.Ytfimdekbpieifaa
