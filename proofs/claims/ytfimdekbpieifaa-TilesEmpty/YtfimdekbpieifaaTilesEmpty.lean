/- TilesEmpty, at the landed commit: whatever slice of words, view and integer come in, the call returns true: a line has the pixels that are asked one by one, and a cell whose tile has no bits is not seen. No condition. -/
import Derived.Test.YtfimdekbpieifaaPixel17
import Derived.Test.YtfimdekbpieifaaLine17
import Derived.Test.YtfimdekbpieifaaMade17
import Derived.Test.YtfimdekbpieifaaWant17
import Derived.Test.YtfimdekbpieifaaTurn17
import Derived.Test.YtfimdekbpieifaaArrays
import Derived.Deep.RegionWith
namespace Go.Proofs.Ytfimdekbpieifaa
open Go.ChangeShapes Go.WideShapes Go.ChangeAt Go.RowKit
set_option linter.unusedVariables false

theorem empty_0 : ∀ j : Nat, j < 8 → pixelG (wordAt (madeTo (fun _ => 0) (fun _ => 63487) 1)) 32 32 0 0 (j : Int) 0 = 0 := by decide +kernel
set_option maxHeartbeats 1000000 in
theorem empty_core (a : Option Addr) (len cap : Nat) (W H X Y y : Int) (pa pw : Nat → Int) (w : World) (HR : Hid (IsPokes w a len pa pw)) : Calls Try.prog 7 #[.slice a len cap, .agg #[.int .i64 W, .int .i64 H, .int .i64 X, .int .i64 Y], .int .i64 y] w fun e w' => e = .returned (.bool true) ∧ Below w.heap.size w w' := by
  go_enter Try.func7, Try.ntmps7
  go_wp2_with fail
  refine under_calls fun wa hwa => ?_
  have V0 := hide (show HasV wa w.heap.size W H X Y by rw [hwa]; exact heap_alloc_new _ _)
  have B0 := hide (show Below w.heap.size w wa by rw [hwa]; exact (Below.refl _ w).alloc (Nat.le_refl _) _)
  clear hwa
  obtain ⟨z, hz⟩ : ∃ z, w.heap.size = z := ⟨_, rfl⟩
  rw [hz] at V0 ⊢
  clear hz
  refine (made_is a len cap pa pw wa (HR.out.next B0.out)).mono ?_
  rintro e w2 ⟨g, c, d, rfl, k2⟩
  have WF := hide (words_made pa pw (min len 80))
  generalize madeTo pa pw (min len 80) = f at *
  have H2 := hide k2.2.1
  have V2 := hide (V0.out.next k2.below)
  have B2 := hide (bnext B0.out k2.below)
  clear k2 V0 B0 HR
  go_wp2_with (first | (refine wpList_load_row rfl 24 (.tmp 4) rfl z rfl _ _ _ _ V2.out Try.underlying24 rfl (by kernel_rfl) ?_))
  have KL : Calls Try.prog 12 #[.pointer (some ⟨g, 0, none⟩), .agg #[.int .i64 W, .int .i64 H, .int .i64 X, .int .i64 Y], .int .i64 y, .int .i64 33] w2 _ := line_is g f 0 0 1 0 0 w2 H2.out (fun j => pixelG (wordAt f) W H X Y j y) WF.out W H X Y y 33 (by omega) (by omega) (fun j => rfl)
  refine KL.mono ?_
  rintro e w3 ⟨gl, hgl, rfl, r3, b3⟩
  have H3 := hide (H2.out.next b3)
  have V3 := hide (V2.out.next b3)
  have R3 := hide r3
  have B3 := hide (bnext B2.out b3)
  clear b3 r3 hgl H2 V2 B2 KL
  go_wp2_with fail
  go_loopw [10] (fun si wr => ∃ (i : Nat), i ≤ 33 ∧ si = .int .i64 (i : Int) ∧ HasM wr g true f 0 0 1 0 0 ∧ HasV wr z W H X Y ∧ HasRow wr gl (lineOf (fun j => pixelG (wordAt f) W H X Y j y) 33) ∧ Below w.heap.size w wr) (fun si _ => 33 - (intOf si).toNat)
  case atStart => exact ⟨0, Nat.zero_le _, rfl, H3.out, V3.out, R3.out, B3.out⟩
  case round =>
    obtain ⟨i, hi, rfl, h1, h2, h4, h5⟩ := hrel
    have HI := hide h1
    have VI := hide h2
    have RI := hide h4
    have BI := hide h5
    clear h1 h2 h4 h5 H3 V3 R3 B3
    by_cases hlt : i < 33
    · have hca := RI.out.at i hlt
      obtain ⟨v, hv⟩ : ∃ v, pixelG (wordAt f) W H X Y (i : Int) y = v := ⟨_, rfl⟩
      rw [hv] at hca
      have HV := hide hv
      clear hv
      set_option maxRecDepth 20000 in
      go_wp2_with fail
      have k0 := kept_cell hca (lt_of_block RI.out)
      clear hca
      haveI := kept_some wr
      refine wp_region_kept (by kernel_rfl) (by kernel_rfl) ?_
      repeat (first
        | (refine wpQuiet_row rfl 24 (.tmp 4) rfl z rfl 24 _ (0, 0) _ (fun w' ⟨x, hx⟩ => by rw [hx]; exact VI.out.next x.below) Try.underlying24 rfl (by kernel_rfl) ?_; simp only [Act.put, List.setIfInBounds_toArray, List.set_cons_succ, List.set_cons_zero])
        | (go_big_quiet_step ((first
          | (go_at_call 9; exact kept_call (pixel_is _ _ WF.out W H X Y (i : Int) y v HV.out _ (tells_made (HI.out.next (Kept.below _)))))))))
      refine wpQuiet_nil ?_
      rintro _ ⟨wk, rfl⟩
      clear k0
      have H7 := hide (HI.out.next wk.below)
      have V7 := hide (VI.out.next wk.below)
      have R7 := hide (RI.out.next wk.below)
      have B7 := hide (bnext BI.out wk.below)
      clear HI VI RI BI
      set_option maxRecDepth 20000 in
      go_wp2_with fail
      set_option maxRecDepth 20000 in
      go_roundw
      case rel => exact ⟨i + 1, by omega, by go_num, H7.out, V7.out, R7.out, B7.out⟩
      case measure => simp [intOf]; omega
    · obtain rfl : i = 33 := by omega
      clear HI VI RI hlt hi
      set_option maxRecDepth 20000 in
      go_wp2_with fail
      refine under_calls fun w4 hw4 => ?_
      have n4 : Below wr.heap.size wr w4 := by rw [hw4]; exact (Below.refl _ wr).alloc (Nat.le_refl _) _
      have P4 := hide (pokes_one (show w4.heap[wr.heap.size]? = some (.cells #[.int .i64 0, .int .i64 63487] 31 (0, 0)) by rw [hw4]; exact heap_alloc_new _ _))
      refine (made_is _ 1 1 (fun _ => 0) (fun _ => 63487) w4 P4.out).mono ?_
      rintro e w5 ⟨g2, c2, d2, rfl, k5⟩
      have M5 := hide (show HasM w5 g2 true (madeTo (fun _ => 0) (fun _ => 63487) 1) 0 0 1 0 0 from k5.2.1)
      have B5 := hide (bnext BI.out (bnext n4 k5.below))
      clear hw4 n4 k5 P4 BI
      set_option maxRecDepth 20000 in
      go_wp2_with fail
      have KL : Calls Try.prog 12 #[.pointer (some ⟨g2, 0, none⟩), .agg #[.int .i64 32, .int .i64 32, .int .i64 0, .int .i64 0], .int .i64 0, .int .i64 8] w5 _ := line_is g2 _ 0 0 1 0 0 w5 M5.out (fun j => pixelG (wordAt (madeTo (fun _ => 0) (fun _ => 63487) 1)) 32 32 0 0 j 0) (words_made _ _ 1) 32 32 0 0 0 8 (by omega) (by omega) (fun j => rfl)
      refine KL.mono ?_
      rintro e w6 ⟨g1, hg1, rfl, r6, b6⟩
      have B6 := hide (bnext B5.out b6)
      have R6 := hide r6
      clear KL r6 b6 hg1 M5 B5
      set_option maxRecDepth 20000 in
      go_wp2_with fail
      go_loop [14] (fun si => ∃ (j : Nat), j ≤ 8 ∧ si = .int .i64 (j : Int)) (fun si => 8 - (intOf si).toNat)
      case atStart => exact ⟨0, Nat.zero_le _, rfl⟩
      case round =>
        obtain ⟨j, hj, rfl⟩ := hrel
        by_cases hjt : j < 8
        · have hca := R6.out.at j hjt
          simp only [empty_0 j hjt] at hca
          set_option maxRecDepth 20000 in
          go_wp2_with fail
          set_option maxRecDepth 20000 in
          go_round
          case rel => exact ⟨j + 1, by omega, by go_num⟩
          case measure => simp [intOf]; omega
        · obtain rfl : j = 8 := by omega
          set_option maxRecDepth 20000 in
          go_wp2_with fail
          go_ret
          exact ⟨rfl, B6.out⟩
theorem tilesEmpty_walk (a0 : Option Addr) (len0 cap0 : Nat) (a1f0 a1f1 a1f2 a1f3 a2 : Int) (w : World) (w0 : IsStructs [some .i64, some .i64] w a0 len0 cap0) (w1f0 : (Lit.int .i64 a1f0).wf = true) (w1f1 : (Lit.int .i64 a1f1).wf = true) (w1f2 : (Lit.int .i64 a1f2).wf = true) (w1f3 : (Lit.int .i64 a1f3).wf = true) (w2 : (Lit.int .i64 a2).wf = true) :
    Calls Try.prog 7 #[.slice a0 len0 cap0, .agg #[.int .i64 a1f0, .int .i64 a1f1, .int .i64 a1f2, .int .i64 a1f3], .int .i64 a2] w fun e w' => e = .returned (.bool true) ∧ Below w.heap.size w w' := by
  obtain ⟨pa, pw, hp⟩ := pokes_in w0
  exact empty_core a0 len0 cap0 a1f0 a1f1 a1f2 a1f3 a2 pa pw w (hide hp)

set_option maxRecDepth 100000 in
theorem tilesEmpty_lifted (os : Os) (started : os.Started) (H : Type) (enc : TypeId × Value → H) :
    ReturnsInHanded {} Try.checked os 7 .any (Rows.tilesEmptySpec.pre6 enc Try.prog Try.f7 Rows.tilesEmptyRow.domain false) (Rows.tilesEmptySpec.post enc Try.prog Try.f7 false true false false) := by
  refine returnsInHanded_of_change (C := Try.checked) own started (by kernel_rfl) Try.func7
    (ChangeSpec.witness6 (enc := enc) (C := Try.checked) false ⟨#[], #[.slice none 0 0, .agg #[.int .i64 0, .int .i64 0, .int .i64 0, .int .i64 0], .int .i64 0], []⟩ 8 (by kernel_rfl) (by kernel_rfl) (by kernel_rfl) (by kernel_rfl)) ?_
  intro W base args ds gs before hval0 hW hcnd _
  have hval : ∀ (j : Nat) t v, Try.f7.params[j]? = some t → args[j]? = some v → Value.okWide Try.prog W .any base t v := hval0
  have hW' := hW
  obtain ⟨p, q, hA0, hV, rfl, hfz, hnd⟩ := hW
  have hA : DataW.TrodAll enc Try.prog W 0 (fun _ => true) true Try.f7.params.toList args.toList ds p := hA0
  rw [Try.params7] at hA hval
  obtain ⟨v0, vs0, d0, ds0, p0, q0, hargs, rfl, rfl, h0, r0⟩ := trodAll_cons hA
  obtain ⟨v1, vs1, d1, ds1, p1, q1, rfl, rfl, rfl, h1, r1⟩ := trodAll_cons r0
  obtain ⟨v2, vs2, d2, ds2, p2, q2, rfl, rfl, rfl, h2, r2⟩ := trodAll_cons r1
  obtain ⟨rfl, rfl, rfl⟩ := trodAll_nil r2
  obtain rfl : args = #[v0, v1, v2] := by cases args; simp_all
  obtain ⟨rfl, rfl⟩ := trodVars_none hV
  obtain ⟨a0, len0, cap0, rfl⟩ := okWide_slice Try.underlying22 (hval 0 22 v0 rfl rfl)
  have k0 := h0
  have lt0 : ∀ x ∈ p0, x.block < W.heap.size := by obtain ⟨m, hm⟩ := k0; exact DataW.trod_lt m _ _ _ hm
  have w0 : IsStructs [some .i64, some .i64] W a0 len0 cap0 := open_structs Try.underlying22 Try.underlying31 (by kernel_rfl) (fun j k hk => by
    rcases j with _ | _ | j
    · cases hk; exact ⟨_, rfl, rfl, by kernel_rfl, Try.underlying3⟩
    · cases hk; exact ⟨_, rfl, rfl, by kernel_rfl, Try.underlying3⟩
    · simp at hk) h0
  have k1 := h1
  have lt1 : ∀ x ∈ p1, x.block < W.heap.size := by obtain ⟨m, hm⟩ := k1; exact DataW.trod_lt m _ _ _ hm
  obtain ⟨cs1, fu1, rfl, sz1, hf1⟩ := open_struct_cells (n := 4) Try.underlying24 (by kernel_rfl) (hval 1 24 v1 rfl rfl) h1
  obtain ⟨y1f0, hy1f0⟩ := hf1 0 _ rfl
  obtain ⟨a1f0, g1f0, _, w1f0⟩ := DataW.trod_int Try.underlying3 hy1f0
  have e1f0 := cell_at (by kernel_rfl) g1f0
  obtain ⟨y1f1, hy1f1⟩ := hf1 1 _ rfl
  obtain ⟨a1f1, g1f1, _, w1f1⟩ := DataW.trod_int Try.underlying3 hy1f1
  have e1f1 := cell_at (by kernel_rfl) g1f1
  obtain ⟨y1f2, hy1f2⟩ := hf1 2 _ rfl
  obtain ⟨a1f2, g1f2, _, w1f2⟩ := DataW.trod_int Try.underlying3 hy1f2
  have e1f2 := cell_at (by kernel_rfl) g1f2
  obtain ⟨y1f3, hy1f3⟩ := hf1 3 _ rfl
  obtain ⟨a1f3, g1f3, _, w1f3⟩ := DataW.trod_int Try.underlying3 hy1f3
  have e1f3 := cell_at (by kernel_rfl) g1f3
  obtain rfl : cs1 = #[.int .i64 a1f0, .int .i64 a1f1, .int .i64 a1f2, .int .i64 a1f3] := cells_are [.int .i64 a1f0, .int .i64 a1f1, .int .i64 a1f2, .int .i64 a1f3] sz1 (fun j hj => by
    rcases j with _ | _ | _ | _ | j
    · exact e1f0
    · exact e1f1
    · exact e1f2
    · exact e1f3
    · exact absurd hj (by simp only [List.length_cons, List.length_nil]; omega))
  clear hy1f0 g1f0 e1f0 hy1f1 g1f1 e1f1 hy1f2 g1f2 e1f2 hy1f3 g1f3 e1f3 sz1 hf1
  obtain ⟨a2, rfl, rfl, rfl, w2⟩ := open_int Try.underlying3 (hval 2 3 v2 rfl rfl) h2
  clear hA0 hval0
  refine (tilesEmpty_walk a0 len0 cap0 a1f0 a1f1 a1f2 a1f3 a2 W w0 w1f0 w1f1 w1f2 w1f3 w2).mono fun e W' ⟨he, bel⟩ => ?_
  subst he
  exact ⟨_, rfl, _, _, _, [], _, [], hW', trodAll_mk1 (shut_bool Try.underlying4 _), (trodAll_cons_mk (Below.trod laidOut (by kernel_rfl) (of_decide_eq_true (by kernel_rfl)) k0 bel lt0) (trodAll_cons_mk (Below.trod laidOut (by kernel_rfl) (of_decide_eq_true (by kernel_rfl)) k1 bel lt1) (trodAll_cons_mk (shut_int Try.underlying3 w2) trodAll_mk0))), rfl, bel.frame _, fun h => by cases h⟩

theorem tilesEmpty_over : Rows.tilesEmptyRow.holds Try.pinned (OpenSpec.ofChange Rows.tilesEmptySpec) :=
  OpenClaim.holds_of_wide 7 Try.f7 rfl rfl rfl rfl rfl rfl rfl ⟨rfl, rfl, rfl, rfl, rfl⟩ rfl rfl rfl rfl rfl (by kernel_rfl) Try.func7 (by kernel_rfl)
    (of_decide_eq_true (by kernel_rfl)) (by unfold Func.isWrapper; first | (rw [if_pos (by decide +kernel)]; kernel_rfl) | (rw [if_neg (by decide +kernel)]; exact ⟨rfl, rfl⟩))
    (fun os started H enc _ => tilesEmpty_lifted os started H enc)

theorem tilesEmpty_holds : Rows.TilesEmptySaid := tilesEmpty_over
#print axioms tilesEmpty_holds

end Go.Proofs.Ytfimdekbpieifaa
