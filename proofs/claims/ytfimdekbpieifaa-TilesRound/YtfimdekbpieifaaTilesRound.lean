/- TilesRound, at the landed commit: whatever slice of words, view and array of two integers come in, the call returns true: the map goes round, a line that is moved by one pixel is that line from the next one on, and pixels are within their palettes. No condition. -/
import Derived.Test.YtfimdekbpieifaaPixel17
import Derived.Test.YtfimdekbpieifaaLine17
import Derived.Test.YtfimdekbpieifaaMade17
import Derived.Test.YtfimdekbpieifaaTurn17
import Derived.Test.YtfimdekbpieifaaArrays
import Derived.BigFrame
namespace Go.Proofs.Ytfimdekbpieifaa
open Go.ChangeShapes Go.WideShapes Go.ChangeAt Go.RowKit
set_option linter.unusedVariables false

theorem wpList_load_want {P : Program} {ops : Array Oper} {rest : List Oper} {o : Oper} {a : Act} {w : World} {Q : Exit → Act → World → Prop} (hw : Region.wanted o (yielded ops a.tmps) = true) (ty : TypeId) (x : Operand) (ho : o.op = .load ty x)
    (g : Nat) (hx : a.eval x = .pointer (some ⟨g, 0, none⟩)) (t : TypeId) (cs : Array Value) (fr : Nat × Nat) (d : TypeDesc) (hg : w.heap[g]? = some (.cells cs t fr))
    (hu : P.underlying ty = some d) (hd : (match d with | .struct _ | .array _ _ => true | _ => false) = true) (hi : (P.info? ty).map (·.size) = some cs.size)
    (h : wpList P ops Q rest (a.put o.dst (.agg cs)) w) : wpList P ops Q (o :: rest) a w :=
  BigFrame.wpList_want hw fun _ hK => wp_load_row ty x ho g hx t cs fr d hg hu hd hi (hK _ _ h)
set_option maxHeartbeats 1000000 in
theorem round_core (a : Option Addr) (len cap : Nat) (v0 v1 v2 v3 x0 x1 W H X Y x y s0 s t : Int) (pa pw : Nat → Int) (w : World) (HR : Hid (IsPokes w a len pa pw)) (HW : Hid (W = 32 ∨ W = 64 ∨ W = 128)) (HH : Hid (H = 32 ∨ H = 64)) (hW0 : 0 ≤ W) (hW1 : W ≤ 128) (hH0 : 0 ≤ H) (hH1 : H ≤ 64) (hX0 : 0 ≤ X) (hX1 : X < 4096) (hx0 : 0 ≤ x) (hx1 : x < 4096) (hy0 : 0 ≤ y) (hy1 : y < 4096) (eW : wrap64 (32 * 2 ^ s.toNat) = W) (eH : wrap64 (32 * 2 ^ t.toNat) = H) (e0 : Int.tmod v0 3 = s0) (es : Int.tmod (s0 + 3) 3 = s) (et : bits .and .i64 v1 1 = t) (eX : bits .and .i64 v2 4095 = X) (eY : bits .and .i64 v3 4095 = Y) (ex : bits .and .i64 x0 4095 = x) (ey : bits .and .i64 x1 4095 = y) (hs0 : -3 < s0) (hs1 : s0 < 3) (hs2 : 0 ≤ s) (hs3 : s < 3) (ht0 : 0 ≤ t) (ht1 : t < 2) : Calls Try.prog 5 #[.slice a len cap, .agg #[.int .i64 v0, .int .i64 v1, .int .i64 v2, .int .i64 v3], .agg #[.int .i64 x0, .int .i64 x1]] w fun e w' => e = .returned (.bool true) ∧ Below w.heap.size w w' := by
  go_enter Try.func5, Try.ntmps5
  go_wp2_with fail
  refine under_name fun wa hwa => ?_
  obtain ⟨b0, b1, hs, BB⟩ := two_named hwa
  clear hwa
  have V0 := hide (show HasV wa w.heap.size W H X Y from b0)
  have k0 := kept_cell ((cell_of_row wa (w.heap.size + 1) 0 _ _ _ b1).trans rfl) hs
  have k1 := kept_cell ((cell_of_row wa (w.heap.size + 1) 1 _ _ _ b1).trans rfl) hs
  have B0 := hide BB
  have ZB := hide (show w.heap.size ≤ w.heap.size from Nat.le_refl _)
  clear b0 b1 hs BB
  haveI := kept_some wa
  refine wp_region_kept (by kernel_rfl) (by kernel_rfl) ?_
  repeat (go_big_quiet_step (fail))
  refine wpQuiet_nil ?_
  rintro _ ⟨wk, rfl⟩
  clear k0 k1
  have V1 := hide (V0.out.next wk.below)
  have B1 := hide (bnext B0.out wk.below)
  clear V0 B0
  obtain ⟨w1, hw1⟩ : ∃ w1, w1 = wk.val := ⟨_, rfl⟩
  rw [← hw1] at V1 B1 ⊢
  clear hw1 wk
  obtain ⟨z, hz⟩ : ∃ z, w.heap.size = z := ⟨_, rfl⟩
  have ZB := hide (show w.heap.size ≤ z by omega)
  rw [hz] at V1 ⊢
  clear hz
  go_wp2_with fail
  refine (made_is a len cap pa pw w1 (HR.out.next B1.out)).mono ?_
  rintro e w2 ⟨g, c, d, rfl, k2⟩
  have WF := hide (words_made pa pw (min len 80))
  generalize madeTo pa pw (min len 80) = f at *
  have H2 := hide k2.2.1
  have V2 := hide (V1.out.next k2.below)
  have B2 := hide (bnext B1.out k2.below)
  have ZG := hide (show z ≠ g by have := V1.out.lt; have := k2.1.1; omega)
  clear k2 V1 B1 HR
  go_wp2_with fail
  refine under_calls fun w3 hw3 => ?_
  have n3 : Below w2.heap.size w2 w3 := by rw [hw3]; exact (Below.refl _ w2).alloc (Nat.le_refl _) _
  have P3 := hide (pokes_two (show w3.heap[w2.heap.size]? = some (.cells #[.int .i64 0, .int .i64 12289, .int .i64 16, .int .i64 32896] 31 (0, 0)) by rw [hw3]; exact heap_alloc_new _ _))
  have H3 := hide (H2.out.next n3)
  have V3 := hide (V2.out.next n3)
  have B3 := hide (bnext B2.out n3)
  clear hw3 n3 H2 V2 B2
  refine (made_is _ 2 2 twoA twoW w3 P3.out).mono ?_
  rintro e w4 ⟨g2, c2, d2, rfl, k4⟩
  have K4 := hide (show HasM w4 g2 true (madeTo twoA twoW 2) 0 0 1 0 0 from k4.2.1)
  have H4 := hide (H3.out.next k4.below)
  have V4 := hide (V3.out.next k4.below)
  have B4 := hide (bnext B3.out k4.below)
  clear k4 H3 V3 B3 P3
  go_wp2_with fail
  refine (pixel_is _ _ (words_made twoA twoW 2) 32 32 0 0 256 256 51 two_256 w4 (tells_made K4.out)).mono ?_
  rintro e w5 ⟨rfl, b5⟩
  have H5 := hide (H4.out.next b5)
  have V5 := hide (V4.out.next b5)
  have B5 := hide (bnext B4.out b5)
  clear b5 H4 V4 B4 K4
  go_wp2_with (first | (refine wpList_load_want rfl 24 (.tmp 4) rfl z rfl _ _ _ _ V5.out Try.underlying24 rfl (by kernel_rfl) ?_))
  refine (pixel_is none _ (fun _ => ⟨Int.le_refl 0, by decide⟩) W H X Y x y 0 (pixelG_none W H X Y x y) w5 (tells_nil w5)).mono ?_
  rintro e w6 ⟨rfl, b6⟩
  have H6 := hide (H5.out.next b6)
  have V6 := hide (V5.out.next b6)
  have B6 := hide (bnext B5.out b6)
  clear b6 H5 V5 B5
  go_wp2_with (first | (refine wpList_load_row rfl 24 (.tmp 4) rfl z rfl _ _ _ _ V6.out Try.underlying24 rfl (by kernel_rfl) ?_))
  have KL : Calls Try.prog 12 #[.pointer (some ⟨g, 0, none⟩), .agg #[.int .i64 W, .int .i64 H, .int .i64 X, .int .i64 Y], .int .i64 y, .int .i64 40] w6 _ := line_is g f 0 0 1 0 0 w6 H6.out (fun j => pixelG (wordAt f) W H X Y j y) WF.out W H X Y y 40 (by omega) (by omega) (fun j => rfl)
  refine KL.mono ?_
  rintro e w7 ⟨ga, hga, rfl, r7, b7⟩
  have H7 := hide (H6.out.next b7)
  have V7 := hide (V6.out.next b7)
  have R7 := hide r7
  have B7 := hide (bnext B6.out b7)
  have ZA := hide (show ga ≠ z by have := V6.out.lt; omega)
  clear b7 r7 hga H6 V6 B6 KL
  have c2 := V7.out.c2
  have z2 := V7.out.frozen 2
  have O8 := hide ((Only.refl z w7).set 2 (.int .i64 (X + 1)))
  have V8 := hide (show HasV (w7.setCell ⟨z, 2, none⟩ (.int .i64 (X + 1))) z W H (X + 1) Y from heap_setCell_same w7 z 2 _ _ _ V7.out)
  go_wp2_with (first | (refine wpList_load_row rfl 24 (.tmp 4) rfl z rfl _ _ _ _ V8.out Try.underlying24 rfl (by kernel_rfl) ?_))
  refine under_calls fun w8 hw8 => ?_
  rw [← hw8] at O8 V8
  have H8 := hide (show HasM w8 g true f 0 0 1 0 0 from O8.out.obj H7.out (fun e => ZG.out e.symm))
  have R8 := hide (show HasRow w8 ga _ from O8.out.obj R7.out ZA.out)
  have B8 := hide (bonly B7.out O8.out ZB.out (Nat.le_refl _))
  clear hw8 O8 c2 z2 H7 V7 R7 B7
  have KL : Calls Try.prog 12 #[.pointer (some ⟨g, 0, none⟩), .agg #[.int .i64 W, .int .i64 H, .int .i64 (X + 1), .int .i64 Y], .int .i64 y, .int .i64 40] w8 _ := line_is g f 0 0 1 0 0 w8 H8.out (fun j => pixelG (wordAt f) W H (X + 1) Y j y) WF.out W H (X + 1) Y y 40 (by omega) (by omega) (fun j => rfl)
  refine KL.mono ?_
  rintro e w9 ⟨gb, hgb, rfl, r9, b9⟩
  have H9 := hide (H8.out.next b9)
  have V9 := hide (V8.out.next b9)
  have Q9 := hide (R8.out.next b9)
  have R9 := hide r9
  have B9 := hide (bnext B8.out b9)
  have ZC := hide (show gb ≠ z by have := V8.out.lt; omega)
  clear b9 r9 hgb H8 V8 R8 B8 KL
  have c2 := V9.out.c2
  have z2 := V9.out.frozen 2
  go_wp2_with fail
  refine under_name fun w10 hw10 => ?_
  have O10 := hide (show Only z w9 w10 by rw [hw10]; exact (Only.refl z w9).set 2 (.int .i64 X))
  have V10 := hide (show HasV w10 z W H X Y by rw [hw10]; exact heap_setCell_same w9 z 2 _ _ _ V9.out)
  have H10 := hide (show HasM w10 g true f 0 0 1 0 0 from O10.out.obj H9.out (fun e => ZG.out e.symm))
  have Q10 := hide (show HasRow w10 ga _ from O10.out.obj Q9.out ZA.out)
  have R10 := hide (show HasRow w10 gb _ from O10.out.obj R9.out ZC.out)
  have B10 := hide (bonly B9.out O10.out ZB.out (Nat.le_refl _))
  clear hw10 O10 c2 z2 H9 V9 Q9 R9 B9
  have HM := hide (fun j (j0 : 0 ≤ j) (j1 : j < 65535) => pixelG_moved (wordAt f) W H X Y j y hX0 (by omega) j0 j1)
  go_loopw [15] (fun si wr => ∃ (i : Nat), i ≤ 39 ∧ si = .int .i64 (i : Int) ∧ HasM wr g true f 0 0 1 0 0 ∧ HasV wr z W H X Y ∧ HasRow wr ga (lineOf (fun j => pixelG (wordAt f) W H X Y j y) 40) ∧ HasRow wr gb (lineOf (fun j => pixelG (wordAt f) W H (X + 1) Y j y) 40) ∧ Below w.heap.size w wr) (fun si _ => 39 - (intOf si).toNat)
  case atStart => exact ⟨0, Nat.zero_le _, rfl, H10.out, V10.out, Q10.out, R10.out, B10.out⟩
  case round =>
    obtain ⟨i, hi, rfl, h1, h2, h3, h4, h5⟩ := hrel
    have HI := hide h1
    have VI := hide h2
    have QI := hide h3
    have RI := hide h4
    have BI := hide h5
    clear h1 h2 h3 h4 h5 H10 V10 Q10 R10 B10
    by_cases hlt : i < 39
    · have hca := QI.out.at (i + 1) (by omega)
      have hcb := RI.out.at i (by omega)
      simp only [HM.out (i : Int) (by omega) (by omega)] at hcb
      simp only [Int.natCast_add, Int.cast_ofNat_Int] at hca
      obtain ⟨v, hv⟩ : ∃ v, pixelG (wordAt f) W H X Y ((i : Int) + 1) y = v := ⟨_, rfl⟩
      rw [hv] at hca hcb
      clear hv
      set_option maxRecDepth 20000 in
      go_wp2_with fail
      have k0 := kept_cell hca (lt_of_block QI.out)
      have k1 := kept_cell hcb (lt_of_block RI.out)
      clear hca hcb
      haveI := kept_some wr
      refine wp_region_kept (by kernel_rfl) (by kernel_rfl) ?_
      repeat (go_big_quiet_step (fail))
      refine wpQuiet_nil ?_
      rintro _ ⟨wk, rfl⟩
      clear k0 k1
      have H7 := hide (HI.out.next wk.below)
      have V7 := hide (VI.out.next wk.below)
      have Q7 := hide (QI.out.next wk.below)
      have R7 := hide (RI.out.next wk.below)
      have B7 := hide (bnext BI.out wk.below)
      clear HI VI QI RI BI
      set_option maxRecDepth 20000 in
      go_wp2_with fail
      set_option maxRecDepth 20000 in
      go_roundw
      case rel => exact ⟨i + 1, by omega, by go_num, H7.out, V7.out, Q7.out, R7.out, B7.out⟩
      case measure => simp [intOf]; omega
    · obtain rfl : i = 39 := by omega
      clear QI RI hlt hi HM
      have PB := hide (pixelG_le (wordAt f) WF.out W H X Y x y)
      have PL := hide (pixelG_low (wordAt f) WF.out W H X Y x y)
      have PX := hide (pixelG_roundX (wordAt f) W H X Y x y hx0 hW0 (by omega))
      have PY := hide (pixelG_roundY (wordAt f) W H X Y x y hy0 hH0 (by omega))
      obtain ⟨p, hp⟩ : ∃ p, pixelG (wordAt f) W H X Y x y = p := ⟨_, rfl⟩
      have HP := hide hp
      rw [hp] at PB PL PX PY
      clear hp
      have c0 := VI.out.c0
      set_option maxRecDepth 20000 in
      go_wp2_with (first | (refine wpList_load_row rfl 24 (.tmp 4) rfl z rfl _ _ _ _ VI.out Try.underlying24 rfl (by kernel_rfl) ?_))
      refine (pixel_is _ _ WF.out W H X Y x y p HP.out wr (tells_made HI.out)).mono ?_
      rintro e w11 ⟨rfl, b11⟩
      have H11 := hide (HI.out.next b11)
      have V11 := hide (VI.out.next b11)
      have B11 := hide (bnext BI.out b11)
      clear b11 HI VI BI c0
      have c0 := V11.out.c0
      set_option maxRecDepth 20000 in
      go_wp2_with (first | (refine wpList_load_row rfl 24 (.tmp 4) rfl z rfl _ _ _ _ V11.out Try.underlying24 rfl (by kernel_rfl) ?_))
      refine (pixel_is _ _ WF.out W H X Y (x + 8 * W) y p PX.out w11 (tells_made H11.out)).mono ?_
      rintro e w12 ⟨rfl, b12⟩
      have H12 := hide (H11.out.next b12)
      have V12 := hide (V11.out.next b12)
      have B12 := hide (bnext B11.out b12)
      clear b12 H11 V11 B11 c0
      have c1 := V12.out.c1
      set_option maxRecDepth 20000 in
      go_wp2_with (first | (refine wpList_load_want rfl 24 (.tmp 4) rfl z rfl _ _ _ _ V12.out Try.underlying24 rfl (by kernel_rfl) ?_))
      refine (pixel_is _ _ WF.out W H X Y x (y + 8 * H) p PY.out w12 (tells_made H12.out)).mono ?_
      rintro e w13 ⟨rfl, b13⟩
      have B13 := hide (bnext B12.out b13)
      clear b13 H12 V12 B12 c1
      have p0 := PB.out.1
      have p1 := PB.out.2
      by_cases hz : p = 0
      · set_option maxRecDepth 20000 in
        go_wp2_with fail
        go_ret
        exact ⟨rfl, B13.out⟩
      · have em := and_15 p
        obtain ⟨m, hm⟩ : ∃ m, p % 16 = m := ⟨_, rfl⟩
        have hm0 : ¬ m = 0 := by rcases PL.out with h | h; exact absurd h hz; rw [← hm]; exact h
        rw [hm] at em
        clear hm
        have hq1 : (m != 0) = true := by simpa using hm0
        have hq2 : (p == 0) = false := by simpa using hz
        set_option maxRecDepth 20000 in
        go_wp2_with fail
        go_ret
        exact ⟨ret_bool (by simp), B13.out⟩
theorem two_list (l : List Int) (h : l.length = 2) : ∃ a b, l = [a, b] := by
  match l, h with
  | [a, b], _ => exact ⟨a, b, rfl⟩
theorem tilesRound_walk (a0 : Option Addr) (len0 cap0 : Nat) (a1f0 a1f1 a1f2 a1f3 : Int) (z2 : List Int) (w : World) (w0 : IsStructs [some .i64, some .i64] w a0 len0 cap0) (w1f0 : (Lit.int .i64 a1f0).wf = true) (w1f1 : (Lit.int .i64 a1f1).wf = true) (w1f2 : (Lit.int .i64 a1f2).wf = true) (w1f3 : (Lit.int .i64 a1f3).wf = true) (l2 : z2.length = 2) (w2 : ∀ z ∈ z2, (Lit.int .i64 z).wf = true) :
    Calls Try.prog 5 #[.slice a0 len0 cap0, .agg #[.int .i64 a1f0, .int .i64 a1f1, .int .i64 a1f2, .int .i64 a1f3], .agg (z2.map (Value.int .i64)).toArray] w fun e w' => e = .returned (.bool true) ∧ Below w.heap.size w w' := by
  obtain ⟨x0, x1, rfl⟩ := two_list z2 l2
  obtain ⟨pa, pw, hp⟩ := pokes_in w0
  have h1 : -3 < Int.tmod a1f0 3 ∧ Int.tmod a1f0 3 < 3 := by
    rw [Int.tmod_eq_emod]
    split <;> omega
  have h2 : Int.tmod (Int.tmod a1f0 3 + 3) 3 = (Int.tmod a1f0 3 + 3) % 3 := Int.tmod_eq_emod_of_nonneg (by omega)
  obtain ⟨W, eW, hW, _⟩ := shl_32 ((Int.tmod a1f0 3 + 3) % 3) (by omega) (by omega)
  obtain ⟨H, eH, _, hH⟩ := shl_32 (a1f1 % 2) (by omega) (by omega)
  have hH := hH (by omega)
  exact round_core a0 len0 cap0 a1f0 a1f1 a1f2 a1f3 x0 x1 W H (a1f2 % 4096) (a1f3 % 4096) (x0 % 4096) (x1 % 4096) _ _ _ pa pw w (hide hp) (hide hW) (hide hH) (by omega) (by omega) (by omega) (by omega) (by omega) (by omega) (by omega) (by omega) (by omega) (by omega) eW eH rfl h2 (and_1 _) (and_4095 _) (and_4095 _) (and_4095 _) (and_4095 _) (by omega) (by omega) (by omega) (by omega) (by omega) (by omega)

set_option maxRecDepth 100000 in
theorem tilesRound_lifted (os : Os) (started : os.Started) (H : Type) (enc : TypeId × Value → H) :
    ReturnsInHanded {} Try.checked os 5 .any (Rows.tilesRoundSpec.pre6 enc Try.prog Try.f5 Rows.tilesRoundRow.domain false) (Rows.tilesRoundSpec.post enc Try.prog Try.f5 false true false false) := by
  refine returnsInHanded_of_change (C := Try.checked) own started (by kernel_rfl) Try.func5
    (ChangeSpec.witness6 (enc := enc) (C := Try.checked) false ⟨#[], #[.slice none 0 0, .agg #[.int .i64 0, .int .i64 0, .int .i64 0, .int .i64 0], .agg #[.int .i64 0, .int .i64 0]], []⟩ 8 (by kernel_rfl) (by kernel_rfl) (by kernel_rfl) (by kernel_rfl)) ?_
  intro W base args ds gs before hval0 hW hcnd _
  have hval : ∀ (j : Nat) t v, Try.f5.params[j]? = some t → args[j]? = some v → Value.okWide Try.prog W .any base t v := hval0
  have hW' := hW
  obtain ⟨p, q, hA0, hV, rfl, hfz, hnd⟩ := hW
  have hA : DataW.TrodAll enc Try.prog W 0 (fun _ => true) true Try.f5.params.toList args.toList ds p := hA0
  rw [Try.params5] at hA hval
  obtain ⟨v0, vs0, d0, ds0, p0, q0, hargs, rfl, rfl, h0, r0⟩ := trodAll_cons hA
  obtain ⟨v1, vs1, d1, ds1, p1, q1, rfl, rfl, rfl, h1, r1⟩ := trodAll_cons r0
  obtain ⟨v2, vs2, d2, ds2, p2, q2, rfl, rfl, rfl, h2, r2⟩ := trodAll_cons r1
  obtain ⟨rfl, rfl, rfl⟩ := trodAll_nil r2
  obtain rfl : args = #[v0, v1, v2] := by cases args; simp_all
  obtain ⟨rfl, rfl⟩ := trodVars_none hV
  obtain ⟨a0, len0, cap0, rfl⟩ := okWide_slice Try.underlying22 (hval 0 22 v0 rfl rfl)
  have k0 := h0
  have lt0 : ∀ x ∈ p0, x.block < W.heap.size := by obtain ⟨m, hm⟩ := k0; exact DataW.trod_lt m _ _ _ hm
  have w0 : IsStructs [some .i64, some .i64] W a0 len0 cap0 := open_structs Try.underlying22 Try.underlying31 (by kernel_rfl) (fun j k hk => by
    rcases j with _ | _ | j
    · cases hk; exact ⟨_, rfl, rfl, by kernel_rfl, Try.underlying3⟩
    · cases hk; exact ⟨_, rfl, rfl, by kernel_rfl, Try.underlying3⟩
    · simp at hk) h0
  have k1 := h1
  have lt1 : ∀ x ∈ p1, x.block < W.heap.size := by obtain ⟨m, hm⟩ := k1; exact DataW.trod_lt m _ _ _ hm
  obtain ⟨cs1, fu1, rfl, sz1, hf1⟩ := open_struct_cells (n := 4) Try.underlying24 (by kernel_rfl) (hval 1 24 v1 rfl rfl) h1
  obtain ⟨y1f0, hy1f0⟩ := hf1 0 _ rfl
  obtain ⟨a1f0, g1f0, _, w1f0⟩ := DataW.trod_int Try.underlying3 hy1f0
  have e1f0 := cell_at (by kernel_rfl) g1f0
  obtain ⟨y1f1, hy1f1⟩ := hf1 1 _ rfl
  obtain ⟨a1f1, g1f1, _, w1f1⟩ := DataW.trod_int Try.underlying3 hy1f1
  have e1f1 := cell_at (by kernel_rfl) g1f1
  obtain ⟨y1f2, hy1f2⟩ := hf1 2 _ rfl
  obtain ⟨a1f2, g1f2, _, w1f2⟩ := DataW.trod_int Try.underlying3 hy1f2
  have e1f2 := cell_at (by kernel_rfl) g1f2
  obtain ⟨y1f3, hy1f3⟩ := hf1 3 _ rfl
  obtain ⟨a1f3, g1f3, _, w1f3⟩ := DataW.trod_int Try.underlying3 hy1f3
  have e1f3 := cell_at (by kernel_rfl) g1f3
  obtain rfl : cs1 = #[.int .i64 a1f0, .int .i64 a1f1, .int .i64 a1f2, .int .i64 a1f3] := cells_are [.int .i64 a1f0, .int .i64 a1f1, .int .i64 a1f2, .int .i64 a1f3] sz1 (fun j hj => by
    rcases j with _ | _ | _ | _ | j
    · exact e1f0
    · exact e1f1
    · exact e1f2
    · exact e1f3
    · exact absurd hj (by simp only [List.length_cons, List.length_nil]; omega))
  clear hy1f0 g1f0 e1f0 hy1f1 g1f1 e1f1 hy1f2 g1f2 e1f2 hy1f3 g1f3 e1f3 sz1 hf1
  have k2 := h2
  have lt2 : ∀ x ∈ p2, x.block < W.heap.size := by obtain ⟨m, hm⟩ := k2; exact DataW.trod_lt m _ _ _ hm
  obtain ⟨z2, l2, rfl, w2⟩ := open_array_ints Try.underlying25 Try.underlying3 (by kernel_rfl) (by kernel_rfl) (hval 2 25 v2 rfl rfl) h2
  clear hA0 hval0
  refine (tilesRound_walk a0 len0 cap0 a1f0 a1f1 a1f2 a1f3 z2 W w0 w1f0 w1f1 w1f2 w1f3 l2 w2).mono fun e W' ⟨he, bel⟩ => ?_
  subst he
  exact ⟨_, rfl, _, _, _, [], _, [], hW', trodAll_mk1 (shut_bool Try.underlying4 _), (trodAll_cons_mk (Below.trod laidOut (by kernel_rfl) (of_decide_eq_true (by kernel_rfl)) k0 bel lt0) (trodAll_cons_mk (Below.trod laidOut (by kernel_rfl) (of_decide_eq_true (by kernel_rfl)) k1 bel lt1) (trodAll_cons_mk (Below.trod laidOut (by kernel_rfl) (of_decide_eq_true (by kernel_rfl)) k2 bel lt2) trodAll_mk0))), rfl, bel.frame _, fun h => by cases h⟩

theorem tilesRound_over : Rows.tilesRoundRow.holds Try.pinned (OpenSpec.ofChange Rows.tilesRoundSpec) :=
  OpenClaim.holds_of_wide 5 Try.f5 rfl rfl rfl rfl rfl rfl rfl ⟨rfl, rfl, rfl, rfl, rfl⟩ rfl rfl rfl rfl rfl (by kernel_rfl) Try.func5 (by kernel_rfl)
    (of_decide_eq_true (by kernel_rfl)) (by unfold Func.isWrapper; first | (rw [if_pos (by decide +kernel)]; kernel_rfl) | (rw [if_neg (by decide +kernel)]; exact ⟨rfl, rfl⟩))
    (fun os started H enc _ => tilesRound_lifted os started H enc)

theorem tilesRound_holds : Rows.TilesRoundSaid := tilesRound_over
#print axioms tilesRound_holds

end Go.Proofs.Ytfimdekbpieifaa
