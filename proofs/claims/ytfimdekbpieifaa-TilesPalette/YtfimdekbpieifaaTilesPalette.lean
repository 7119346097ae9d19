/- TilesPalette, at the landed commit: whatever slice of words and two integers come in, the call returns true: with another palette in its cell a pixel that is seen is of that palette, with the same colour, and one that is not is not. No condition. -/
import Derived.Test.YtfimdekbpieifaaPixel17
import Derived.Test.YtfimdekbpieifaaMade17
import Derived.Test.YtfimdekbpieifaaWant17
import Derived.Test.YtfimdekbpieifaaArrays
namespace Go.Proofs.Ytfimdekbpieifaa
open Go.ChangeShapes Go.WideShapes Go.ChangeAt Go.RowKit
set_option linter.unusedVariables false

/-- All words but the first are as they were. -/
def Rest (f F : Nat → Int) : Prop := Words (wordAt F) ∧ ∀ n, n % 65536 ≠ 0 → wordAt F n = wordAt f n
theorem Rest.poke {f F : Nat → Int} (h : Rest f F) (x : Int) : Rest f (pokeAt F 0 x) := ⟨words_poke h.1 0 x, fun n hn => by rw [wordAt_other F 0 n x (by simpa using hn)]; exact h.2 n hn⟩
/-- The pixel of the first cell, with its word laid anew. -/
theorem pixel_laid {f F : Nat → Int} (h : Rest f F) (k C t : Int) (hk0 : 0 ≤ k) (hk1 : k < 16) (hC0 : 0 < C) (hC1 : C < 4096) (ht0 : 0 ≤ t) (ht1 : t < 8) :
    pixelG (wordAt (pokeAt F 0 (k * 4096 + C))) 32 32 0 0 t 0 = if colorOf (wordAt f (C * 16)) (wordAt f (C * 16 + 8)) (7 - t) = 0 then 0 else k * 16 + colorOf (wordAt f (C * 16)) (wordAt f (C * 16 + 8)) (7 - t) := by
  have e0 : wordAt (pokeAt F 0 (k * 4096 + C)) 0 = k * 4096 + C := by rw [wordAt_same, if_pos (by decide)]; omega
  have e1 : onOf 0 t 32 = t := by unfold onOf; omega
  have e2 : onOf 0 0 32 = 0 := by decide
  have e3 := (h.poke (k * 4096 + C)).2 (C * 16) (by omega)
  have e4 := (h.poke (k * 4096 + C)).2 (C * 16 + 8) (by omega)
  unfold pixelG
  rw [if_pos (by decide), e1, e2]
  unfold pixG cellG lieOf
  rw [show (0 : Int) / 8 * 32 + t / 8 = 0 by omega, e0, show (k * 4096 + C) % 4096 * 16 + 0 % 8 = C * 16 by omega, e3, e4, show t % 8 = t by omega]
  unfold pixC
  rw [show (k * 4096 + C) / 4096 * 16 = k * 16 by omega]
theorem or_laid (k C : Int) (hk0 : 0 ≤ k) (hk1 : k < 16) (hC0 : 0 ≤ C) (hC1 : C < 4096) : bits .or .i64 (k * 4096) C = k * 4096 + C := or_add 12 _ _ (by omega) (by omega) (by omega) hC0 (by omega) (by omega)
set_option maxHeartbeats 1000000 in
theorem palette_one (a : Option Addr) (len cap : Nat) (a1 a2 t : Int) (pa pw : Nat → Int) (w : World) (HR : Hid (IsPokes w a len pa pw)) (e1 : bits .and .i64 a1 4095 = 0) (e2 : bits .and .i64 a2 7 = t) (ht0 : 0 ≤ t) (ht1 : t < 8) : Calls Try.prog 6 #[.slice a len cap, .int .i64 a1, .int .i64 a2] w fun e w' => e = .returned (.bool true) ∧ Below w.heap.size w w' := by
  go_enter Try.func6, Try.ntmps6
  go_wp2_with fail
  refine (made_is a len cap pa pw w HR.out).mono ?_
  rintro e w2 ⟨g, c, d, rfl, k2⟩
  have WF := hide (words_made pa pw (min len 80))
  generalize madeTo pa pw (min len 80) = f at *
  have H2 := hide k2.2.1
  have B2 := hide k2.below
  have ZG := hide k2.1.1
  clear k2 HR
  go_wp2_with fail
  refine under_name fun w3 hw3 => ?_
  have n3 : Below w2.heap.size w2 w3 := by rw [hw3]; exact (Below.refl _ w2).alloc (Nat.le_refl _) _
  have V3 := hide (show HasV w3 w2.heap.size 32 32 0 0 by rw [hw3]; exact heap_alloc_new _ _)
  have H3 := hide (H2.out.next n3)
  have B3 := hide (bnext B2.out n3)
  have ZN := hide (show w2.heap.size ≠ g by have := H2.out.lt; omega)
  clear hw3 n3 H2 B2
  obtain ⟨z, hz⟩ : ∃ z, w2.heap.size = z := ⟨_, rfl⟩
  rw [hz] at V3 ZN ⊢
  clear hz
  go_loopw [10, 11] (fun sf sp wr => sf = .int .i64 (-1) ∧ sp = .int .i64 0 ∧ HasM wr g true f 0 0 1 0 0 ∧ HasV wr z 32 32 0 0 ∧ Below w.heap.size w wr) (fun _ _ _ => 0)
  case atStart => exact ⟨rfl, rfl, H3.out, V3.out, B3.out⟩
  case round =>
    obtain ⟨rfl, rfl, h1, h2, h3⟩ := hrel
    have HI := hide h1
    have VI := hide h2
    have BI := hide h3
    clear h1 h2 h3 H3 V3 B3
    obtain ⟨o, eo⟩ : ∃ o, bits .or .i64 0 0 = o := ⟨_, rfl⟩
    have WP := hide (words_poke WF.out 0 o)
    go_wp2_with fail
    refine (poke_is g _ _ _ _ _ _ _ HI.out 0 o _ rfl).mono ?_
    rintro e w4 ⟨rfl, h4, o4⟩
    have H4 := hide h4
    have V4 := hide (show HasV w4 z 32 32 0 0 from o4.obj VI.out ZN.out)
    have B4 := hide (bonly BI.out o4 ZG.out (Nat.le_refl _))
    clear h4 o4 HI VI BI
    generalize pokeAt f 0 o = F at *
    have PB := hide (pixelG_le (wordAt F) WP.out 32 32 0 0 t 0)
    obtain ⟨v, hv⟩ : ∃ v, pixelG (wordAt F) 32 32 0 0 t 0 = v := ⟨_, rfl⟩
    have HV := hide hv
    rw [hv] at PB
    clear hv
    go_wp2_with (first | (refine wpList_load_row rfl 24 (.tmp 9) rfl z rfl _ _ _ _ V4.out Try.underlying24 rfl (by kernel_rfl) ?_))
    refine (pixel_is _ _ WP.out 32 32 0 0 t 0 v HV.out w4 (tells_made H4.out)).mono ?_
    rintro e w5 ⟨rfl, b5⟩
    have B5 := hide (bnext B4.out b5)
    clear b5
    have v0 : decide (0 ≤ v) = true := decide_eq_true PB.out.1
    have v1 : decide (v < 256) = true := decide_eq_true PB.out.2
    go_wp2_with fail
    go_ret
    exact ⟨rfl, B5.out⟩
/-- What is in the first colour's variable ahead of round k. -/
def firstOf (q : Int) (k : Nat) : Int := if k = 0 then -1 else q
set_option maxHeartbeats 1000000 in
theorem palette_all (a : Option Addr) (len cap : Nat) (a1 a2 C t : Int) (pa pw : Nat → Int) (w : World) (HR : Hid (IsPokes w a len pa pw)) (e1 : bits .and .i64 a1 4095 = C) (e2 : bits .and .i64 a2 7 = t) (hC0 : 0 < C) (hC1 : C < 4096) (ht0 : 0 ≤ t) (ht1 : t < 8) : Calls Try.prog 6 #[.slice a len cap, .int .i64 a1, .int .i64 a2] w fun e w' => e = .returned (.bool true) ∧ Below w.heap.size w w' := by
  go_enter Try.func6, Try.ntmps6
  go_wp2_with fail
  refine (made_is a len cap pa pw w HR.out).mono ?_
  rintro e w2 ⟨g, c, d, rfl, k2⟩
  have WF := hide (words_made pa pw (min len 80))
  generalize madeTo pa pw (min len 80) = f at *
  have H2 := hide k2.2.1
  have B2 := hide k2.below
  have ZG := hide k2.1.1
  clear k2 HR
  go_wp2_with fail
  refine under_name fun w3 hw3 => ?_
  have n3 : Below w2.heap.size w2 w3 := by rw [hw3]; exact (Below.refl _ w2).alloc (Nat.le_refl _) _
  have V3 := hide (show HasV w3 w2.heap.size 32 32 0 0 by rw [hw3]; exact heap_alloc_new _ _)
  have H3 := hide (H2.out.next n3)
  have B3 := hide (bnext B2.out n3)
  have ZN := hide (show w2.heap.size ≠ g by have := H2.out.lt; omega)
  clear hw3 n3 H2 B2
  obtain ⟨z, hz⟩ : ∃ z, w2.heap.size = z := ⟨_, rfl⟩
  rw [hz] at V3 ZN ⊢
  clear hz
  obtain ⟨q, hq⟩ : ∃ q, colorOf (wordAt f (C * 16)) (wordAt f (C * 16 + 8)) (7 - t) = q := ⟨_, rfl⟩
  have HQ := hide hq
  have hq0 : 0 ≤ q := by rw [← hq]; exact (colorOf_le _ _ _).1
  have hq1 : q ≤ 15 := by rw [← hq]; exact (colorOf_le _ _ _).2
  clear hq
  go_loopw [10, 11] (fun sf sp wr => ∃ (k : Nat) (F : Nat → Int), k ≤ 16 ∧ sf = .int .i64 (firstOf q k) ∧ sp = .int .i64 (k : Int) ∧ Rest f F ∧ HasM wr g true F 0 0 1 0 0 ∧ HasV wr z 32 32 0 0 ∧ Below w.heap.size w wr) (fun _ sp _ => 16 - (intOf sp).toNat)
  case atStart => exact ⟨0, f, Nat.zero_le _, rfl, rfl, ⟨WF.out, fun _ _ => rfl⟩, H3.out, V3.out, B3.out⟩
  case round =>
    obtain ⟨k, F, hk, rfl, rfl, h0, h1, h2, h3⟩ := hrel
    have RI := hide h0
    have HI := hide h1
    have VI := hide h2
    have BI := hide h3
    clear h0 h1 h2 h3 H3 V3 B3
    obtain ⟨fi, hfi⟩ : ∃ fi, firstOf q k = fi := ⟨_, rfl⟩
    rw [hfi]
    have FI := hide hfi
    clear hfi
    by_cases hlt : k < 16
    · have eo := or_laid (k : Int) C (by omega) (by omega) (by omega) hC1
      obtain ⟨o, ho⟩ : ∃ o, (k : Int) * 4096 + C = o := ⟨_, rfl⟩
      have HP := hide (pixel_laid RI.out (k : Int) C t (by omega) (by omega) hC0 hC1 ht0 ht1)
      rw [HQ.out, ho] at HP
      rw [ho] at eo
      have R4 := hide (RI.out.poke o)
      clear ho
      go_wp2_with fail
      refine (poke_is g _ _ _ _ _ _ _ HI.out 0 o _ rfl).mono ?_
      rintro e w4 ⟨rfl, h4, o4⟩
      have H4 := hide h4
      have V4 := hide (show HasV w4 z 32 32 0 0 from o4.obj VI.out ZN.out)
      have B4 := hide (bonly BI.out o4 ZG.out (Nat.le_refl _))
      clear h4 o4 HI VI BI RI
      generalize pokeAt F 0 o = F4 at *
      obtain ⟨v, hv⟩ : ∃ v, pixelG (wordAt F4) 32 32 0 0 t 0 = v := ⟨_, rfl⟩
      have HV := hide hv
      rw [hv] at HP
      clear hv
      go_wp2_with (first | (refine wpList_load_row rfl 24 (.tmp 9) rfl z rfl _ _ _ _ V4.out Try.underlying24 rfl (by kernel_rfl) ?_))
      refine (pixel_is _ _ R4.out.1 32 32 0 0 t 0 v HV.out w4 (tells_made H4.out)).mono ?_
      rintro e w5 ⟨rfl, b5⟩
      have H5 := hide (H4.out.next b5)
      have V5 := hide (V4.out.next b5)
      have B5 := hide (bnext B4.out b5)
      clear b5 H4 V4 B4 HV
      have em : bits .and .i64 v 15 = q := by
        rw [and_15, HP.out]
        split <;> omega
      have hv0 : 0 ≤ v := by rw [HP.out]; split <;> omega
      have hv1 : v < 256 := by rw [HP.out]; split <;> omega
      have HE := hide (show firstOf q (k + 1) = q from if_neg (by omega))
      by_cases hz : q = 0
      · have hv : v = 0 := by rw [HP.out, if_pos hz]
        subst hv
        subst hz
        by_cases hk0 : k = 0
        · obtain rfl : fi = -1 := FI.out.symm.trans (if_pos hk0)
          go_wp2_with fail
          go_roundw
          case rel => exact ⟨k + 1, F4, by omega, by rw [HE.out], by go_num, R4.out, H5.out, V5.out, B5.out⟩
          case measure => simp [intOf]; omega
        · obtain rfl : fi = 0 := FI.out.symm.trans (if_neg hk0)
          go_wp2_with fail
          go_roundw
          case rel => exact ⟨k + 1, F4, by omega, by rw [HE.out], by go_num, R4.out, H5.out, V5.out, B5.out⟩
          case measure => simp [intOf]; omega
      · have hv : ¬ v = 0 := by rw [HP.out, if_neg hz]; omega
        have hd : v / 16 = (k : Int) := by rw [HP.out, if_neg hz]; omega
        have hc0 : (C == 0) = false := by simpa using (show ¬ C = 0 by omega)
        by_cases hk0 : k = 0
        · obtain rfl : fi = -1 := FI.out.symm.trans (if_pos hk0)
          go_wp2_with fail
          go_roundw
          case rel => exact ⟨k + 1, F4, by omega, by rw [HE.out], by go_num, R4.out, H5.out, V5.out, B5.out⟩
          case measure => simp [intOf]; omega
        · obtain rfl : fi = q := FI.out.symm.trans (if_neg hk0)
          go_wp2_with fail
          go_roundw
          case rel => exact ⟨k + 1, F4, by omega, by rw [HE.out], by go_num, R4.out, H5.out, V5.out, B5.out⟩
          case measure => simp [intOf]; omega
    · obtain rfl : k = 16 := by omega
      clear hlt hk
      set_option maxRecDepth 20000 in
      go_wp2_with fail
      refine under_calls fun w4 hw4 => ?_
      have n4 : Below wr.heap.size wr w4 := by rw [hw4]; exact (Below.refl _ wr).alloc (Nat.le_refl _) _
      have P4 := hide (pokes_two (show w4.heap[wr.heap.size]? = some (.cells #[.int .i64 0, .int .i64 12289, .int .i64 16, .int .i64 32896] 31 (0, 0)) by rw [hw4]; exact heap_alloc_new _ _))
      refine (made_is _ 2 2 twoA twoW w4 P4.out).mono ?_
      rintro e w5 ⟨g2, c2, d2, rfl, k5⟩
      have n5 := bnext n4 k5.below
      have M5 := hide (show HasM w5 g2 true (madeTo twoA twoW 2) 0 0 1 0 0 from k5.2.1)
      have V5 := hide (VI.out.next n5)
      have B5 := hide (bnext BI.out n5)
      clear hw4 n4 n5 k5 P4 HI VI BI RI
      set_option maxRecDepth 20000 in
      go_wp2_with (first | (refine wpList_load_row rfl 24 (.tmp 9) rfl z rfl _ _ _ _ V5.out Try.underlying24 rfl (by kernel_rfl) ?_))
      refine (pixel_is _ _ (words_made twoA twoW 2) 32 32 0 0 0 0 51 two_51 w5 (tells_made M5.out)).mono ?_
      rintro e w6 ⟨rfl, b6⟩
      have B6 := hide (bnext B5.out b6)
      clear b6
      go_wp2_with fail
      go_ret
      exact ⟨rfl, B6.out⟩
theorem tilesPalette_walk (a0 : Option Addr) (len0 cap0 : Nat) (a1 a2 : Int) (w : World) (w0 : IsStructs [some .i64, some .i64] w a0 len0 cap0) (w1 : (Lit.int .i64 a1).wf = true) (w2 : (Lit.int .i64 a2).wf = true) :
    Calls Try.prog 6 #[.slice a0 len0 cap0, .int .i64 a1, .int .i64 a2] w fun e w' => e = .returned (.bool true) ∧ Below w.heap.size w w' := by
  obtain ⟨pa, pw, hp⟩ := pokes_in w0
  by_cases h : a1 % 4096 = 0
  · exact palette_one a0 len0 cap0 a1 a2 (a2 % 8) pa pw w (hide hp) (by rw [and_4095]; exact h) (and_7 a2) (by omega) (by omega)
  · exact palette_all a0 len0 cap0 a1 a2 (a1 % 4096) (a2 % 8) pa pw w (hide hp) (and_4095 a1) (and_7 a2) (by omega) (by omega) (by omega) (by omega)

set_option maxRecDepth 100000 in
theorem tilesPalette_lifted (os : Os) (started : os.Started) (H : Type) (enc : TypeId × Value → H) :
    ReturnsInHanded {} Try.checked os 6 .any (Rows.tilesPaletteSpec.pre6 enc Try.prog Try.f6 Rows.tilesPaletteRow.domain false) (Rows.tilesPaletteSpec.post enc Try.prog Try.f6 false true false false) := by
  refine returnsInHanded_of_change (C := Try.checked) own started (by kernel_rfl) Try.func6
    (ChangeSpec.witness6 (enc := enc) (C := Try.checked) false ⟨#[], #[.slice none 0 0, .int .i64 0, .int .i64 0], []⟩ 8 (by kernel_rfl) (by kernel_rfl) (by kernel_rfl) (by kernel_rfl)) ?_
  intro W base args ds gs before hval0 hW hcnd _
  have hval : ∀ (j : Nat) t v, Try.f6.params[j]? = some t → args[j]? = some v → Value.okWide Try.prog W .any base t v := hval0
  have hW' := hW
  obtain ⟨p, q, hA0, hV, rfl, hfz, hnd⟩ := hW
  have hA : DataW.TrodAll enc Try.prog W 0 (fun _ => true) true Try.f6.params.toList args.toList ds p := hA0
  rw [Try.params6] at hA hval
  obtain ⟨v0, vs0, d0, ds0, p0, q0, hargs, rfl, rfl, h0, r0⟩ := trodAll_cons hA
  obtain ⟨v1, vs1, d1, ds1, p1, q1, rfl, rfl, rfl, h1, r1⟩ := trodAll_cons r0
  obtain ⟨v2, vs2, d2, ds2, p2, q2, rfl, rfl, rfl, h2, r2⟩ := trodAll_cons r1
  obtain ⟨rfl, rfl, rfl⟩ := trodAll_nil r2
  obtain rfl : args = #[v0, v1, v2] := by cases args; simp_all
  obtain ⟨rfl, rfl⟩ := trodVars_none hV
  obtain ⟨a0, len0, cap0, rfl⟩ := okWide_slice Try.underlying22 (hval 0 22 v0 rfl rfl)
  have k0 := h0
  have lt0 : ∀ x ∈ p0, x.block < W.heap.size := by obtain ⟨m, hm⟩ := k0; exact DataW.trod_lt m _ _ _ hm
  have w0 : IsStructs [some .i64, some .i64] W a0 len0 cap0 := open_structs Try.underlying22 Try.underlying31 (by kernel_rfl) (fun j k hk => by
    rcases j with _ | _ | j
    · cases hk; exact ⟨_, rfl, rfl, by kernel_rfl, Try.underlying3⟩
    · cases hk; exact ⟨_, rfl, rfl, by kernel_rfl, Try.underlying3⟩
    · simp at hk) h0
  obtain ⟨a1, rfl, rfl, rfl, w1⟩ := open_int Try.underlying3 (hval 1 3 v1 rfl rfl) h1
  obtain ⟨a2, rfl, rfl, rfl, w2⟩ := open_int Try.underlying3 (hval 2 3 v2 rfl rfl) h2
  clear hA0 hval0
  refine (tilesPalette_walk a0 len0 cap0 a1 a2 W w0 w1 w2).mono fun e W' ⟨he, bel⟩ => ?_
  subst he
  exact ⟨_, rfl, _, _, _, [], _, [], hW', trodAll_mk1 (shut_bool Try.underlying4 _), (trodAll_cons_mk (Below.trod laidOut (by kernel_rfl) (of_decide_eq_true (by kernel_rfl)) k0 bel lt0) (trodAll_cons_mk (shut_int Try.underlying3 w1) (trodAll_cons_mk (shut_int Try.underlying3 w2) trodAll_mk0))), rfl, bel.frame _, fun h => by cases h⟩

theorem tilesPalette_over : Rows.tilesPaletteRow.holds Try.pinned (OpenSpec.ofChange Rows.tilesPaletteSpec) :=
  OpenClaim.holds_of_wide 6 Try.f6 rfl rfl rfl rfl rfl rfl rfl ⟨rfl, rfl, rfl, rfl, rfl⟩ rfl rfl rfl rfl rfl (by kernel_rfl) Try.func6 (by kernel_rfl)
    (of_decide_eq_true (by kernel_rfl)) (by unfold Func.isWrapper; first | (rw [if_pos (by decide +kernel)]; kernel_rfl) | (rw [if_neg (by decide +kernel)]; exact ⟨rfl, rfl⟩))
    (fun os started H enc _ => tilesPalette_lifted os started H enc)

theorem tilesPalette_holds : Rows.TilesPaletteSaid := tilesPalette_over
#print axioms tilesPalette_holds

end Go.Proofs.Ytfimdekbpieifaa
