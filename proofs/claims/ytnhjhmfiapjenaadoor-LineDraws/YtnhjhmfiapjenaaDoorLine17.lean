/- Package tiles: the contract of Line at video memory that a call made. -/
import Derived.Test.YtnhjhmfiapjenaaDoorRow17
import Derived.Test.YtnhjhmfiapjenaaDoorWordsW13
import Derived.Deep.RegionLaw
namespace Go.Proofs.YtnhjhmfiapjenaaDoor.T17
open Go.RowKit
set_option linter.unusedVariables false

theorem isNone_made (b : Nat) (f : Nat → Int) (wr rd st lo bu : Int) (w : World) (h : HasM w b true f wr rd st lo bu) : Calls Tryd.prog 30 #[.pointer (some ⟨b, 0, none⟩)] w fun e w' => e = .returned (.bool false) ∧ Below w.heap.size w w' := by
  have KW := hide (words_is b f wr rd st lo bu w h 0 1 0 rfl (by omega) (by omega))
  clear h
  go_enter Tryd.func30, Tryd.ntmps30
  go_wp2_with fail
  refine KW.out.mono ?_
  rintro e w1 ⟨rfl, _, b1⟩
  have B1 := hide b1
  clear b1
  go_wp2
  go_ret
  exact ⟨rfl, B1.out⟩
theorem cut_8 (b : Nat) (d : Int) (h0 : 0 ≤ d) (h1 : d < 8) (w : World) : (Instr.sliceAt 83 (.pointer (some ⟨b, 0, none⟩)) (some (.int .i64 d)) none none).run Tryd.prog w = .ok (.slice (some ⟨b, d.toNat, none⟩) (8 - d.toNat) (8 - d.toNat)) w := by
  have hl : Tryd.prog.arrayLen 83 = 8 := by kernel_rfl
  have he : Tryd.prog.elem 83 = 3 := by kernel_rfl
  rw [run_sliceAt_array_l w _ _ (by rw [hl, he]; exact Tryd.underlying83) .i64 d h0 (by rw [hl]; omega), hl, he, Tryd.sizeOf3]
  simp only [Result.andThen_ok, slicedAt, Nat.mul_one]
  rw [if_neg (by omega), add_none, Nat.zero_add]
theorem cut_cells {w : World} {b : Nat} {F : Int → Int} (h : Has8 w b (lineOf F 8)) (d L : Nat) (hL : d + L ≤ 8) : ∀ j v, (cutOf F d L)[j]? = some v → w.cell? (Addr.add ⟨b, d, none⟩ j) = some v := by
  intro j v hv
  obtain ⟨hj, _⟩ := List.getElem?_eq_some_iff.1 hv
  rw [cutOf_length] at hj
  rw [cutOf_at F d L j hj] at hv
  rw [← hv, add_none, cell_of_row w b (d + j) _ _ _ h, List.getElem?_toArray, lineOf_at F 8 (d + j) (by omega), Int.natCast_add]
theorem line_no (b : Nat) (f : Nat → Int) (wr rd st lo bu : Int) (w : World) (h : HasM w b true f wr rd st lo bu) (W H X Y y n : Int) (hn : n < 1 ∨ 512 < n) : Calls Tryd.prog 13 #[.pointer (some ⟨b, 0, none⟩), .agg #[.int .i64 W, .int .i64 H, .int .i64 X, .int .i64 Y], .int .i64 y, .int .i64 n] w fun e w' => e = .returned (.slice none 0 0) ∧ Below w.heap.size w w' := by
  have HM := hide h
  clear h
  by_cases hl : n < 1
  · clear hn
    have hd : decide (n < 1) = true := decide_eq_true hl
    have KN := hide (isNone_made b f wr rd st lo bu)
    go_enter Tryd.func13, Tryd.ntmps13
    go_wp2_with fail
    refine under_calls fun wa hwa => ?_
    have V0 := hide (show HasV wa w.heap.size W H X Y by rw [hwa]; exact heap_alloc_new _ _)
    have B0 := hide (show Below w.heap.size w wa by rw [hwa]; exact (Below.refl _ w).alloc (Nat.le_refl _) _)
    clear hwa
    obtain ⟨z, hz⟩ : ∃ z, w.heap.size = z := ⟨_, rfl⟩
    rw [hz] at V0 ⊢
    have HZ := hide hz
    clear hz
    refine (KN.out wa (HM.out.next B0.out)).mono ?_
    rintro e w1 ⟨rfl, b1⟩
    have V1 := hide (V0.out.next b1)
    have B1 := hide (bnext B0.out b1)
    clear b1 V0 B0 KN
    go_wp2_with fail
    go_ret
    exact ⟨rfl, B1.out⟩
  · have hg : decide (512 < n) = true := decide_eq_true (by omega)
    have hd : decide (n < 1) = false := decide_eq_false hl
    clear hn
    have KN := hide (isNone_made b f wr rd st lo bu)
    go_enter Tryd.func13, Tryd.ntmps13
    go_wp2_with fail
    refine under_calls fun wa hwa => ?_
    have V0 := hide (show HasV wa w.heap.size W H X Y by rw [hwa]; exact heap_alloc_new _ _)
    have B0 := hide (show Below w.heap.size w wa by rw [hwa]; exact (Below.refl _ w).alloc (Nat.le_refl _) _)
    clear hwa
    obtain ⟨z, hz⟩ : ∃ z, w.heap.size = z := ⟨_, rfl⟩
    rw [hz] at V0 ⊢
    have HZ := hide hz
    clear hz
    refine (KN.out wa (HM.out.next B0.out)).mono ?_
    rintro e w1 ⟨rfl, b1⟩
    have V1 := hide (V0.out.next b1)
    have B1 := hide (bnext B0.out b1)
    clear b1 V0 B0 KN
    go_wp2_with fail
    go_ret
    exact ⟨rfl, B1.out⟩
set_option maxHeartbeats 1000000 in
theorem line_zero (b : Nat) (f : Nat → Int) (wr rd st lo bu : Int) (w : World) (h : HasM w b true f wr rd st lo bu) (F : Int → Int) (W H X Y y : Int) (N : Nat) (hN0 : 1 ≤ N) (hN1 : N ≤ 512) (hm : okMap W H = false) (hF : Hid (∀ j, F j = 0)) : Calls Tryd.prog 13 #[.pointer (some ⟨b, 0, none⟩), .agg #[.int .i64 W, .int .i64 H, .int .i64 X, .int .i64 Y], .int .i64 y, .int .i64 (N : Int)] w fun e w' => ∃ g, w.heap.size ≤ g ∧ e = .returned (.slice (some ⟨g, 0, none⟩) N N) ∧ HasRow w' g (lineOf F N) ∧ Below w.heap.size w w' := by
  have HM := hide h
  clear h
  have hmk := make_ints (N : Int) (by omega) (by omega)
  simp only [Int.toNat_natCast] at hmk
  have KN := hide (isNone_made b f wr rd st lo bu)
  go_enter Tryd.func13, Tryd.ntmps13
  go_wp2_with fail
  refine under_calls fun wa hwa => ?_
  have V0 := hide (show HasV wa w.heap.size W H X Y by rw [hwa]; exact heap_alloc_new _ _)
  have B0 := hide (show Below w.heap.size w wa by rw [hwa]; exact (Below.refl _ w).alloc (Nat.le_refl _) _)
  clear hwa
  obtain ⟨z, hz⟩ : ∃ z, w.heap.size = z := ⟨_, rfl⟩
  rw [hz] at V0 ⊢
  have HZ := hide hz
  clear hz
  refine (KN.out wa (HM.out.next B0.out)).mono ?_
  rintro e w1 ⟨rfl, b1⟩
  have V1 := hide (V0.out.next b1)
  have B1 := hide (bnext B0.out b1)
  clear b1 V0 B0 KN
  go_wp2_with (first | (refine wpList_load_row rfl 55 (.tmp 5) rfl z rfl _ _ _ _ (V1.out.next ((Below.refl _ w1).alloc (Nat.le_refl _) _)) Tryd.underlying55 rfl (by kernel_rfl) ?_))
  refine under_calls fun w2 hw2 => ?_
  have n2 : Below w1.heap.size w1 w2 := by rw [hw2]; exact (Below.refl _ w1).alloc (Nat.le_refl _) _
  have G2 := hide (show HasRow w2 w1.heap.size (zerosL N) by rw [hw2]; exact heap_alloc_new _ _)
  have V2 := hide (V1.out.next n2)
  have B2 := hide (bnext B1.out n2)
  have HG := hide (show w.heap.size ≤ z ∧ z < w1.heap.size from ⟨Nat.le_of_eq HZ.out, V1.out.lt⟩)
  clear hw2 n2 V1 B1 HZ hmk
  obtain ⟨g, hg⟩ : ∃ g, w1.heap.size = g := ⟨_, rfl⟩
  rw [hg] at G2 HG ⊢
  clear hg
  refine (isMap_any W H X Y w2).mono ?_
  rintro e w3 ⟨rfl, b3⟩
  rw [hm]
  have V3 := hide (V2.out.next b3)
  have G3 := hide (G2.out.next b3)
  have B3 := hide (bnext B2.out b3)
  clear b3 V2 G2 B2
  go_wp2
  go_ret
  refine ⟨g, Nat.le_trans HG.out.1 (Nat.le_of_lt HG.out.2), rfl, ?_, B3.out⟩
  rw [← lineTo_all, show lineTo F N N = zerosL N from ext_at (lineTo_length _ _ _) (zerosL_length _) fun j hj => by rw [lineTo_at _ _ _ _ hj, zerosL_at _ _ hj, hF.out]; simp]
  exact G3.out
set_option maxHeartbeats 2000000 in
theorem line_map (b : Nat) (f : Nat → Int) (wr rd st lo bu : Int) (w : World) (h : HasM w b true f wr rd st lo bu) (F : Int → Int) (hf : Words (wordAt f)) (W H X Y y r : Int) (N : Nat) (hN0 : 1 ≤ N) (hN1 : N ≤ 512) (hm : okMap W H = true) (hW : W = 32 ∨ W = 64 ∨ W = 128) (hH : H = 32 ∨ H = 64) (hr : onOf Y y H = r) (hF : Hid (∀ j, F j = pixelG (wordAt f) W H X Y j y)) : Calls Tryd.prog 13 #[.pointer (some ⟨b, 0, none⟩), .agg #[.int .i64 W, .int .i64 H, .int .i64 X, .int .i64 Y], .int .i64 y, .int .i64 (N : Int)] w fun e w' => ∃ g, w.heap.size ≤ g ∧ e = .returned (.slice (some ⟨g, 0, none⟩) N N) ∧ HasRow w' g (lineOf F N) ∧ Below w.heap.size w w' := by
  have HM := hide h
  have HW := hide hf
  have hrb := onOf_le Y y H (by omega)
  rw [hr] at hrb
  have HR := hide (show onOf Y y H = r ∧ 0 ≤ r ∧ r < 512 from ⟨hr, by omega, by omega⟩)
  have HH := hide (show (W = 32 ∨ W = 64 ∨ W = 128) ∧ (H = 32 ∨ H = 64) from ⟨hW, hH⟩)
  have HK := hide hm
  clear h hf hr hrb hW hH
  have hmk := make_ints (N : Int) (by omega) (by omega)
  simp only [Int.toNat_natCast] at hmk
  have KN := hide (isNone_made b f wr rd st lo bu)
  go_enter Tryd.func13, Tryd.ntmps13
  go_wp2_with fail
  refine under_calls fun wa hwa => ?_
  have V0 := hide (show HasV wa w.heap.size W H X Y by rw [hwa]; exact heap_alloc_new _ _)
  have B0 := hide (show Below w.heap.size w wa by rw [hwa]; exact (Below.refl _ w).alloc (Nat.le_refl _) _)
  clear hwa
  obtain ⟨z, hz⟩ : ∃ z, w.heap.size = z := ⟨_, rfl⟩
  rw [hz] at V0 ⊢
  have HZ := hide hz
  clear hz
  refine (KN.out wa (HM.out.next B0.out)).mono ?_
  rintro e w1 ⟨rfl, b1⟩
  have V1 := hide (V0.out.next b1)
  have B1 := hide (bnext B0.out b1)
  clear b1 V0 B0 KN
  go_wp2_with (first | (refine wpList_load_row rfl 55 (.tmp 5) rfl z rfl _ _ _ _ (V1.out.next ((Below.refl _ w1).alloc (Nat.le_refl _) _)) Tryd.underlying55 rfl (by kernel_rfl) ?_))
  refine under_calls fun w2 hw2 => ?_
  have n2 : Below w1.heap.size w1 w2 := by rw [hw2]; exact (Below.refl _ w1).alloc (Nat.le_refl _) _
  have G2 := hide (show HasRow w2 w1.heap.size (zerosL N) by rw [hw2]; exact heap_alloc_new _ _)
  have V2 := hide (V1.out.next n2)
  have B2 := hide (bnext B1.out n2)
  have HG := hide (show w.heap.size ≤ z ∧ z < w1.heap.size from ⟨Nat.le_of_eq HZ.out, V1.out.lt⟩)
  clear hw2 n2 V1 B1 HZ hmk
  obtain ⟨g, hg⟩ : ∃ g, w1.heap.size = g := ⟨_, rfl⟩
  rw [hg] at G2 HG ⊢
  clear hg
  refine (isMap_any W H X Y w2).mono ?_
  rintro e w3 ⟨rfl, b3⟩
  rw [hm]
  have V3 := hide (V2.out.next b3)
  have G3 := hide (G2.out.next b3)
  have B3 := hide (bnext B2.out b3)
  clear b3 V2 G2 B2
  rw [← lineTo_zero F N] at G3
  go_wp2_with fail
  have hd1 : decide ((N : Int) < 1) = false := decide_eq_false (by omega)
  have hd2 : decide ((512 : Int) < N) = false := decide_eq_false (by omega)
  try simp only [hd1, hd2, Bool.or_false]
  clear hd1 hd2
  go_loopw [10] (fun sx wr => ∃ k : Nat, k ≤ N ∧ sx = .int .i64 (k : Int) ∧ HasRow wr g (lineTo F k N) ∧ HasV wr z W H X Y ∧ Below w.heap.size w wr) (fun sx _ => N - (intOf sx).toNat)
  case atStart => exact ⟨0, Nat.zero_le _, rfl, G3.out, V3.out, B3.out⟩
  case round =>
    obtain ⟨k, hk, rfl, hp, hz, hb⟩ := hrel
    have GK := hide hp
    have VK := hide hz
    have BK := hide hb
    clear hp hz hb G3 V3 B3
    by_cases hlt : k < N
    · obtain ⟨p, hp⟩ : ∃ p, onOf X (k : Int) W = p := ⟨_, rfl⟩
      have hpb : 0 ≤ p ∧ p < 1024 := by
        have h1 := HH.out.1
        have h2 := onOf_le X (k : Int) W (by omega)
        rw [hp] at h2
        omega
      have KM := hide (onMap_any W H X Y (k : Int) y p r (by have := HH.out.1; omega) (by have := HH.out.1; omega) (by have := HH.out.2; omega) (by have := HH.out.2; omega) hp HR.out.1)
      have KR := hide (row_is (some ⟨b, 0, none⟩) (wordAt f) (pixG (wordAt f) W p r) HW.out W H X Y p r (by have := HH.out.1; omega) (by have := HH.out.1; omega) hpb.1 hpb.2 HR.out.2.1 HR.out.2.2 (fun j => rfl))
      obtain ⟨d, hd⟩ : ∃ d, p % 8 = d := ⟨_, rfl⟩
      have ed : Int.tmod p 8 = d := by rw [Int.tmod_eq_emod_of_nonneg hpb.1]; exact hd
      have hd0 : 0 ≤ d := by omega
      have hd1 : d < 8 := by omega
      obtain ⟨G, hG⟩ : ∃ G, pixG (wordAt f) W p r = G := ⟨_, rfl⟩
      rw [hG] at KR
      obtain ⟨l, hl⟩ : ∃ l, Nat.min (8 - d.toNat) (N - k) = l := ⟨_, rfl⟩
      have hl0 : 1 ≤ l ∧ k + l ≤ N ∧ d.toNat + l ≤ 8 := by rw [← hl]; simp only [Nat.min_def]; split <;> omega
      have HS := hide (show splice (lineTo F k N) k (cutOf G d.toNat l) = lineTo F (k + l) N from lineTo_splice F G k d.toNat l N hl0.2.1 (fun j hj => by
        rw [hF.out, pixelG_more (wordAt f) W H X Y (k : Int) y (j : Int) HK.out (by omega) (by omega) (by omega) (by rw [hp, hd]; omega), hp, HR.out.1, hd, ← hG, Int.toNat_of_nonneg hd0]))
      have XL : Hid ((cutOf G d.toNat l).length = Nat.min (8 - d.toNat) (N - k)) := by rw [hl]; exact cutOf_length _ _ _
      have XO := hide (cutOf_one G d.toNat l)
      have XF := hide (show k + (cutOf G d.toNat l).length ≤ (lineTo F k N).length by rw [cutOf_length, lineTo_length]; exact hl0.2.1)
      have XX := hide (cutOf_length G d.toNat l)
      have XC := hide (fun (u : World) (c : Nat) (hu : Has8 u c (lineOf G 8)) => cut_cells hu d.toNat l hl0.2.2)
      have HL := hide hl0
      have hl1 : 1 ≤ l := hl0.1
      have hl2 : k + l ≤ N := hl0.2.1
      clear hp hpb hd hG hl hl0
      go_wp2_with (first | (refine wpList_load_row rfl 55 (.tmp 5) rfl z rfl _ _ _ _ VK.out Tryd.underlying55 rfl (by kernel_rfl) ?_))
      refine (KM.out wr).mono ?_
      rintro e w4 ⟨rfl, b4⟩
      have V4 := hide (VK.out.next b4)
      have G4 := hide (GK.out.next b4)
      have B4 := hide (bnext BK.out b4)
      clear b4 VK GK BK KM
      go_wp2_with (first | (refine wpList_load_row rfl 55 (.tmp 5) rfl z rfl _ _ _ _ V4.out Tryd.underlying55 rfl (by kernel_rfl) ?_))
      refine (KR.out w4 (tells_made (HM.out.next B4.out))).mono ?_
      rintro e w5 ⟨rfl, b5⟩
      have V5 := hide (V4.out.next b5)
      have G5 := hide (G4.out.next b5)
      have B5 := hide (bnext B4.out b5)
      clear b5 V4 G4 B4 KR
      have I5 := hide (info_8 (lineOf G 8) (lineOf_length G 8))
      have T5 := hide (one_all (lineOf G 8) (lineOf_one G 8))
      have S5 := hide (show 8 = (lineOf G 8).toArray.size by rw [List.size_toArray, lineOf_length])
      go_wp2_with (first
        | (refine wpList_store_row rfl 83 (.tmp 13) (.tmp 44) rfl w5.heap.size _ rfl rfl 83 _ (heap_alloc_new _ _) I5.out S5.out T5.out ?_
           refine under_list fun w6 hw6 => ?_
           have n6 : Below w5.heap.size w5 w6 := by rw [hw6]; exact below_setRow ((Below.refl _ w5).alloc (Nat.le_refl _) _) (Nat.le_refl _) _
           have R6 := hide (show Has8 w6 w5.heap.size (lineOf G 8) by rw [hw6]; exact setRow_heap _ _ _ _ _ _ (heap_alloc_new _ _))
           clear hw6))
      have V6 := hide (V5.out.next n6)
      have G6 := hide (G5.out.next n6)
      have B6 := hide (bnext B5.out n6)
      clear n6 V5 G5 B5 I5 T5 S5
      obtain ⟨c, hc⟩ : ∃ c, w5.heap.size = c := ⟨_, rfl⟩
      rw [hc] at R6 ⊢
      clear hc
      have CR := cut_row g N (k : Int) (by omega) (by omega)
      simp only [Int.toNat_natCast] at CR
      have C8 := cut_8 c d hd0 hd1
      have XS := hide (XC.out w6 c R6.out)
      have B0 := hide (show Below g w6 w6.drew from (Below.refl _ _).drew)
      simp only [Act.put]
      go_region_law (refine step_copy_splice rfl (.tmp 48) (.tmp 51) 23 23 rfl 3 Tryd.underlying23 (by kernel_rfl) (some ⟨g, k, none⟩) (some ⟨c, d.toNat, none⟩) (N - k) (N - k) (8 - d.toNat) (8 - d.toNat) (by simp [Act.eval, Act.put]) (by simp [Act.eval, Act.put]) g k (lineTo F k N) 3 G6.out (cutOf G d.toNat l) XL.out (fun _ => ⟨rfl, _, rfl, XS.out⟩) XF.out XO.out g w6 B0.out (Nat.le_refl _) ?_; intro w7 hg7 hb7)
      rw [XX.out, i64_small ((k : Int) + (l : Int)) (by omega) (by omega)]
      have G7 := hide (show HasRow w7 g (lineTo F (k + l) N) by have hh := hg7.out; rw [HS.out] at hh; exact hh)
      have V7 := hide (show HasV w7 z W H X Y from (hb7.block z HG.out.2).trans V6.out)
      have B7 := hide (show Below w.heap.size w w7 from B6.out.trans (hb7.mono (Nat.le_trans HG.out.1 (Nat.le_of_lt HG.out.2))))
      clear hg7 hb7 B0 XS G6 V6 B6 R6 XL XO XF XX XC HS
      simp only [Act.put, List.getElem_toArray, List.getElem_cons_succ, List.getElem_cons_zero, List.setIfInBounds_toArray, List.set_cons_succ, List.set_cons_zero]
      go_wp2_with fail
      go_roundw
      case rel => exact ⟨k + l, by omega, by go_num, G7.out, V7.out, B7.out⟩
      case measure => simp [intOf]; omega
    · obtain rfl : k = N := by omega
      go_wp2_with fail
      go_ret
      exact ⟨g, Nat.le_trans HG.out.1 (Nat.le_of_lt HG.out.2), rfl, by rw [← lineTo_all]; exact GK.out, BK.out⟩
/-- What Line tells of video memory that a call made. -/
theorem line_is (b : Nat) (f : Nat → Int) (wr rd st lo bu : Int) (w : World) (h : HasM w b true f wr rd st lo bu) (F : Int → Int) (hf : Words (wordAt f)) (W H X Y y : Int) (N : Nat) (hN0 : 1 ≤ N) (hN1 : N ≤ 512) (hF : ∀ j, F j = pixelG (wordAt f) W H X Y j y) : Calls Tryd.prog 13 #[.pointer (some ⟨b, 0, none⟩), .agg #[.int .i64 W, .int .i64 H, .int .i64 X, .int .i64 Y], .int .i64 y, .int .i64 (N : Int)] w fun e w' => ∃ g, w.heap.size ≤ g ∧ e = .returned (.slice (some ⟨g, 0, none⟩) N N) ∧ HasRow w' g (lineOf F N) ∧ Below w.heap.size w w' := by
  by_cases hm : okMap W H = true
  · have k := (okMap_iff W H).1 hm
    exact line_map b f wr rd st lo bu w h F hf W H X Y y _ N hN0 hN1 hm k.1 k.2 rfl (hide hF)
  · exact line_zero b f wr rd st lo bu w h F W H X Y y N hN0 hN1 (by simpa using hm) (hide fun j => by rw [hF]; unfold pixelG; rw [if_neg hm])
end Go.Proofs.YtnhjhmfiapjenaaDoor.T17
