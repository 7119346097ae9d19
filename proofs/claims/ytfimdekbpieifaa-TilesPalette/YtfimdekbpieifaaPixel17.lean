/- Package tiles: the contract of Pixel, over words that are told. -/
import Derived.Test.YtfimdekbpieifaaRow17
namespace Go.Proofs.Ytfimdekbpieifaa
open Go.RowKit
set_option linter.unusedVariables false

theorem pixel_no (q : Option Addr) (W H X Y x y v : Int) (hm : okMap W H = false) (hv : 0 = v) (w : World) : Calls Try.prog 9 #[.pointer q, .agg #[.int .i64 W, .int .i64 H, .int .i64 X, .int .i64 Y], .int .i64 x, .int .i64 y] w fun e w' => e = .returned (.int .i64 v) ∧ Below w.heap.size w w' := by
  subst hv
  go_enter Try.func9, Try.ntmps9
  go_wp2_with fail
  refine under_calls fun wa hwa => ?_
  have V0 := hide (show HasV wa w.heap.size W H X Y by rw [hwa]; exact heap_alloc_new _ _)
  have B0 := hide (show Below w.heap.size w wa by rw [hwa]; exact (Below.refl _ w).alloc (Nat.le_refl _) _)
  clear hwa
  obtain ⟨z, hz⟩ : ∃ z, w.heap.size = z := ⟨_, rfl⟩
  rw [hz] at V0 ⊢
  clear hz
  refine (isMap_any W H X Y wa).mono ?_
  rintro e w1 ⟨rfl, b1⟩
  rw [hm]
  have V1 := hide (V0.out.next b1)
  have B1 := hide (bnext B0.out b1)
  clear b1 V0 B0
  go_wp2
  go_ret
  exact ⟨rfl, B1.out⟩
set_option maxHeartbeats 1000000 in
theorem pixel_yes (q : Option Addr) (g F : Int → Int) (hg : Words g) (W H X Y x y v p r d : Int) (hm : okMap W H = true) (hW : W = 32 ∨ W = 64 ∨ W = 128) (hH : H = 32 ∨ H = 64) (hp : onOf X x W = p) (hr : onOf Y y H = r) (hd : Int.tmod p 8 = d) (hd0 : 0 ≤ d) (hd1 : d < 8) (hF : Hid (∀ j, pixG g W p r j = F j)) (hv : Hid (F d = v)) (w : World) (HT : Hid (Tells q g w)) : Calls Try.prog 9 #[.pointer q, .agg #[.int .i64 W, .int .i64 H, .int .i64 X, .int .i64 Y], .int .i64 x, .int .i64 y] w fun e w' => e = .returned (.int .i64 v) ∧ Below w.heap.size w w' := by
  have KM := hide (onMap_any W H X Y x y p r (by omega) (by omega) (by omega) (by omega) hp hr)
  have hpb := onOf_le X x W (by omega)
  have hrb := onOf_le Y y H (by omega)
  rw [hp] at hpb
  rw [hr] at hrb
  have KR := hide (row_is q g F hg W H X Y p r (by omega) (by omega) (by omega) (by omega) (by omega) (by omega) hF.out)
  clear hp hr hpb hrb hW hH
  go_enter Try.func9, Try.ntmps9
  go_wp2_with fail
  refine under_calls fun wa hwa => ?_
  have V0 := hide (show HasV wa w.heap.size W H X Y by rw [hwa]; exact heap_alloc_new _ _)
  have B0 := hide (show Below w.heap.size w wa by rw [hwa]; exact (Below.refl _ w).alloc (Nat.le_refl _) _)
  clear hwa
  obtain ⟨z, hz⟩ : ∃ z, w.heap.size = z := ⟨_, rfl⟩
  rw [hz] at V0 ⊢
  clear hz
  refine (isMap_any W H X Y wa).mono ?_
  rintro e w1 ⟨rfl, b1⟩
  rw [hm]
  have V1 := hide (V0.out.next b1)
  have B1 := hide (bnext B0.out b1)
  clear b1 V0 B0
  go_wp2_with (first | (refine wpList_load_row rfl 24 (.tmp 5) rfl z rfl _ _ _ _ V1.out Try.underlying24 rfl (by kernel_rfl) ?_))
  refine (KM.out w1).mono ?_
  rintro e w2 ⟨rfl, b2⟩
  have V2 := hide (V1.out.next b2)
  have B2 := hide (bnext B1.out b2)
  clear b2 V1 B1 KM
  go_wp2_with (first | (refine wpList_load_row rfl 24 (.tmp 5) rfl z rfl _ _ _ _ V2.out Try.underlying24 rfl (by kernel_rfl) ?_))
  refine (KR.out w2 (fun u hu n => HT.out u (bnext B2.out hu) n)).mono ?_
  rintro e w3 ⟨rfl, b3⟩
  have B3 := hide (bnext B2.out b3)
  clear b3 V2 B2 KR HT
  have I5 := hide (info_8 (lineOf F 8) (lineOf_length F 8))
  have T5 := hide (one_all (lineOf F 8) (lineOf_one F 8))
  have S5 := hide (show 8 = (lineOf F 8).toArray.size by rw [List.size_toArray, lineOf_length])
  have C5 := hide (show (lineOf F 8).toArray[d.toNat]? = some (.int .i64 v) by rw [List.getElem?_toArray, lineOf_at F 8 d.toNat (by omega), ← hv.out, Int.toNat_of_nonneg hd0])
  obtain ⟨L, hL⟩ : ∃ L, lineOf F 8 = L := ⟨_, rfl⟩
  rw [hL] at I5 T5 S5 C5 ⊢
  clear hL
  go_wp2_with (first
    | (refine wpList_store_row rfl 48 (.tmp 11) (.tmp 26) rfl w3.heap.size _ rfl rfl 48 _ (heap_alloc_new _ _) I5.out S5.out T5.out ?_
       refine under_list fun w4 hw4 => ?_
       have cj : w4.cell? ⟨w3.heap.size, d.toNat, none⟩ = some (.int .i64 v) := by
         rw [hw4]
         exact (cell_of_row _ _ _ _ _ _ (setRow_heap _ _ _ _ _ _ (heap_alloc_new _ _))).trans C5.out
       have B4 := hide (show Below w.heap.size w w4 by rw [hw4]; exact below_setRow (B3.out.alloc B3.out.size _) B3.out.size _)
       clear hw4))
  go_ret
  exact ⟨rfl, B4.out⟩
theorem pixel_is (q : Option Addr) (g : Int → Int) (hg : Words g) (W H X Y x y v : Int) (hv : pixelG g W H X Y x y = v) (w : World) (ht : Tells q g w) : Calls Try.prog 9 #[.pointer q, .agg #[.int .i64 W, .int .i64 H, .int .i64 X, .int .i64 Y], .int .i64 x, .int .i64 y] w fun e w' => e = .returned (.int .i64 v) ∧ Below w.heap.size w w' := by
  unfold pixelG at hv
  by_cases hm : okMap W H = true
  · rw [if_pos hm] at hv
    have h := (okMap_iff W H).1 hm
    have hb := onOf_le X x W (by omega)
    exact pixel_yes q g (pixG g W (onOf X x W) (onOf Y y H)) hg W H X Y x y v _ _ (onOf X x W % 8) hm h.1 h.2 rfl rfl (Int.tmod_eq_emod_of_nonneg hb.1) (by omega) (by omega) (hide fun j => rfl) (hide hv) w (hide ht)
  · rw [if_neg hm] at hv
    exact pixel_no q W H X Y x y v (by simpa using hm) hv w
end Go.Proofs.Ytfimdekbpieifaa
