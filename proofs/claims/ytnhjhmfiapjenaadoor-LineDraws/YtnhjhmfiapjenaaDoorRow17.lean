/- Package tiles: the contracts of row and Pixel, over words that are told. -/
import Derived.Test.YtnhjhmfiapjenaaDoorTiles17
import Derived.Test.YtnhjhmfiapjenaaDoorTells
namespace Go.Proofs.YtnhjhmfiapjenaaDoor.T17
open Go.RowKit
set_option linter.unusedVariables false

/-- Block b holds an array of eight numbers. -/
def Has8 (w : World) (b : Nat) (l : List Value) : Prop := w.heap[b]? = some (.cells l.toArray 83 (0, 0))
theorem Has8.next {w w' : World} {b : Nat} {l : List Value} (h : Has8 w b l) (k : Below w.heap.size w w') : Has8 w' b l := (k.block b (lt_of_block h)).trans h
theorem and_4095 (n : Int) : bits .and .i64 n 4095 = n % 4096 := and_mask 12 (by decide) n
theorem info_8 (l : List Value) (h : l.length = 8) : (Tryd.prog.info? 83).map (·.size) = some l.toArray.size := by
  rw [List.size_toArray, h]
  kernel_rfl
set_option maxHeartbeats 1000000 in
theorem row_core (q : Option Addr) (g F : Int → Int) (W H X Y p r p8 r8 r7 m c t a b : Int) (w : World) (HT : Hid (Tells q g w)) (ep : Int.tdiv p 8 = p8) (er : Int.tdiv r 8 = r8) (e7 : Int.tmod r 8 = r7) (em : wrap64 (r8 * W) = m) (et : bits .and .i64 c 4095 = t)
    (hm0 : 0 ≤ m) (hm1 : m ≤ 8192) (hr0 : 0 ≤ r8) (hr1 : r8 < 64) (hp0 : 0 ≤ p8) (hp1 : p8 < 128) (h70 : 0 ≤ r7) (h71 : r7 < 8) (ht0 : 0 ≤ t) (ht1 : t < 4096) (hc0 : 0 ≤ c) (hc1 : c < 65536) (gc : Hid (g (m + p8) = c)) (ga : Hid (g (t * 16 + r7) = a)) (gb : Hid (g (t * 16 + r7 + 8) = b)) (hF : Hid (∀ j, F j = pixC c a b (7 - j))) :
    Calls Tryd.prog 33 #[.pointer q, .agg #[.int .i64 W, .int .i64 H, .int .i64 X, .int .i64 Y], .int .i64 p, .int .i64 r] w fun e w' => e = .returned (.agg (lineOf F 8).toArray) ∧ Below w.heap.size w w' := by
  go_enter Tryd.func33, Tryd.ntmps33
  go_wp2_with fail
  refine under_calls fun wa hwa => ?_
  obtain ⟨_, b1, hs, BB⟩ := two_named hwa
  have BA := hide BB
  have R1 := hide (show Has8 wa (w.heap.size + 1) (zerosL 8) from b1)
  have HS := hide hs
  clear hwa b1 hs BB
  have K1 := hide (HT.out wa BA.out (m + p8))
  have K2 := hide (HT.out wa BA.out (t * 16 + r7))
  have K3 := hide (HT.out wa BA.out (t * 16 + r7 + 8))
  rw [gc.out] at K1
  rw [ga.out] at K2
  rw [gb.out] at K3
  clear gc ga gb HT
  refine K1.out.mono ?_
  rintro e w' ⟨rfl, hw⟩
  subst w'
  go_wp2_with fail
  refine K2.out.mono ?_
  rintro e w' ⟨rfl, hw⟩
  subst w'
  go_wp2_with fail
  refine K3.out.mono ?_
  rintro e w' ⟨rfl, hw⟩
  subst w'
  clear K1 K2 K3
  obtain ⟨z, hz⟩ : ∃ z, w.heap.size + 1 = z := ⟨_, rfl⟩
  rw [hz] at R1 HS ⊢
  have HZ := hide (show w.heap.size ≤ z by omega)
  clear hz
  go_wp2_with fail
  refine under_name fun wb hwb => ?_
  have n1 : Below wa.heap.size wa wb := by rw [hwb]; exact (Below.refl _ wa).alloc (Nat.le_refl _) _
  have P1 := hide (show Has8 wb wa.heap.size (zerosL 8) by rw [hwb]; exact heap_alloc_new _ _)
  have R2 := hide (R1.out.next n1)
  have B2 := hide (bnext BA.out n1)
  have HY := hide (show w.heap.size ≤ wa.heap.size ∧ z ≠ wa.heap.size by have := HS.out; have := HZ.out; omega)
  clear hwb n1 R1 BA HS
  obtain ⟨y, hy⟩ : ∃ y, wa.heap.size = y := ⟨_, rfl⟩
  rw [hy] at P1 HY ⊢
  clear hy
  rw [← lineTo_zero F 8] at P1
  have e12 : 0 ≤ c / 4096 * 16 ∧ c / 4096 * 16 ≤ 240 := by omega
  obtain ⟨pal, hpal⟩ : ∃ pal, c / 4096 * 16 = pal := ⟨_, rfl⟩
  rw [hpal] at e12 ⊢
  have HP := hide hpal
  clear hpal et
  go_loopw [43] (fun i wr => ∃ k : Nat, k ≤ 8 ∧ i = .int .i64 (k : Int) ∧ Has8 wr y (lineTo F k 8) ∧ Has8 wr z (zerosL 8) ∧ Below w.heap.size w wr) (fun i _ => 8 - (intOf i).toNat)
  case atStart => exact ⟨0, Nat.zero_le _, rfl, P1.out, R2.out, B2.out⟩
  case round =>
    obtain ⟨k, hk, rfl, hp, hz, hb⟩ := hrel
    have PK := hide hp
    have ZK := hide hz
    have BK := hide hb
    clear hp hz hb P1 R2 B2
    by_cases hlt : k < 8
    · obtain ⟨x, hx⟩ : ∃ x, colorOf a b (7 - k) = x := ⟨_, rfl⟩
      have KC := hide (colour_any a b (7 - k) x (by omega) (by omega) hx wr)
      have x01 : 0 ≤ x ∧ x ≤ 15 := by rw [← hx]; exact colorOf_le _ _ _
      have FK := hide (show F (k : Int) = if x = 0 then 0 else pal + x by rw [hF.out, ← HP.out, ← hx]; rfl)
      clear hx
      by_cases h0 : x = 0
      · go_wp2_with (first | (go_at_call 52; refine KC.out.mono ?_; rintro e w' ⟨rfl, hw⟩; subst w'))
        go_roundw
        case rel => exact ⟨k + 1, by omega, by go_num, by rw [← lineTo_next F k 8 (by rw [FK.out, if_pos h0])]; exact PK.out, ZK.out, BK.out⟩
        case measure => simp [intOf]; omega
      · have cj : wr.cell? ⟨y, k, none⟩ = some (.int .i64 0) := by
          rw [cell_of_row wr y k _ _ _ PK.out, List.getElem?_toArray, lineTo_at F k 8 k hlt, if_neg (by omega)]
        have zj : wr.frozen? ⟨y, k, none⟩ = false := frozen_of_row wr y k _ _ PK.out
        go_wp2_with (first | (go_at_call 52; refine KC.out.mono ?_; rintro e w' ⟨rfl, hw⟩; subst w'))
        go_roundw
        case rel =>
          refine ⟨k + 1, by omega, by go_num, ?_, ?_, ?_⟩
          · have hh := heap_setCell_same wr y k _ _ (.int .i64 (pal + x)) PK.out
            rw [List.setIfInBounds_toArray, show pal + x = F (k : Int) by rw [FK.out, if_neg h0], lineTo_set F k 8 hlt] at hh
            rw [show pal + x = F (k : Int) by rw [FK.out, if_neg h0]]
            exact hh
          · exact (Below.heap_setCell _ _ _ _ HY.out.2).trans ZK.out
          · exact BK.out.setCell (p := ⟨y, k, none⟩) HY.out.1 _
        case measure => simp [intOf]; omega
    · obtain rfl : k = 8 := by omega
      rw [lineTo_all] at PK
      have I5 := hide (info_8 (lineOf F 8) (lineOf_length F 8))
      have T5 := hide (one_all (lineOf F 8) (lineOf_one F 8))
      have S5 := hide (show (zerosL 8).toArray.size = (lineOf F 8).toArray.size by rw [List.size_toArray, List.size_toArray, zerosL_length, lineOf_length])
      obtain ⟨L, hL⟩ : ∃ L, lineOf F 8 = L := ⟨_, rfl⟩
      rw [hL] at PK I5 T5 S5
      have HL := hide hL
      clear hL
      go_wp2_with (first
        | (refine wpList_load_row rfl 83 (.tmp 14) rfl y rfl _ _ _ _ PK.out Tryd.underlying83 rfl I5.out ?_)
        | (refine wpList_store_row rfl 83 (.tmp 8) (.tmp 59) rfl z _ rfl rfl 83 _ ZK.out I5.out S5.out T5.out ?_)
        | (refine bodyPost_ret (results_cell_row rfl _ _ z 83 _ (0, 0) _ rfl (setRow_heap _ _ _ _ _ _ ZK.out) Tryd.underlying83 rfl I5.out) rfl ⟨by rw [HL.out], below_setRow BK.out HZ.out _⟩))
theorem row_is (q : Option Addr) (g F : Int → Int) (hg : Words g) (W H X Y p r : Int) (hW : 0 < W) (hW1 : W ≤ 128) (hp0 : 0 ≤ p) (hp1 : p < 1024) (hr0 : 0 ≤ r) (hr1 : r < 512) (hF : ∀ j, pixG g W p r j = F j) (w : World) (ht : Tells q g w) :
    Calls Tryd.prog 33 #[.pointer q, .agg #[.int .i64 W, .int .i64 H, .int .i64 X, .int .i64 Y], .int .i64 p, .int .i64 r] w fun e w' => e = .returned (.agg (lineOf F 8).toArray) ∧ Below w.heap.size w w' := by
  have hm0 : 0 ≤ r / 8 * W := Int.mul_nonneg (by omega) (by omega)
  have hm1 : r / 8 * W ≤ 63 * 128 := Int.mul_le_mul (by omega) hW1 (by omega) (by omega)
  have hc := hg (r / 8 * W + p / 8)
  refine row_core q g F W H X Y p r (p / 8) (r / 8) (r % 8) (r / 8 * W) (cellG g W p r) (cellG g W p r % 4096) _ _ w (hide ht) (Int.tdiv_eq_ediv_of_nonneg hp0) (Int.tdiv_eq_ediv_of_nonneg hr0) (Int.tmod_eq_emod_of_nonneg hr0) ?_ (and_4095 _) hm0 (by omega) (by omega) (by omega) (by omega) (by omega) (by omega) (by omega) (by omega) (by omega) hc.1 hc.2 (hide rfl) (hide rfl) (hide rfl) (hide fun j => (hF j).symm)
  unfold wrap64
  omega
end Go.Proofs.YtnhjhmfiapjenaaDoor.T17
