/- SpritesLine, at the landed commit: whatever slice of words, slice of a table's words and array of two integers come in, the call returns true: any line of any sprites has the document's colours, and as many as it says; whether there were too many, and whether the first one touches another, is told. No condition but what the card says. -/
import Derived.Test.YtnlohhgogdiheaaDoorPics18
import Derived.Test.YtnlohhgogdiheaaDoorRLin18
import Derived.Test.YtnlohhgogdiheaaDoorFlip18
import Derived.Test.YtnlohhgogdiheaaDoorMade17
import Derived.Test.YtnlohhgogdiheaaDoorWant17
import Derived.Test.YtnlohhgogdiheaaDoorHighLaid
import Derived.Test.YtnlohhgogdiheaaDoorArrays
import Derived.Test.YtnlohhgogdiheaaDoorTie
import Derived.Test.YtnlohhgogdiheaaDoorCards
import Derived.BigQuiet
import Derived.SevenTiedAt
import Derived.OpenShut
import Derived.ShutString
import Derived.ChangeOld
namespace Go.Proofs.YtnlohhgogdiheaaDoor
open Go.ChangeShapes Go.WideShapes Go.ChangeAt Go.RowKit
open Go.ChangeMaps (open_string shut_string)
set_option linter.unusedVariables false

def oneM : Nat → Int := madeTo (fun _ => 0) (fun _ => 32768) 1
def fourL : Nat → Int := listT 4 [64, 32, 0, 3]
theorem pix_1 : colP (sprP 3) (pixS (wordAt oneM) (sprC 0 (sprW 3) (sprH 3)) (sprW 3) (sprH 3) (sprB 3 11) (sprB 3 15) 0 0) = 49 := by decide +kernel
theorem line_49 : ((runT (wordAt oneM) fourL 0 64).1 0).1 = 49 := by
  rw [runT_corner (wordAt oneM) fourL rfl rfl (fun j hj => by unfold fourL listT; rw [if_neg (by omega)]) 0 (by omega) (by decide +kernel) 0]
  show (if ((0 : Nat) : Int) < sprW 3 then _ else _) = _
  rw [if_pos (by decide +kernel)]
  exact pix_1
set_option maxHeartbeats 4000000 in
theorem sp_out (a0 : Option Addr) (len0 cap0 : Nat) (a1 : Option Addr) (len1 cap1 : Nat) (z1 : List Int) (y n : Int) (pa pw : Nat → Int) (w : World) (HR : Hid (IsPokes w a0 len0 pa pw)) (HW : Hid (IsRow .i64 w a1 len1 cap1 z1)) (HH : Hid (HasHigh w)) (hn : Hid (n < 1 ∨ 512 < n)) : Calls Tryd.prog 4 #[.slice a0 len0 cap0, .slice a1 len1 cap1, .agg #[.int .i64 y, .int .i64 n]] w fun e w' => e = .returned (.bool true) ∧ Below w.heap.size w w' := by
  set_option maxRecDepth 20000 in
  go_enter Tryd.func4, Tryd.ntmps4
  set_option maxRecDepth 20000 in
  go_wp2_with fail
  refine under_calls fun wa hwa => ?_
  have A1 := hide (show Has2 wa w.heap.size y n by rw [hwa]; exact heap_alloc_new _ _)
  have B1 := hide (show Below w.heap.size w wa by rw [hwa]; exact (Below.refl _ w).alloc (Nat.le_refl _) _)
  clear hwa
  obtain ⟨za, hza⟩ : ∃ z, w.heap.size = z := ⟨_, rfl⟩
  rw [hza] at A1 ⊢
  clear hza
  refine (made_is a0 len0 cap0 pa pw wa (HR.out.next B1.out)).mono ?_
  rintro e w2 ⟨g, c, d, rfl, k2⟩
  have WF := hide (words_made pa pw (min len0 80))
  generalize madeTo pa pw (min len0 80) = m at *
  have M2 := hide k2.2.1
  have D2 := hide k2.2.2.1
  have A2 := hide (A1.out.next k2.below)
  have B2 := hide (bnext B1.out k2.below)
  have R2 := hide (show IsRow .i64 w2 a1 len1 cap1 z1 from HW.out.next B2.out)
  clear k2 HR HW A1 B1
  set_option maxRecDepth 20000 in
  go_wp2_with fail
  refine (table_is a1 len1 cap1 z1 w2 R2.out).mono ?_
  rintro e w3 ⟨rfl, b3⟩
  generalize listT len1 z1 = T at *
  have M3 := hide (M2.out.next b3)
  have D3 := hide (D2.out.next b3)
  have A3 := hide (A2.out.next b3)
  have B3 := hide (bnext B2.out b3)
  clear b3 M2 D2 A2 B2 R2
  have I5 := hide (info_T T)
  have T5 := hide (tabL_one T)
  have S5 := hide (tabL_size (fun _ => 0) T)
  have N4 := hide (heap_alloc_new w3 (.cells (tabL fun _ => 0).toArray 23))
  set_option maxRecDepth 20000 in
  go_wp2_with (first
    | (refine wpList_alloced rfl 23 rfl _ zero_T ?_; simp only [Act.put, List.setIfInBounds_toArray, List.set_cons_succ, List.set_cons_zero])
    | (refine wpList_store_row rfl 23 (.tmp 9) (.tmp 29) rfl w3.heap.size _ rfl rfl 23 _ N4.out I5.out S5.out T5.out ?_
       refine under_list fun w4 hw4 => ?_
       have n4 : Below w3.heap.size w3 w4 := by rw [hw4]; exact below_setRow ((Below.refl _ w3).alloc (Nat.le_refl _) _) (Nat.le_refl _) _
       have V4 := hide (show HasTb w4 w3.heap.size T by rw [hw4]; exact setRow_heap _ _ _ _ _ _ N4.out)
       have M4 := hide (M3.out.next n4)
       have D4 := hide (D3.out.next n4)
       have A4 := hide (A3.out.next n4)
       have B4 := hide (bnext B3.out n4)
       have x0 := A4.out.c0
       have x1 := A4.out.c1
       clear hw4 N4 n4 M3 D3 A3 B3)
    | (refine wpList_load_row rfl 23 (.tmp 9) rfl w3.heap.size rfl _ _ _ _ V4.out Tryd.underlying23 rfl I5.out ?_))
  obtain ⟨zt, hzt⟩ : ∃ z, w3.heap.size = z := ⟨_, rfl⟩
  rw [hzt] at V4 ⊢
  clear hzt x0 x1 T5 S5
  refine (sline_no g m 0 0 1 0 0 w4 M4.out T y n hn.out).mono ?_
  rintro e w5 ⟨rfl, b5⟩
  have V5 := hide (V4.out.next b5)
  have D5 := hide (D4.out.next b5)
  have A5 := hide (A4.out.next b5)
  have B5 := hide (bnext B4.out b5)
  clear b5 M4 D4 A4 B4 V4
  have L5 := hide (V5.out.next ((Below.refl _ w5).alloc (Nat.le_refl _) (.cells #[.slice none 0 0, .slice none 0 0] 39)))
  have x0 := A5.out.c0
  have x1 := A5.out.c1
  have xl := A5.out.lt
  set_option maxRecDepth 20000 in
  go_wp2_with (first | (refine wpList_load_row rfl 23 (.tmp 9) rfl zt rfl _ _ _ _ L5.out Tryd.underlying23 rfl I5.out ?_))
  refine under_calls fun w6 hw6 => ?_
  have n6 : Below w5.heap.size w5 w6 := by rw [hw6]; exact (Below.refl _ w5).alloc (Nat.le_refl _) _
  have P6 := hide (show w6.heap[w5.heap.size]? = some (.cells #[.slice none 0 0, .slice none 0 0] 39 (0, 0)) by rw [hw6]; exact heap_alloc_new _ _)
  have D6 := hide (D5.out.next n6)
  have B6 := hide (bnext B5.out n6)
  clear hw6 n6 L5 x0 x1 xl V5 D5 A5 B5
  obtain ⟨zp, hzp⟩ : ∃ z, w5.heap.size = z := ⟨_, rfl⟩
  rw [hzp] at P6 ⊢
  clear hzp
  refine (rline_no c d m 0 0 1 0 0 w6 D6.out T y n hn.out).mono ?_
  rintro e w7 ⟨rfl, b7⟩
  have P7 := hide ((b7.block _ (lt_of_block P6.out)).trans P6.out)
  have B7 := hide (bnext B6.out b7)
  clear b7 P6 D6 B6
  set_option maxRecDepth 20000 in
  go_wp2_with fail
  refine under_calls fun w8 hw8 => ?_
  have n8 : Below w7.heap.size w7 w8 := by rw [hw8]; exact (Below.refl _ w7).alloc (Nat.le_refl _) _
  have P8 := hide (pokes_one (show w8.heap[w7.heap.size]? = some (.cells #[.int .i64 0, .int .i64 32768] 45 (0, 0)) by rw [hw8]; exact heap_alloc_new _ _))
  refine (made_is _ 1 1 (fun _ => 0) (fun _ => 32768) w8 P8.out).mono ?_
  rintro e w9 ⟨g2, c2, d2, rfl, k9⟩
  have M9 := hide (show HasM w9 g2 true oneM 0 0 1 0 0 from k9.2.1)
  have n9 := hide (bnext n8 k9.below)
  clear hw8 n8 k9 P8
  set_option maxRecDepth 20000 in
  go_wp2_with fail
  refine under_calls fun w10 hw10 => ?_
  have n10 : Below w9.heap.size w9 w10 := by rw [hw10]; exact (Below.refl _ w9).alloc (Nat.le_refl _) _
  have r10 : w10.heap[w9.heap.size]? = some (.cells #[.int .i64 64, .int .i64 32, .int .i64 0, .int .i64 3] 3 (0, 0)) := by rw [hw10]; exact heap_alloc_new _ _
  have IR : IsRow .i64 w10 (some ⟨w9.heap.size, 0, none⟩) 4 4 [64, 32, 0, 3] := .inr ⟨⟨w9.heap.size, 0, none⟩, rfl, by omega, by decide, rfl, fun i hi => by
    have hi2 : i < 4 := hi
    rw [add_none, Nat.zero_add, cell_of_row w10 _ i _ _ _ r10]
    rcases (show i = 0 ∨ i = 1 ∨ i = 2 ∨ i = 3 by omega) with rfl | rfl | rfl | rfl <;> rfl, by decide⟩
  refine (table_is _ 4 4 [64, 32, 0, 3] w10 IR).mono ?_
  rintro e w11 ⟨rfl, b11⟩
  have M11 := hide ((M9.out.next n10).next b11)
  have n11 := hide (bnext (bnext n9.out n10) b11)
  clear IR r10 hw10 n10 b11 M9 n9
  set_option maxRecDepth 20000 in
  go_wp2_with fail
  have CL : Calls Tryd.prog 13 #[.pointer (some ⟨g2, 0, none⟩), .agg (tabL fourL).toArray, .int .i64 0, .int .i64 1] w11 _ := sline_is g2 oneM 0 0 1 0 0 w11 M11.out (hide (HH.out.next (bnext B7.out n11.out))) (hide (words_made (fun _ => 0) (fun _ => 32768) 1)) fourL 0 1 1 rfl (by omega) (by omega)
  refine CL.mono ?_
  clear CL
  rintro e w12 ⟨cE, fE, _, rfl, s12, b12⟩
  have n12 := hide (bnext n11.out b12)
  have f0 := (s12.cj 0 (by omega)).trans (by rw [line_49])
  have fl := s12.lc
  clear s12 b12 M11 n11
  obtain ⟨v1, hv1⟩ : ∃ v, (runT (wordAt oneM) fourL 0 64).2.2 = v := ⟨_, rfl⟩
  obtain ⟨v2, hv2⟩ : ∃ v, anyHit 1 (runT (wordAt oneM) fourL 0 64).1 = v := ⟨_, rfl⟩
  rw [hv1, hv2]
  clear hv1 hv2
  have P12 := hide ((n12.out.block _ (lt_of_block P7.out)).trans P7.out)
  have B12 := hide (bnext B7.out n12.out)
  have p0 := (cell_of_row w12 zp 0 _ _ _ P12.out).trans rfl
  have p1 := (cell_of_row w12 zp 1 _ _ _ P12.out).trans rfl
  have pl := lt_of_block P12.out
  set_option maxRecDepth 20000 in
  go_wp2_with fail
  refine under_name fun wd hwd => ?_
  have B1 := hide (show Below w.heap.size w wd by rw [hwd]; exact B12.out.alloc B12.out.size _)
  clear hwd P12 B12 p0 p1 pl f0 fl
  go_loopw [22] (fun si wr => si = .int .i64 0 ∧ wr = wd) (fun _ _ => 0)
  case atStart => exact ⟨rfl, rfl⟩
  case round =>
    obtain ⟨rfl, hw⟩ := hrel
    subst hw
    set_option maxRecDepth 20000 in
    go_wp2_with fail
    go_ret
    exact ⟨rfl, B1.out⟩
set_option maxHeartbeats 4000000 in
theorem sp_in (a0 : Option Addr) (len0 cap0 : Nat) (a1 : Option Addr) (len1 cap1 : Nat) (z1 : List Int) (y : Int) (N : Nat) (hN0 : 1 ≤ N) (hN1 : N ≤ 512) (pa pw : Nat → Int) (w : World) (HR : Hid (IsPokes w a0 len0 pa pw)) (HW : Hid (IsRow .i64 w a1 len1 cap1 z1)) (HH : Hid (HasHigh w)) : Calls Tryd.prog 4 #[.slice a0 len0 cap0, .slice a1 len1 cap1, .agg #[.int .i64 y, .int .i64 (N : Int)]] w fun e w' => e = .returned (.bool true) ∧ Below w.heap.size w w' := by
  set_option maxRecDepth 20000 in
  go_enter Tryd.func4, Tryd.ntmps4
  set_option maxRecDepth 20000 in
  go_wp2_with fail
  refine under_calls fun wa hwa => ?_
  have A1 := hide (show Has2 wa w.heap.size y (N : Int) by rw [hwa]; exact heap_alloc_new _ _)
  have B1 := hide (show Below w.heap.size w wa by rw [hwa]; exact (Below.refl _ w).alloc (Nat.le_refl _) _)
  clear hwa
  obtain ⟨za, hza⟩ : ∃ z, w.heap.size = z := ⟨_, rfl⟩
  rw [hza] at A1 ⊢
  clear hza
  refine (made_is a0 len0 cap0 pa pw wa (HR.out.next B1.out)).mono ?_
  rintro e w2 ⟨g, c, d, rfl, k2⟩
  have WF := hide (words_made pa pw (min len0 80))
  generalize madeTo pa pw (min len0 80) = m at *
  have M2 := hide k2.2.1
  have D2 := hide k2.2.2.1
  have A2 := hide (A1.out.next k2.below)
  have B2 := hide (bnext B1.out k2.below)
  have R2 := hide (show IsRow .i64 w2 a1 len1 cap1 z1 from HW.out.next B2.out)
  clear k2 HR HW A1 B1
  set_option maxRecDepth 20000 in
  go_wp2_with fail
  refine (table_is a1 len1 cap1 z1 w2 R2.out).mono ?_
  rintro e w3 ⟨rfl, b3⟩
  generalize listT len1 z1 = T at *
  have M3 := hide (M2.out.next b3)
  have D3 := hide (D2.out.next b3)
  have A3 := hide (A2.out.next b3)
  have B3 := hide (bnext B2.out b3)
  clear b3 M2 D2 A2 B2 R2
  have I5 := hide (info_T T)
  have T5 := hide (tabL_one T)
  have S5 := hide (tabL_size (fun _ => 0) T)
  have N4 := hide (heap_alloc_new w3 (.cells (tabL fun _ => 0).toArray 23))
  set_option maxRecDepth 20000 in
  go_wp2_with (first
    | (refine wpList_alloced rfl 23 rfl _ zero_T ?_; simp only [Act.put, List.setIfInBounds_toArray, List.set_cons_succ, List.set_cons_zero])
    | (refine wpList_store_row rfl 23 (.tmp 9) (.tmp 29) rfl w3.heap.size _ rfl rfl 23 _ N4.out I5.out S5.out T5.out ?_
       refine under_list fun w4 hw4 => ?_
       have n4 : Below w3.heap.size w3 w4 := by rw [hw4]; exact below_setRow ((Below.refl _ w3).alloc (Nat.le_refl _) _) (Nat.le_refl _) _
       have V4 := hide (show HasTb w4 w3.heap.size T by rw [hw4]; exact setRow_heap _ _ _ _ _ _ N4.out)
       have M4 := hide (M3.out.next n4)
       have D4 := hide (D3.out.next n4)
       have A4 := hide (A3.out.next n4)
       have B4 := hide (bnext B3.out n4)
       have x0 := A4.out.c0
       have x1 := A4.out.c1
       clear hw4 N4 n4 M3 D3 A3 B3)
    | (refine wpList_load_row rfl 23 (.tmp 9) rfl w3.heap.size rfl _ _ _ _ V4.out Tryd.underlying23 rfl I5.out ?_))
  obtain ⟨zt, hzt⟩ : ∃ z, w3.heap.size = z := ⟨_, rfl⟩
  rw [hzt] at V4 ⊢
  clear hzt x0 x1 T5 S5
  refine (sline_is g m 0 0 1 0 0 w4 M4.out (hide (HH.out.next B4.out)) WF T y (N : Int) N rfl hN0 hN1).mono ?_
  rintro e w5 ⟨cA, fA, _, rfl, s5, b5⟩
  obtain ⟨R, hR⟩ : ∃ R, runT (wordAt m) T y 64 = R := ⟨_, rfl⟩
  have HRR := hide hR
  rw [hR] at s5 ⊢
  clear hR
  obtain ⟨ov, hov⟩ : ∃ v, R.2.2 = v := ⟨_, rfl⟩
  obtain ⟨ht, hht⟩ : ∃ v, anyHit N R.1 = v := ⟨_, rfl⟩
  rw [hov, hht]
  have HO := hide (show R.2.2 = ov ∧ anyHit N R.1 = ht from ⟨hov, hht⟩)
  clear hov hht
  have SA5 := hide s5
  have V5 := hide (V4.out.next b5)
  have D5 := hide (D4.out.next b5)
  have A5 := hide (A4.out.next b5)
  have B5 := hide (bnext B4.out b5)
  clear s5 b5 M4 D4 A4 B4 V4
  have L5 := hide (V5.out.next ((Below.refl _ w5).alloc (Nat.le_refl _) (.cells #[.slice (some ⟨cA, 0, none⟩) N N, .slice (some ⟨fA, 0, none⟩) N N] 39)))
  have x0 := A5.out.c0
  have x1 := A5.out.c1
  have xl := A5.out.lt
  set_option maxRecDepth 20000 in
  go_wp2_with (first | (refine wpList_load_row rfl 23 (.tmp 9) rfl zt rfl _ _ _ _ L5.out Tryd.underlying23 rfl I5.out ?_))
  refine under_calls fun w6 hw6 => ?_
  have n6 : Below w5.heap.size w5 w6 := by rw [hw6]; exact (Below.refl _ w5).alloc (Nat.le_refl _) _
  have P6 := hide (show HasP w6 w5.heap.size cA fA N by rw [hw6]; exact heap_alloc_new _ _)
  have SA6 := hide (SA5.out.next n6)
  have D6 := hide (D5.out.next n6)
  have B6 := hide (bnext B5.out n6)
  clear hw6 n6 L5 x0 x1 xl V5 D5 A5 B5 SA5
  obtain ⟨zp, hzp⟩ : ∃ z, w5.heap.size = z := ⟨_, rfl⟩
  rw [hzp] at P6 ⊢
  clear hzp
  refine (rline_is c d m 0 0 1 0 0 w6 D6.out T y N hN0 hN1).mono ?_
  rintro e w7 ⟨cR, fR, rfl, s7, b7⟩
  rw [HRR.out] at s7 ⊢
  rw [HO.out.1, HO.out.2]
  have SR7 := hide s7
  have P7 := hide (P6.out.next b7)
  have SA7 := hide (SA6.out.next b7)
  have B7 := hide (bnext B6.out b7)
  clear s7 b7 P6 D6 B6 SA6 HRR HO
  set_option maxRecDepth 20000 in
  go_wp2_with fail
  refine under_calls fun w8 hw8 => ?_
  have n8 : Below w7.heap.size w7 w8 := by rw [hw8]; exact (Below.refl _ w7).alloc (Nat.le_refl _) _
  have P8 := hide (pokes_one (show w8.heap[w7.heap.size]? = some (.cells #[.int .i64 0, .int .i64 32768] 45 (0, 0)) by rw [hw8]; exact heap_alloc_new _ _))
  refine (made_is _ 1 1 (fun _ => 0) (fun _ => 32768) w8 P8.out).mono ?_
  rintro e w9 ⟨g2, c2, d2, rfl, k9⟩
  have M9 := hide (show HasM w9 g2 true oneM 0 0 1 0 0 from k9.2.1)
  have n9 := hide (bnext n8 k9.below)
  clear hw8 n8 k9 P8
  set_option maxRecDepth 20000 in
  go_wp2_with fail
  refine under_calls fun w10 hw10 => ?_
  have n10 : Below w9.heap.size w9 w10 := by rw [hw10]; exact (Below.refl _ w9).alloc (Nat.le_refl _) _
  have r10 : w10.heap[w9.heap.size]? = some (.cells #[.int .i64 64, .int .i64 32, .int .i64 0, .int .i64 3] 3 (0, 0)) := by rw [hw10]; exact heap_alloc_new _ _
  have IR : IsRow .i64 w10 (some ⟨w9.heap.size, 0, none⟩) 4 4 [64, 32, 0, 3] := .inr ⟨⟨w9.heap.size, 0, none⟩, rfl, by omega, by decide, rfl, fun i hi => by
    have hi2 : i < 4 := hi
    rw [add_none, Nat.zero_add, cell_of_row w10 _ i _ _ _ r10]
    rcases (show i = 0 ∨ i = 1 ∨ i = 2 ∨ i = 3 by omega) with rfl | rfl | rfl | rfl <;> rfl, by decide⟩
  refine (table_is _ 4 4 [64, 32, 0, 3] w10 IR).mono ?_
  rintro e w11 ⟨rfl, b11⟩
  have M11 := hide ((M9.out.next n10).next b11)
  have n11 := hide (bnext (bnext n9.out n10) b11)
  clear IR r10 hw10 n10 b11 M9 n9
  set_option maxRecDepth 20000 in
  go_wp2_with fail
  have CL : Calls Tryd.prog 13 #[.pointer (some ⟨g2, 0, none⟩), .agg (tabL fourL).toArray, .int .i64 0, .int .i64 1] w11 _ := sline_is g2 oneM 0 0 1 0 0 w11 M11.out (hide (HH.out.next (bnext B7.out n11.out))) (hide (words_made (fun _ => 0) (fun _ => 32768) 1)) fourL 0 1 1 rfl (by omega) (by omega)
  refine CL.mono ?_
  clear CL
  rintro e w12 ⟨cE, fE, _, rfl, s12, b12⟩
  have n12 := hide (bnext n11.out b12)
  have f0 := (s12.cj 0 (by omega)).trans (by rw [line_49])
  have fl := s12.lc
  clear s12 b12 M11 n11
  obtain ⟨v1, hv1⟩ : ∃ v, (runT (wordAt oneM) fourL 0 64).2.2 = v := ⟨_, rfl⟩
  obtain ⟨v2, hv2⟩ : ∃ v, anyHit 1 (runT (wordAt oneM) fourL 0 64).1 = v := ⟨_, rfl⟩
  rw [hv1, hv2]
  clear hv1 hv2
  have P12 := hide (P7.out.next n12.out)
  have B12 := hide (bnext B7.out n12.out)
  have SA12 := hide (SA7.out.next n12.out)
  have SR12 := hide (SR7.out.next n12.out)
  clear SA7 SR7 P7 B7 n12
  have p0 := P12.out.c0
  have p1 := P12.out.c1
  have pl := P12.out.lt
  cases ov <;> cases ht
  all_goals
    set_option maxRecDepth 20000 in
    go_wp2_with fail
    refine under_name fun wd hwd => ?_
    have nd : Below w12.heap.size w12 wd := by rw [hwd]; exact (Below.refl _ w12).alloc (Nat.le_refl _) _
    have P1 := hide (P12.out.next nd)
    have SA1 := hide (SA12.out.next nd)
    have SB1 := hide (SR12.out.next nd)
    have B1 := hide (bnext B12.out nd)
    clear hwd nd P12 SA12 SR12 B12 p0 p1 pl f0 fl
    go_loopw [22] (fun si wr => ∃ i : Nat, i ≤ N ∧ si = .int .i64 (i : Int) ∧ Below wd.heap.size wd wr) (fun si _ => N - (intOf si).toNat)
    case atStart => exact ⟨0, Nat.zero_le _, rfl, Below.refl _ _⟩
    case round =>
      obtain ⟨i, hi, rfl, hw⟩ := hrel
      have NR := hide hw
      clear hw
      by_cases hlt : i < N
      · have pa0 := (P1.out.next NR.out).c0
        have pa1 := (P1.out.next NR.out).c1
        have ca := (SA1.out.next NR.out).cj i hlt
        have fa := (SA1.out.next NR.out).fj i hlt
        have cb := (SB1.out.next NR.out).cj i hlt
        have fb := (SB1.out.next NR.out).fj i hlt
        generalize (R.1 i).1 = xa at *
        generalize (R.1 i).2.1 = ya at *
        set_option maxRecDepth 20000 in
        go_wp2_with fail
        go_quiet (fail)
        set_option maxRecDepth 20000 in
        go_wp2_with fail
        exact ⟨⟨i + 1, by omega, by go_num, bnext NR.out (below_drew (Below.refl _ _) _)⟩, by simp [intOf]; omega⟩
      · obtain rfl : i = N := by omega
        set_option maxRecDepth 20000 in
        go_wp2_with fail
        go_ret
        exact ⟨rfl, bnext B1.out NR.out⟩
theorem spritesLine_walk (a0 : Option Addr) (len0 cap0 : Nat) (a1 : Option Addr) (len1 cap1 : Nat) (z1 z2 : List Int) (w : World) (w0 : IsStructs [some .i64, some .i64] w a0 len0 cap0) (w1 : IsRow .i64 w a1 len1 cap1 z1) (l2 : z2.length = 2) (w2 : ∀ z ∈ z2, (Lit.int .i64 z).wf = true) (hL : HasHigh w) :
    Calls Tryd.prog 4 #[.slice a0 len0 cap0, .slice a1 len1 cap1, .agg (z2.map (Value.int .i64)).toArray] w fun e w' => e = .returned (.bool true) ∧ Below w.heap.size w w' := by
  obtain ⟨pa, pw, hR⟩ := pokes_in w0
  obtain ⟨y, n, rfl⟩ := two_list z2 l2
  by_cases hn : n < 1 ∨ 512 < n
  · exact sp_out a0 len0 cap0 a1 len1 cap1 z1 y n pa pw w (hide hR) (hide w1) (hide hL) (hide hn)
  · obtain ⟨N, rfl⟩ : ∃ N : Nat, n = (N : Int) := ⟨n.toNat, by omega⟩
    exact sp_in a0 len0 cap0 a1 len1 cap1 z1 y N (by omega) (by omega) pa pw w (hide hR) (hide w1) (hide hL)
set_option maxRecDepth 100000 in
theorem spritesLine_lifted (os : Os) (started : os.Started) (H : Type) (enc : TypeId × Value → H) :
    ReturnsInHanded {} Tryd.checked os 4 .any (fun w args => (Rows.spritesLineSpec.pre enc Tryd.prog Tryd.f4 [] false w args ∧ laidMetH Tryd.prog laidHigh w) ∧ sizedMet enc Tryd.prog Tryd.f4 (OpenSpec.ofChange Rows.spritesLineSpec) false w args)
      (Rows.spritesLineSpec.post enc Tryd.prog Tryd.f4 false true false false) := by
  refine returnsInHanded_of_change_and (C := Tryd.checked) (X := fun w _ => laidMetH Tryd.prog laidHigh w) (fun _ _ _ hh h => h.of_heap hh) own started (by kernel_rfl) Tryd.func4
    (ChangeSpec.witness_at (enc := enc) (C := Tryd.checked) (os := os) (X := fun w _ => laidMetH Tryd.prog laidHigh w) false (laidWorld os) #[.slice none 0 0, .slice none 0 0, .agg #[.int .i64 0, .int .i64 0]] 8 rfl (by kernel_rfl) (by kernel_rfl) (by kernel_rfl) (by kernel_rfl) (by kernel_rfl) (laidWorld_high os _)) ?_
  intro W base args ds gs before hval0 hW _ _ hL _
  have hval : ∀ (j : Nat) t v, Tryd.f4.params[j]? = some t → args[j]? = some v → Value.okWide Tryd.prog W .any base t v := hval0
  have hW' := hW
  obtain ⟨p, q, hA0, hV, rfl, hfz, hnd⟩ := hW
  have hA : DataW.TrodAll enc Tryd.prog W 0 (fun _ => true) true Tryd.f4.params.toList args.toList ds p := hA0
  rw [Tryd.params4] at hA hval
  obtain ⟨v0, vs0, d0, ds0, p0, q0, hargs, rfl, rfl, h0, r0⟩ := trodAll_cons hA
  obtain ⟨v1, vs1, d1, ds1, p1, q1, rfl, rfl, rfl, h1, r1⟩ := trodAll_cons r0
  obtain ⟨v2, vs2, d2, ds2, p2, q2, rfl, rfl, rfl, h2, r2⟩ := trodAll_cons r1
  obtain ⟨rfl, rfl, rfl⟩ := trodAll_nil r2
  obtain rfl : args = #[v0, v1, v2] := by cases args; simp_all
  obtain ⟨rfl, rfl⟩ := trodVars_none hV
  obtain ⟨a0, len0, cap0, rfl⟩ := okWide_slice Tryd.underlying31 (hval 0 31 v0 rfl rfl)
  have k0 := h0
  have lt0 : ∀ x ∈ p0, x.block < W.heap.size := by obtain ⟨m, hm⟩ := k0; exact DataW.trod_lt m _ _ _ hm
  have w0 : IsStructs [some .i64, some .i64] W a0 len0 cap0 := open_structs Tryd.underlying31 Tryd.underlying45 (by kernel_rfl) (fun j k hk => by
    rcases j with _ | _ | j
    · cases hk; exact ⟨_, rfl, rfl, by kernel_rfl, Tryd.underlying3⟩
    · cases hk; exact ⟨_, rfl, rfl, by kernel_rfl, Tryd.underlying3⟩
    · simp at hk) h0
  obtain ⟨a1, len1, cap1, rfl⟩ := okWide_slice Tryd.underlying22 (hval 1 22 v1 rfl rfl)
  have k1 := h1
  have lt1 : ∀ x ∈ p1, x.block < W.heap.size := by obtain ⟨m, hm⟩ := k1; exact DataW.trod_lt m _ _ _ hm
  obtain ⟨z1, w1⟩ : ∃ zs, IsRow .i64 W a1 len1 cap1 zs := by
    obtain ⟨fuel, hf⟩ := h1
    rcases open_ints Tryd.underlying22 Tryd.underlying3 (by kernel_rfl) hf with ⟨hcs, _⟩ | ⟨x, l, c, zs, hcs, _, hl, hm, hz, _, hcell, hwz⟩
    · simp [Value.cells] at hcs
      obtain ⟨rfl, rfl, rfl⟩ := hcs
      exact ⟨[], .inl ⟨rfl, rfl, rfl, rfl⟩⟩
    · simp [Value.cells] at hcs
      obtain ⟨rfl, rfl, rfl⟩ := hcs
      exact ⟨zs, .inr ⟨_, rfl, hl, hm, by simpa using hz, hcell, hwz⟩⟩
  have k2 := h2
  have lt2 : ∀ x ∈ p2, x.block < W.heap.size := by obtain ⟨m, hm⟩ := k2; exact DataW.trod_lt m _ _ _ hm
  obtain ⟨z2, l2, rfl, w2⟩ := open_array_ints Tryd.underlying32 Tryd.underlying3 (by kernel_rfl) (by kernel_rfl) (hval 2 32 v2 rfl rfl) h2
  clear hA0 hval0
  refine (spritesLine_walk a0 len0 cap0 a1 len1 cap1 z1 z2 W w0 w1 l2 w2 (laid_high hL)).mono fun e W' ⟨he, bel⟩ => ?_
  subst he
  exact ⟨_, rfl, _, _, _, [], _, [], hW', trodAll_mk1 (shut_bool Tryd.underlying4 _), (trodAll_cons_mk (Below.trod laidOut (by kernel_rfl) (of_decide_eq_true (by kernel_rfl)) k0 bel lt0) (trodAll_cons_mk (Below.trod laidOut (by kernel_rfl) (of_decide_eq_true (by kernel_rfl)) k1 bel lt1) (trodAll_cons_mk (Below.trod laidOut (by kernel_rfl) (of_decide_eq_true (by kernel_rfl)) k2 bel lt2) trodAll_mk0))), rfl, bel.frame _, fun h => by cases h⟩

theorem spritesLine_over : Rows.spritesLineRow.holds Tryd.pinned (OpenSpec.ofChange Rows.spritesLineSpec) :=
  OpenClaim.holds_of_wide 4 Tryd.f4 rfl rfl rfl rfl rfl rfl rfl ⟨rfl, rfl, rfl, rfl, rfl⟩ rfl rfl rfl rfl rfl (by kernel_rfl) Tryd.func4 (by kernel_rfl)
    (of_decide_eq_true (by kernel_rfl)) (by unfold Func.isWrapper; first | (rw [if_pos (by decide +kernel)]; kernel_rfl) | (rw [if_neg (by decide +kernel)]; exact ⟨rfl, rfl⟩))
    (fun os started H enc _ => spritesLine_lifted os started H enc)

theorem spritesLine_row : Rows.SpritesLineSaid := spritesLine_over

theorem spritesLine_holds : Rows.SpritesLineCardSaid :=
  Claim7.holds_tied_plain_at .later [] [.data] true (true, "0a37a5a4315790cd1c1c663d3aa689065fbd0f428761630f5de7b36c5ae14ed1") false
    spritesLine_row (fun _ h => by cases h) (by kernel_rfl) (fun _ h => by cases h) spritesLine_row_tie rfl ⟨rfl, rfl⟩ (by kernel_rfl) rfl
    (fun f fn hf hfn => by
      obtain rfl : f = 4 := Option.some.inj ((show Tryd.prog.funcNamed "phosphor/phosphorlaw18.SpritesLine" = some 4 by kernel_rfl).symm.trans hf) |>.symm
      obtain rfl : fn = Tryd.f4 := (Option.some.inj (Tryd.func4.symm.trans hfn)).symm
      exact ⟨by kernel_rfl, fun j t ht => by
        rw [Tryd.params4] at ht
        rcases j with _ | _ | _ | j
        · obtain rfl : t = 31 := by simpa using ht.symm
          exact (show Tryd.prog.wantsStandIn 31 = false by kernel_rfl)
        · obtain rfl : t = 22 := by simpa using ht.symm
          exact (show Tryd.prog.wantsStandIn 22 = false by kernel_rfl)
        · obtain rfl : t = 32 := by simpa using ht.symm
          exact (show Tryd.prog.wantsStandIn 32 = false by kernel_rfl)
        · simp at ht⟩)
    (by kernel_rfl)
#print axioms spritesLine_holds
end Go.Proofs.YtnlohhgogdiheaaDoor
