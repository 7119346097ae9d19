/- LineDraws, at the landed commit: whatever setup comes in, the call returns true: any line of any memory, registers, sprites and colours is the document's. No condition but what the card says. -/
import Derived.Test.YtnhjhmfiapjenaaDoorRDraw19
import Derived.Test.YtnhjhmfiapjenaaDoorMade12
import Derived.Test.YtnhjhmfiapjenaaDoorGenA
import Derived.Test.YtnhjhmfiapjenaaDoorHighLaid
import Derived.Test.YtnhjhmfiapjenaaDoorTie
import Derived.Test.YtnhjhmfiapjenaaDoorCards
import Derived.BigQuiet
import Derived.SevenTiedAt
import Derived.OpenShut
import Derived.ShutString
import Derived.ChangeOld
namespace Go.Proofs.YtnhjhmfiapjenaaDoor
open Go.ChangeShapes Go.WideShapes Go.ChangeAt Go.RowKit
open Go.ChangeMaps (open_string shut_string)
set_option linter.unusedVariables false

set_option maxHeartbeats 4000000 in
theorem ld_out (pa : Option Addr) (pl pc : Nat) (ta : Option Addr) (tl tc : Nat) (ca : Option Addr) (cl cc : Nat) (ct mp X Y L : Int) (tz cz : List Int) (qa qw : Nat → Int) (w : World) (HR : Hid (IsPokes w pa pl qa qw)) (HT : Hid (IsRow .i64 w ta tl tc tz)) (HC : Hid (IsRow .i64 w ca cl cc cz)) (HH : Hid (HasHigh w)) (A : Int) (hA : bits .and .i64 ct 8191 = A) (HA : Hid (0 ≤ A ∧ A < 65536)) (M : Int) (hM : bits .and .i64 mp 255 = M) (C16 : Int) (hC16 : ct / 65536 = C16) (Wd : Int) (hw : Hid (Wd < 1 ∨ 512 < Wd)) :
    Calls Tryd.prog 3 #[.agg (rowS pa pl pc ta tl tc ca cl cc ct mp X Y L Wd)] w fun e w' => e = .returned (.bool true) ∧ Below w.heap.size w w' := by
  set_option maxRecDepth 20000 in
  go_enter Tryd.func3, Tryd.ntmps3
  have A0 := hide (show HasS (w.alloc (.cells (rowS pa pl pc ta tl tc ca cl cc ct mp X Y L Wd) 25)) w.heap.size (rowS pa pl pc ta tl tc ca cl cc ct mp X Y L Wd) from heap_alloc_new _ _)
  have s0 := A0.out.c0
  set_option maxRecDepth 20000 in
  go_wp2_with fail
  refine under_calls fun wa hwa => ?_
  have S1 := hide (show HasS wa w.heap.size (rowS pa pl pc ta tl tc ca cl cc ct mp X Y L Wd) by rw [hwa]; exact A0.out)
  have B1 := hide (show Below w.heap.size w wa by rw [hwa]; exact (Below.refl _ w).alloc (Nat.le_refl _) _)
  clear hwa A0 s0
  obtain ⟨zs, hzs⟩ : ∃ z, w.heap.size = z := ⟨_, rfl⟩
  rw [hzs] at S1 ⊢
  clear hzs
  refine (made_is pa pl pc qa qw wa (HR.out.next B1.out)).mono ?_
  rintro e w2 ⟨g, c, d, rfl, k2⟩
  have WF := hide (words_made qa qw (min pl 80))
  obtain ⟨m, hm⟩ : ∃ m, madeTo qa qw (min pl 80) = m := ⟨_, rfl⟩
  rw [hm] at k2 WF
  clear hm
  have E2 := hide (show Env w zs (rowS pa pl pc ta tl tc ca cl cc ct mp X Y L Wd) g c d m w2 from ⟨S1.out.next k2.below, k2.2.1, k2.2.2.1, bnext B1.out k2.below⟩)
  clear k2 S1 B1 HR
  have s1 := E2.out.1.c1
  set_option maxRecDepth 20000 in
  go_wp2_with fail
  refine (table_is ta tl tc tz w2 (HT.out.next E2.out.below)).mono ?_
  rintro e w3 ⟨rfl, b3⟩
  have E3 := hide (E2.out.next b3)
  clear b3 E2 s1 HT
  obtain ⟨T, hT⟩ : ∃ T, listT tl tz = T := ⟨_, rfl⟩
  rw [hT]
  clear hT
  have I3 := hide (info_T T)
  have T3 := hide (tabL_one T)
  have S3 := hide (tabL_size (fun _ => 0) T)
  have N3 := hide (heap_alloc_new w3 (.cells (tabL fun _ => 0).toArray 30))
  set_option maxRecDepth 20000 in
  go_wp2_with (first
    | (refine wpList_alloced rfl 30 rfl _ zero_T ?_; simp only [Act.put, List.setIfInBounds_toArray, List.set_cons_succ, List.set_cons_zero])
    | (refine wpList_store_row rfl 30 (.tmp 5) (.tmp 25) rfl w3.heap.size _ rfl rfl 30 _ N3.out I3.out S3.out T3.out ?_
       refine under_list fun w4 hw4 => ?_
       have n4 : Below w3.heap.size w3 w4 := by rw [hw4]; exact below_setRow ((Below.refl _ w3).alloc (Nat.le_refl _) _) (Nat.le_refl _) _
       have V4 := hide (show HasTb w4 w3.heap.size T by rw [hw4]; exact setRow_heap _ _ _ _ _ _ N3.out)
       have E4 := hide (E3.out.next n4)
       have s2 := E4.out.1.c2
       have s3 := E4.out.1.c3
       clear hw4 N3 n4 E3))
  obtain ⟨zt, hzt⟩ : ∃ z, w3.heap.size = z := ⟨_, rfl⟩
  rw [hzt] at V4 ⊢
  clear hzt T3 S3 s2 s3
  refine (V12.made_any C16 0 ca cl cc cz w4 (HC.out.next E4.out.below)).mono ?_
  rintro e w5 ⟨rfl, b5⟩
  obtain ⟨FV, hFV⟩ : ∃ F, V12.madeTo cz (min cl 512) = F := ⟨_, rfl⟩
  rw [hFV]
  have V5 := hide (V4.out.next b5)
  have E5 := hide (E4.out.next b5)
  clear b5 V4 E4 hFV HC
  have N5 := hide (fun u : World => heap_alloc_new u (.cells (V12.rowV 0 0 fun _ => 0) 34))
  have N7 := hide (fun u : World => heap_alloc_new u (.cells (R15.rowG 0 fun _ => 0) 39))
  set_option maxRecDepth 20000 in
  go_wp2_with (first
    | (refine wpList_alloced rfl 34 rfl _ zero_vce ?_; simp only [Act.put, List.setIfInBounds_toArray, List.set_cons_succ, List.set_cons_zero])
    | (refine wpList_store_row rfl 34 (.tmp 6) (.tmp 31) rfl w5.heap.size _ rfl rfl 34 _ (N5.out w5) (by rw [V12.rowV_size]; kernel_rfl) (by rw [V12.rowV_size, V12.rowV_size]) (V12.rowV_one _ _ _) ?_
       refine under_list fun w6 hw6 => ?_
       have n6 : Below w5.heap.size w5 w6 := by rw [hw6]; exact below_setRow ((Below.refl _ w5).alloc (Nat.le_refl _) _) (Nat.le_refl _) _
       have C6 := hide (show V12.HasV 34 w6 w5.heap.size C16 0 FV by rw [hw6]; exact setRow_heap _ _ _ _ _ _ (N5.out w5))
       have V6 := hide (V5.out.next n6)
       have E6 := hide (E5.out.next n6)
       clear hw6 N5 n6 E5 V5)
    | (refine wpList_built rfl 39 #[] rfl #[] (by simp) (R15.rowG 0 fun _ => 0) run_regs0 ?_; simp only [Act.put, List.setIfInBounds_toArray, List.set_cons_succ, List.set_cons_zero])
    | (refine wpList_alloced rfl 39 rfl _ zero_regs ?_; simp only [Act.put, List.setIfInBounds_toArray, List.set_cons_succ, List.set_cons_zero])
    | (refine wpList_store_row rfl 39 (.tmp 7) (.tmp 32) rfl w6.heap.size _ rfl rfl 39 _ (N7.out w6) (R15.info_G _ _) rfl (R15.rowG_one _ _) ?_
       refine under_list fun w7 hw7 => ?_
       have n7 : Below w6.heap.size w6 w7 := by rw [hw7]; exact below_setRow ((Below.refl _ w6).alloc (Nat.le_refl _) _) (Nat.le_refl _) _
       have G7 := hide (show R15.HasG 39 w7 w6.heap.size 0 (fun _ => 0) by rw [hw7]; exact setRow_heap _ _ _ _ _ _ (N7.out w6))
       have C7 := hide (C6.out.next n7)
       have V7 := hide (V6.out.next n7)
       have E7 := hide (E6.out.next n7)
       have L7 := hide (show w.heap.size ≤ w6.heap.size from E6.out.below.size)
       clear hw7 N7 n7 E6 V6 C6))
  obtain ⟨zv, hzv⟩ : ∃ z, w5.heap.size = z := ⟨_, rfl⟩
  obtain ⟨zr, hzr⟩ : ∃ z, w6.heap.size = z := ⟨_, rfl⟩
  rw [hzv] at C7 ⊢
  rw [hzr] at G7 L7 ⊢
  clear hzr hzv
  have c5 : w7.cell? ⟨zr, 6, none⟩ = some (.int .i64 0) := G7.out.at 5 (by decide)
  have c9 : w7.cell? ⟨zr, 10, none⟩ = some (.int .i64 0) := G7.out.at 9 (by decide)
  have f5 := G7.out.frozen 6
  have f9 := G7.out.frozen 10
  have s3 := E7.out.1.c3
  have s4 := E7.out.1.c4
  have nz := types_apart E7.out.1 G7.out (by decide)
  simp only [Act.put]
  go_cut [35] from 33 to 42 (fun _ wx => R15.HasG 39 wx zr 0 (regF A M) ∧ Only zr w7 wx)
  case first =>
    go_region
    all_goals (go_wp2_with fail)
    all_goals go_meet
    all_goals exact ⟨(G7.out.set 5 A).set 9 M, ((only_setCell _ _ _ _).set _ _).drew'⟩
  obtain ⟨hg8, ho8⟩ := hcut
  have E8 := hide (E7.out.only G7.out (by decide) L7.out ho8)
  have V8 := hide (show HasTb wc zt T from ho8.obj V7.out (types_apart V7.out G7.out (by decide)))
  have C8 := hide (show V12.HasV 34 wc zv C16 0 FV from ho8.obj C7.out (types_apart C7.out G7.out (by decide)))
  have G8 := hide hg8
  clear hg8 ho8 c5 c9 f5 f9 s3 s4 nz G7 C7 V7 E7 hA hM L7
  obtain ⟨p, hp⟩ : ∃ p, R15.pairOf M 4 = p := ⟨_, rfl⟩
  obtain ⟨q, hq⟩ : ∃ q : Nat, bitOf M 6 = (q : Int) := ⟨(bitOf M 6).toNat, by have := bitOf_01 M 6; omega⟩
  obtain ⟨x7, h7⟩ : ∃ x, (bitOf A 7 == 1) = x := ⟨_, rfl⟩
  obtain ⟨x6, h6⟩ : ∃ x, (bitOf A 6 == 1) = x := ⟨_, rfl⟩
  have PQ := hide (show (R15.pairOf M 4 = p ∧ bitOf M 6 = (q : Int)) ∧ (bitOf A 7 == 1) = x7 ∧ (bitOf A 6 == 1) = x6 from ⟨⟨hp, hq⟩, h7, h6⟩)
  clear hp hq h7 h6
  have s5 := E8.out.1.c5
  have s6 := E8.out.1.c6
  have s7 := E8.out.1.c7
  have s8 := E8.out.1.c8
  set_option maxRecDepth 20000 in
  go_wp2_with (first
    | (refine wpList_load_row rfl 39 (.tmp 7) rfl zr rfl _ _ _ _ G8.out Tryd.underlying39 rfl (R15.info_G _ _) ?_)
    | (refine wpList_load_row rfl 30 (.tmp 5) rfl zt rfl _ _ _ _ V8.out Tryd.underlying30 rfl I3.out ?_)
    | (refine wpList_load_row rfl 34 (.tmp 6) rfl zv rfl _ _ _ _ C8.out Tryd.underlying34 rfl (by rw [V12.rowV_size]; kernel_rfl) ?_)
    | (refine wpList_built rfl 43 _ rfl #[(0, .pointer (some ⟨g, 0, none⟩)), (1, .agg (R15.rowG 0 (regF A M))), (2, .agg (tabL T).toArray), (3, .agg (V12.rowV C16 0 FV)), (4, .int .i64 X), (5, .int .i64 Y), (6, .int .i64 L), (7, .int .i64 Wd)] (by simp [Act.eval, Act.put]) (inL [.pointer (some ⟨g, 0, none⟩)] (gL 0 (regF A M)) (tabL T) (vL C16 0 FV) X Y L Wd).toArray (run_input _ rfl _ _ _ _ _ _ _ _ _ _) ?_; simp only [Act.put, List.setIfInBounds_toArray, List.set_cons_succ, List.set_cons_zero]))
  clear s5 s6 s7 s8
  refine (draw_no g m 0 0 1 0 0 wc E8.out.2.1 _ (gL 0 (regF A M)) (tabL T) (vL C16 0 FV) 0 (regF A M) T C16 0 FV X Y L (hide rfl) (hide rfl) (hide rfl) Wd (hide rfl) hw.out).mono ?_
  rintro e w9 ⟨rfl, b9⟩
  have E9 := hide (E8.out.next b9)
  have V9 := hide (V8.out.next b9)
  have C9 := hide (C8.out.next b9)
  have G9 := hide (G8.out.next b9)
  clear b9 E8 V8 C8 G8
  have s5 := E9.out.1.c5
  have s6 := E9.out.1.c6
  have s7 := E9.out.1.c7
  have s8 := E9.out.1.c8
  set_option maxRecDepth 20000 in
  go_wp2_with (first
    | (refine wpList_load_row rfl 39 (.tmp 7) rfl zr rfl _ _ _ _ G9.out Tryd.underlying39 rfl (R15.info_G _ _) ?_)
    | (refine wpList_load_row rfl 30 (.tmp 5) rfl zt rfl _ _ _ _ V9.out Tryd.underlying30 rfl I3.out ?_)
    | (refine wpList_load_row rfl 34 (.tmp 6) rfl zv rfl _ _ _ _ C9.out Tryd.underlying34 rfl (by rw [V12.rowV_size]; kernel_rfl) ?_)
    | (refine wpList_built rfl 48 _ rfl #[(0, .agg (R15.rowG 0 (regF A M))), (1, .agg (tabL T).toArray), (2, .agg (V12.rowV C16 0 FV)), (3, .int .i64 X), (4, .int .i64 Y), (5, .int .i64 L), (6, .int .i64 Wd)] (by simp [Act.eval, Act.put]) (inL [] (gL 0 (regF A M)) (tabL T) (vL C16 0 FV) X Y L Wd).toArray (run_inputJ _ _ _ _ _ _ _ _ _ _) ?_; simp only [Act.put, List.setIfInBounds_toArray, List.set_cons_succ, List.set_cons_zero]))
  clear s5 s6 s7 s8 V9 C9 G9
  refine (rdraw_no c d m 0 0 1 0 0 w9 E9.out.2.2.1 _ (gL 0 (regF A M)) (tabL T) (vL C16 0 FV) 0 (regF A M) T C16 0 FV X Y L (hide rfl) (hide rfl) (hide rfl) Wd (hide rfl) hw.out).mono ?_
  rintro e w10 ⟨rfl, b10⟩
  have E10 := hide (E9.out.next b10)
  clear b10 E9
  set_option maxRecDepth 20000 in
  go_wp2_with (first
    | (refine wpList_built rfl 43 _ rfl #[(0, .pointer (some ⟨g, 0, none⟩)), (7, .int .i64 2)] (by simp [Act.eval]) (inL [.pointer (some ⟨g, 0, none⟩)] (gL 0 fun _ => 0) (tabL fun _ => 0) (vL 0 0 fun _ => 0) 0 0 0 2).toArray (run_input07 _ rfl _) ?_; simp only [Act.put, List.setIfInBounds_toArray, List.set_cons_succ, List.set_cons_zero]))
  refine (draw_is g m 0 0 1 0 0 w10 E10.out.2.1 _ (gL 0 fun _ => 0) (tabL fun _ => 0) (vL 0 0 fun _ => 0) 0 (fun _ => 0) (fun _ => 0) 0 0 (fun _ => 0) 0 0 0 (hide rfl) (hide rfl) (hide rfl) 2 (hide rfl) (hide (HH.out.next E10.out.below)) WF (by omega) (by omega) 0 0 (by decide) (by decide) false false (by decide) (by decide)).mono ?_
  rintro e w11 ⟨go, _, rfl, _, b11⟩
  have B11 := hide (bnext E10.out.below b11)
  clear b11 E10
  set_option maxRecDepth 20000 in
  go_wp2_with fail
  refine (ints_same none none 0 0 0 (fun _ => 0) w11 (hide (intsAt_none _ _ _)) (hide (intsAt_none _ _ _)) (by omega)).mono ?_
  rintro e w12 ⟨rfl, b12⟩
  have B12 := hide (bnext B11.out b12)
  clear b12 B11
  set_option maxRecDepth 20000 in
  go_wp2_with fail
  go_ret
  exact ⟨rfl, B12.out⟩
set_option maxHeartbeats 4000000 in
theorem ld_in (pa : Option Addr) (pl pc : Nat) (ta : Option Addr) (tl tc : Nat) (ca : Option Addr) (cl cc : Nat) (ct mp X Y L : Int) (tz cz : List Int) (qa qw : Nat → Int) (w : World) (HR : Hid (IsPokes w pa pl qa qw)) (HT : Hid (IsRow .i64 w ta tl tc tz)) (HC : Hid (IsRow .i64 w ca cl cc cz)) (HH : Hid (HasHigh w)) (A : Int) (hA : bits .and .i64 ct 8191 = A) (HA : Hid (0 ≤ A ∧ A < 65536)) (M : Int) (hM : bits .and .i64 mp 255 = M) (C16 : Int) (hC16 : ct / 65536 = C16) (N : Nat) (hN0 : 1 ≤ N) (hN1 : N ≤ 512) :
    Calls Tryd.prog 3 #[.agg (rowS pa pl pc ta tl tc ca cl cc ct mp X Y L (N : Int))] w fun e w' => e = .returned (.bool true) ∧ Below w.heap.size w w' := by
  set_option maxRecDepth 20000 in
  go_enter Tryd.func3, Tryd.ntmps3
  have A0 := hide (show HasS (w.alloc (.cells (rowS pa pl pc ta tl tc ca cl cc ct mp X Y L (N : Int)) 25)) w.heap.size (rowS pa pl pc ta tl tc ca cl cc ct mp X Y L (N : Int)) from heap_alloc_new _ _)
  have s0 := A0.out.c0
  set_option maxRecDepth 20000 in
  go_wp2_with fail
  refine under_calls fun wa hwa => ?_
  have S1 := hide (show HasS wa w.heap.size (rowS pa pl pc ta tl tc ca cl cc ct mp X Y L (N : Int)) by rw [hwa]; exact A0.out)
  have B1 := hide (show Below w.heap.size w wa by rw [hwa]; exact (Below.refl _ w).alloc (Nat.le_refl _) _)
  clear hwa A0 s0
  obtain ⟨zs, hzs⟩ : ∃ z, w.heap.size = z := ⟨_, rfl⟩
  rw [hzs] at S1 ⊢
  clear hzs
  refine (made_is pa pl pc qa qw wa (HR.out.next B1.out)).mono ?_
  rintro e w2 ⟨g, c, d, rfl, k2⟩
  have WF := hide (words_made qa qw (min pl 80))
  obtain ⟨m, hm⟩ : ∃ m, madeTo qa qw (min pl 80) = m := ⟨_, rfl⟩
  rw [hm] at k2 WF
  clear hm
  have E2 := hide (show Env w zs (rowS pa pl pc ta tl tc ca cl cc ct mp X Y L (N : Int)) g c d m w2 from ⟨S1.out.next k2.below, k2.2.1, k2.2.2.1, bnext B1.out k2.below⟩)
  clear k2 S1 B1 HR
  have s1 := E2.out.1.c1
  set_option maxRecDepth 20000 in
  go_wp2_with fail
  refine (table_is ta tl tc tz w2 (HT.out.next E2.out.below)).mono ?_
  rintro e w3 ⟨rfl, b3⟩
  have E3 := hide (E2.out.next b3)
  clear b3 E2 s1 HT
  obtain ⟨T, hT⟩ : ∃ T, listT tl tz = T := ⟨_, rfl⟩
  rw [hT]
  clear hT
  have I3 := hide (info_T T)
  have T3 := hide (tabL_one T)
  have S3 := hide (tabL_size (fun _ => 0) T)
  have N3 := hide (heap_alloc_new w3 (.cells (tabL fun _ => 0).toArray 30))
  set_option maxRecDepth 20000 in
  go_wp2_with (first
    | (refine wpList_alloced rfl 30 rfl _ zero_T ?_; simp only [Act.put, List.setIfInBounds_toArray, List.set_cons_succ, List.set_cons_zero])
    | (refine wpList_store_row rfl 30 (.tmp 5) (.tmp 25) rfl w3.heap.size _ rfl rfl 30 _ N3.out I3.out S3.out T3.out ?_
       refine under_list fun w4 hw4 => ?_
       have n4 : Below w3.heap.size w3 w4 := by rw [hw4]; exact below_setRow ((Below.refl _ w3).alloc (Nat.le_refl _) _) (Nat.le_refl _) _
       have V4 := hide (show HasTb w4 w3.heap.size T by rw [hw4]; exact setRow_heap _ _ _ _ _ _ N3.out)
       have E4 := hide (E3.out.next n4)
       have s2 := E4.out.1.c2
       have s3 := E4.out.1.c3
       clear hw4 N3 n4 E3))
  obtain ⟨zt, hzt⟩ : ∃ z, w3.heap.size = z := ⟨_, rfl⟩
  rw [hzt] at V4 ⊢
  clear hzt T3 S3 s2 s3
  refine (V12.made_any C16 0 ca cl cc cz w4 (HC.out.next E4.out.below)).mono ?_
  rintro e w5 ⟨rfl, b5⟩
  obtain ⟨FV, hFV⟩ : ∃ F, V12.madeTo cz (min cl 512) = F := ⟨_, rfl⟩
  rw [hFV]
  have V5 := hide (V4.out.next b5)
  have E5 := hide (E4.out.next b5)
  clear b5 V4 E4 hFV HC
  have N5 := hide (fun u : World => heap_alloc_new u (.cells (V12.rowV 0 0 fun _ => 0) 34))
  have N7 := hide (fun u : World => heap_alloc_new u (.cells (R15.rowG 0 fun _ => 0) 39))
  set_option maxRecDepth 20000 in
  go_wp2_with (first
    | (refine wpList_alloced rfl 34 rfl _ zero_vce ?_; simp only [Act.put, List.setIfInBounds_toArray, List.set_cons_succ, List.set_cons_zero])
    | (refine wpList_store_row rfl 34 (.tmp 6) (.tmp 31) rfl w5.heap.size _ rfl rfl 34 _ (N5.out w5) (by rw [V12.rowV_size]; kernel_rfl) (by rw [V12.rowV_size, V12.rowV_size]) (V12.rowV_one _ _ _) ?_
       refine under_list fun w6 hw6 => ?_
       have n6 : Below w5.heap.size w5 w6 := by rw [hw6]; exact below_setRow ((Below.refl _ w5).alloc (Nat.le_refl _) _) (Nat.le_refl _) _
       have C6 := hide (show V12.HasV 34 w6 w5.heap.size C16 0 FV by rw [hw6]; exact setRow_heap _ _ _ _ _ _ (N5.out w5))
       have V6 := hide (V5.out.next n6)
       have E6 := hide (E5.out.next n6)
       clear hw6 N5 n6 E5 V5)
    | (refine wpList_built rfl 39 #[] rfl #[] (by simp) (R15.rowG 0 fun _ => 0) run_regs0 ?_; simp only [Act.put, List.setIfInBounds_toArray, List.set_cons_succ, List.set_cons_zero])
    | (refine wpList_alloced rfl 39 rfl _ zero_regs ?_; simp only [Act.put, List.setIfInBounds_toArray, List.set_cons_succ, List.set_cons_zero])
    | (refine wpList_store_row rfl 39 (.tmp 7) (.tmp 32) rfl w6.heap.size _ rfl rfl 39 _ (N7.out w6) (R15.info_G _ _) rfl (R15.rowG_one _ _) ?_
       refine under_list fun w7 hw7 => ?_
       have n7 : Below w6.heap.size w6 w7 := by rw [hw7]; exact below_setRow ((Below.refl _ w6).alloc (Nat.le_refl _) _) (Nat.le_refl _) _
       have G7 := hide (show R15.HasG 39 w7 w6.heap.size 0 (fun _ => 0) by rw [hw7]; exact setRow_heap _ _ _ _ _ _ (N7.out w6))
       have C7 := hide (C6.out.next n7)
       have V7 := hide (V6.out.next n7)
       have E7 := hide (E6.out.next n7)
       have L7 := hide (show w.heap.size ≤ w6.heap.size from E6.out.below.size)
       clear hw7 N7 n7 E6 V6 C6))
  obtain ⟨zv, hzv⟩ : ∃ z, w5.heap.size = z := ⟨_, rfl⟩
  obtain ⟨zr, hzr⟩ : ∃ z, w6.heap.size = z := ⟨_, rfl⟩
  rw [hzv] at C7 ⊢
  rw [hzr] at G7 L7 ⊢
  clear hzr hzv
  have c5 : w7.cell? ⟨zr, 6, none⟩ = some (.int .i64 0) := G7.out.at 5 (by decide)
  have c9 : w7.cell? ⟨zr, 10, none⟩ = some (.int .i64 0) := G7.out.at 9 (by decide)
  have f5 := G7.out.frozen 6
  have f9 := G7.out.frozen 10
  have s3 := E7.out.1.c3
  have s4 := E7.out.1.c4
  have nz := types_apart E7.out.1 G7.out (by decide)
  simp only [Act.put]
  go_cut [35] from 33 to 42 (fun _ wx => R15.HasG 39 wx zr 0 (regF A M) ∧ Only zr w7 wx)
  case first =>
    go_region
    all_goals (go_wp2_with fail)
    all_goals go_meet
    all_goals exact ⟨(G7.out.set 5 A).set 9 M, ((only_setCell _ _ _ _).set _ _).drew'⟩
  obtain ⟨hg8, ho8⟩ := hcut
  have E8 := hide (E7.out.only G7.out (by decide) L7.out ho8)
  have V8 := hide (show HasTb wc zt T from ho8.obj V7.out (types_apart V7.out G7.out (by decide)))
  have C8 := hide (show V12.HasV 34 wc zv C16 0 FV from ho8.obj C7.out (types_apart C7.out G7.out (by decide)))
  have G8 := hide hg8
  clear hg8 ho8 c5 c9 f5 f9 s3 s4 nz G7 C7 V7 E7 hA hM L7
  obtain ⟨p, hp⟩ : ∃ p, R15.pairOf M 4 = p := ⟨_, rfl⟩
  obtain ⟨q, hq⟩ : ∃ q : Nat, bitOf M 6 = (q : Int) := ⟨(bitOf M 6).toNat, by have := bitOf_01 M 6; omega⟩
  obtain ⟨x7, h7⟩ : ∃ x, (bitOf A 7 == 1) = x := ⟨_, rfl⟩
  obtain ⟨x6, h6⟩ : ∃ x, (bitOf A 6 == 1) = x := ⟨_, rfl⟩
  have PQ := hide (show (R15.pairOf M 4 = p ∧ bitOf M 6 = (q : Int)) ∧ (bitOf A 7 == 1) = x7 ∧ (bitOf A 6 == 1) = x6 from ⟨⟨hp, hq⟩, h7, h6⟩)
  clear hp hq h7 h6
  have s5 := E8.out.1.c5
  have s6 := E8.out.1.c6
  have s7 := E8.out.1.c7
  have s8 := E8.out.1.c8
  set_option maxRecDepth 20000 in
  go_wp2_with (first
    | (refine wpList_load_row rfl 39 (.tmp 7) rfl zr rfl _ _ _ _ G8.out Tryd.underlying39 rfl (R15.info_G _ _) ?_)
    | (refine wpList_load_row rfl 30 (.tmp 5) rfl zt rfl _ _ _ _ V8.out Tryd.underlying30 rfl I3.out ?_)
    | (refine wpList_load_row rfl 34 (.tmp 6) rfl zv rfl _ _ _ _ C8.out Tryd.underlying34 rfl (by rw [V12.rowV_size]; kernel_rfl) ?_)
    | (refine wpList_built rfl 43 _ rfl #[(0, .pointer (some ⟨g, 0, none⟩)), (1, .agg (R15.rowG 0 (regF A M))), (2, .agg (tabL T).toArray), (3, .agg (V12.rowV C16 0 FV)), (4, .int .i64 X), (5, .int .i64 Y), (6, .int .i64 L), (7, .int .i64 (N : Int))] (by simp [Act.eval, Act.put]) (inL [.pointer (some ⟨g, 0, none⟩)] (gL 0 (regF A M)) (tabL T) (vL C16 0 FV) X Y L (N : Int)).toArray (run_input _ rfl _ _ _ _ _ _ _ _ _ _) ?_; simp only [Act.put, List.setIfInBounds_toArray, List.set_cons_succ, List.set_cons_zero]))
  clear s5 s6 s7 s8
  refine (draw_is g m 0 0 1 0 0 wc E8.out.2.1 _ (gL 0 (regF A M)) (tabL T) (vL C16 0 FV) 0 (regF A M) T C16 0 FV X Y L (hide rfl) (hide rfl) (hide rfl) N (hide rfl) (hide (HH.out.next E8.out.below)) WF hN0 hN1 p q PQ.out.1.1 PQ.out.1.2 x7 x6 PQ.out.2.1 PQ.out.2.2).mono ?_
  rintro e w9 ⟨ga, _, rfl, r9, b9⟩
  have KR := hide (fun (u : World) (hu : HasR u c d m 0 0 1 0 0) => rdraw_is c d m 0 0 1 0 0 u hu _ (gL 0 (regF A M)) (tabL T) (vL C16 0 FV) 0 (regF A M) T C16 0 FV X Y L (hide rfl) (hide rfl) (hide rfl) N (hide rfl) WF hN0 hN1 p q PQ.out.1.1 PQ.out.1.2 A rfl HA.out.1 HA.out.2 x7 x6 PQ.out.2.1 PQ.out.2.2)
  obtain ⟨CF, hCF⟩ : ∃ CF : Nat → Int, (fun j => shownC FV C16 (numOf x7 x6 (wordAt m) (R15.wideOf p) (R15.highOf2 q) X Y T L N j)) = CF := ⟨_, rfl⟩
  obtain ⟨ov, hov⟩ : ∃ v, overOf x6 (wordAt m) T L = v := ⟨_, rfl⟩
  obtain ⟨ht, hht⟩ : ∃ v, hitOf x6 (wordAt m) T L N = v := ⟨_, rfl⟩
  rw [hCF] at r9
  rw [hCF, hov, hht] at KR
  rw [hov, hht]
  have R9 := hide r9
  clear r9 hCF hov hht
  have E9 := hide (E8.out.next b9)
  have V9 := hide (V8.out.next b9)
  have C9 := hide (C8.out.next b9)
  have G9 := hide (G8.out.next b9)
  clear b9 E8 V8 C8 G8
  have s5 := E9.out.1.c5
  have s6 := E9.out.1.c6
  have s7 := E9.out.1.c7
  have s8 := E9.out.1.c8
  set_option maxRecDepth 20000 in
  go_wp2_with (first
    | (refine wpList_load_row rfl 39 (.tmp 7) rfl zr rfl _ _ _ _ G9.out Tryd.underlying39 rfl (R15.info_G _ _) ?_)
    | (refine wpList_load_row rfl 30 (.tmp 5) rfl zt rfl _ _ _ _ V9.out Tryd.underlying30 rfl I3.out ?_)
    | (refine wpList_load_row rfl 34 (.tmp 6) rfl zv rfl _ _ _ _ C9.out Tryd.underlying34 rfl (by rw [V12.rowV_size]; kernel_rfl) ?_)
    | (refine wpList_built rfl 48 _ rfl #[(0, .agg (R15.rowG 0 (regF A M))), (1, .agg (tabL T).toArray), (2, .agg (V12.rowV C16 0 FV)), (3, .int .i64 X), (4, .int .i64 Y), (5, .int .i64 L), (6, .int .i64 (N : Int))] (by simp [Act.eval, Act.put]) (inL [] (gL 0 (regF A M)) (tabL T) (vL C16 0 FV) X Y L (N : Int)).toArray (run_inputJ _ _ _ _ _ _ _ _ _ _) ?_; simp only [Act.put, List.setIfInBounds_toArray, List.set_cons_succ, List.set_cons_zero]))
  clear s5 s6 s7 s8 V9 C9 G9
  refine (KR.out w9 E9.out.2.2.1).mono ?_
  rintro e w10 ⟨gr, cap, rfl, r10, b10⟩
  have A10 := hide (R9.out.next b10)
  have D10 := hide r10
  clear r10 KR R9
  have E10 := hide (E9.out.next b10)
  clear b10 E9
  set_option maxRecDepth 20000 in
  go_wp2_with (first
    | (refine wpList_built rfl 43 _ rfl #[(0, .pointer (some ⟨g, 0, none⟩)), (7, .int .i64 2)] (by simp [Act.eval]) (inL [.pointer (some ⟨g, 0, none⟩)] (gL 0 fun _ => 0) (tabL fun _ => 0) (vL 0 0 fun _ => 0) 0 0 0 2).toArray (run_input07 _ rfl _) ?_; simp only [Act.put, List.setIfInBounds_toArray, List.set_cons_succ, List.set_cons_zero]))
  refine (draw_is g m 0 0 1 0 0 w10 E10.out.2.1 _ (gL 0 fun _ => 0) (tabL fun _ => 0) (vL 0 0 fun _ => 0) 0 (fun _ => 0) (fun _ => 0) 0 0 (fun _ => 0) 0 0 0 (hide rfl) (hide rfl) (hide rfl) 2 (hide rfl) (hide (HH.out.next E10.out.below)) WF (by omega) (by omega) 0 0 (by decide) (by decide) false false (by decide) (by decide)).mono ?_
  rintro e w11 ⟨go, _, rfl, _, b11⟩
  have B11 := hide (bnext E10.out.below b11)
  have A11 := hide (A10.out.next b11)
  have D11 := hide (D10.out.next b11)
  clear b11 E10 A10 D10
  set_option maxRecDepth 20000 in
  go_wp2_with fail
  refine (ints_same _ _ N N cap CF w11 (hide A11.out.ints) D11 (by omega)).mono ?_
  rintro e w12 ⟨rfl, b12⟩
  have B12 := hide (bnext B11.out b12)
  clear b12 B11 A11 D11
  set_option maxRecDepth 20000 in
  go_wp2_with fail
  go_ret
  exact ⟨rfl, B12.out⟩
theorem lineDraws_walk (pa : Option Addr) (pl pc : Nat) (ta : Option Addr) (tl tc : Nat) (tz : List Int) (ca : Option Addr) (cl cc : Nat) (cz : List Int) (ct mp X Y L Wd : Int) (w : World) (w0 : IsStructs [some .i64, some .i64] w pa pl pc) (w1 : IsRow .i64 w ta tl tc tz) (w2 : IsRow .i64 w ca cl cc cz)
    (w3 : (Lit.int .i64 ct).wf = true) (w4 : (Lit.int .i64 mp).wf = true) (w5 : (Lit.int .i64 X).wf = true) (w6 : (Lit.int .i64 Y).wf = true) (w7 : (Lit.int .i64 L).wf = true) (w8 : (Lit.int .i64 Wd).wf = true) (hL : HasHigh w) :
    Calls Tryd.prog 3 #[.agg #[.slice pa pl pc, .slice ta tl tc, .slice ca cl cc, .int .i64 ct, .int .i64 mp, .int .i64 X, .int .i64 Y, .int .i64 L, .int .i64 Wd]] w fun e w' => e = .returned (.bool true) ∧ Below w.heap.size w w' := by
  obtain ⟨qa, qw, hR⟩ := pokes_in w0
  have hA : bits .and .i64 ct 8191 = ct % 8192 := and_mask 13 (by decide) ct
  by_cases hn : Wd < 1 ∨ 512 < Wd
  · exact ld_out pa pl pc ta tl tc ca cl cc ct mp X Y L tz cz qa qw w (hide hR) (hide w1) (hide w2) (hide hL) _ hA (hide (by omega)) _ rfl _ rfl Wd (hide hn)
  · obtain ⟨N, rfl⟩ : ∃ N : Nat, Wd = (N : Int) := ⟨Wd.toNat, by omega⟩
    exact ld_in pa pl pc ta tl tc ca cl cc ct mp X Y L tz cz qa qw w (hide hR) (hide w1) (hide w2) (hide hL) _ hA (hide (by omega)) _ rfl _ rfl N (by omega) (by omega)
set_option maxRecDepth 100000 in
theorem lineDraws_lifted (os : Os) (started : os.Started) (H : Type) (enc : TypeId × Value → H) :
    ReturnsInHanded {} Tryd.checked os 3 .any (fun w args => (Rows.lineDrawsSpec.pre enc Tryd.prog Tryd.f3 [] false w args ∧ laidMetH Tryd.prog laidHigh w) ∧ sizedMet enc Tryd.prog Tryd.f3 (OpenSpec.ofChange Rows.lineDrawsSpec) false w args)
      (Rows.lineDrawsSpec.post enc Tryd.prog Tryd.f3 false true false false) := by
  refine returnsInHanded_of_change_and (C := Tryd.checked) (X := fun w _ => laidMetH Tryd.prog laidHigh w) (fun _ _ _ hh h => h.of_heap hh) own started (by kernel_rfl) Tryd.func3
    (ChangeSpec.witness_at (enc := enc) (C := Tryd.checked) (os := os) (X := fun w _ => laidMetH Tryd.prog laidHigh w) false (laidWorld os) #[.agg #[.slice none 0 0, .slice none 0 0, .slice none 0 0, .int .i64 0, .int .i64 0, .int .i64 0, .int .i64 0, .int .i64 0, .int .i64 0]] 8 rfl (by kernel_rfl) (by kernel_rfl) (by kernel_rfl) (by kernel_rfl) (by kernel_rfl) (laidWorld_high os _)) ?_
  intro W base args ds gs before hval0 hW _ _ hL _
  have hval : ∀ (j : Nat) t v, Tryd.f3.params[j]? = some t → args[j]? = some v → Value.okWide Tryd.prog W .any base t v := hval0
  have hW' := hW
  obtain ⟨p, q, hA0, hV, rfl, hfz, hnd⟩ := hW
  have hA : DataW.TrodAll enc Tryd.prog W 0 (fun _ => true) true Tryd.f3.params.toList args.toList ds p := hA0
  rw [Tryd.params3] at hA hval
  obtain ⟨v0, vs0, d0, ds0, p0, q0, hargs, rfl, rfl, h0, r0⟩ := trodAll_cons hA
  obtain ⟨rfl, rfl, rfl⟩ := trodAll_nil r0
  obtain rfl : args = #[v0] := by cases args; simp_all
  obtain ⟨rfl, rfl⟩ := trodVars_none hV
  have k0 := h0
  have lt0 : ∀ x ∈ p0, x.block < W.heap.size := by obtain ⟨m, hm⟩ := k0; exact DataW.trod_lt m _ _ _ hm
  obtain ⟨cs0, fu0, rfl, sz0, hf0⟩ := open_struct_cells (n := 9) Tryd.underlying25 (by kernel_rfl) (hval 0 25 v0 rfl rfl) h0
  obtain ⟨y0f0, hy0f0⟩ := hf0 0 _ rfl
  obtain ⟨a0f0, l0f0, c0f0, g0f0, w0f0⟩ := open_field_structs (ks := [some .i64, some .i64]) Tryd.underlying22 Tryd.underlying67 (by kernel_rfl) (fun j k hk => by
    rcases j with _ | _ | j
    · cases hk; exact ⟨_, rfl, rfl, by kernel_rfl, Tryd.underlying3⟩
    · cases hk; exact ⟨_, rfl, rfl, by kernel_rfl, Tryd.underlying3⟩
    · simp at hk) hy0f0
  have e0f0 := cell_at (by kernel_rfl) g0f0
  obtain ⟨y0f1, hy0f1⟩ := hf0 1 _ rfl
  obtain ⟨a0f1, l0f1, c0f1, z0f1, g0f1, w0f1⟩ := open_field_ints Tryd.underlying23 Tryd.underlying3 (by kernel_rfl) hy0f1
  have e0f1 := cell_at (by kernel_rfl) g0f1
  obtain ⟨y0f2, hy0f2⟩ := hf0 2 _ rfl
  obtain ⟨a0f2, l0f2, c0f2, z0f2, g0f2, w0f2⟩ := open_field_ints Tryd.underlying23 Tryd.underlying3 (by kernel_rfl) hy0f2
  have e0f2 := cell_at (by kernel_rfl) g0f2
  obtain ⟨y0f3, hy0f3⟩ := hf0 3 _ rfl
  obtain ⟨a0f3, g0f3, _, w0f3⟩ := DataW.trod_int Tryd.underlying3 hy0f3
  have e0f3 := cell_at (by kernel_rfl) g0f3
  obtain ⟨y0f4, hy0f4⟩ := hf0 4 _ rfl
  obtain ⟨a0f4, g0f4, _, w0f4⟩ := DataW.trod_int Tryd.underlying3 hy0f4
  have e0f4 := cell_at (by kernel_rfl) g0f4
  obtain ⟨y0f5, hy0f5⟩ := hf0 5 _ rfl
  obtain ⟨a0f5, g0f5, _, w0f5⟩ := DataW.trod_int Tryd.underlying3 hy0f5
  have e0f5 := cell_at (by kernel_rfl) g0f5
  obtain ⟨y0f6, hy0f6⟩ := hf0 6 _ rfl
  obtain ⟨a0f6, g0f6, _, w0f6⟩ := DataW.trod_int Tryd.underlying3 hy0f6
  have e0f6 := cell_at (by kernel_rfl) g0f6
  obtain ⟨y0f7, hy0f7⟩ := hf0 7 _ rfl
  obtain ⟨a0f7, g0f7, _, w0f7⟩ := DataW.trod_int Tryd.underlying3 hy0f7
  have e0f7 := cell_at (by kernel_rfl) g0f7
  obtain ⟨y0f8, hy0f8⟩ := hf0 8 _ rfl
  obtain ⟨a0f8, g0f8, _, w0f8⟩ := DataW.trod_int Tryd.underlying3 hy0f8
  have e0f8 := cell_at (by kernel_rfl) g0f8
  obtain rfl : cs0 = #[.slice a0f0 l0f0 c0f0, .slice a0f1 l0f1 c0f1, .slice a0f2 l0f2 c0f2, .int .i64 a0f3, .int .i64 a0f4, .int .i64 a0f5, .int .i64 a0f6, .int .i64 a0f7, .int .i64 a0f8] := cells_are [.slice a0f0 l0f0 c0f0, .slice a0f1 l0f1 c0f1, .slice a0f2 l0f2 c0f2, .int .i64 a0f3, .int .i64 a0f4, .int .i64 a0f5, .int .i64 a0f6, .int .i64 a0f7, .int .i64 a0f8] sz0 (fun j hj => by
    rcases j with _ | _ | _ | _ | _ | _ | _ | _ | _ | j
    · exact e0f0
    · exact e0f1
    · exact e0f2
    · exact e0f3
    · exact e0f4
    · exact e0f5
    · exact e0f6
    · exact e0f7
    · exact e0f8
    · exact absurd hj (by simp only [List.length_cons, List.length_nil]; omega))
  clear hy0f0 g0f0 e0f0 hy0f1 g0f1 e0f1 hy0f2 g0f2 e0f2 hy0f3 g0f3 e0f3 hy0f4 g0f4 e0f4 hy0f5 g0f5 e0f5 hy0f6 g0f6 e0f6 hy0f7 g0f7 e0f7 hy0f8 g0f8 e0f8 sz0 hf0
  clear hA0 hval0
  refine (lineDraws_walk a0f0 l0f0 c0f0 a0f1 l0f1 c0f1 z0f1 a0f2 l0f2 c0f2 z0f2 a0f3 a0f4 a0f5 a0f6 a0f7 a0f8 W w0f0 w0f1 w0f2 w0f3 w0f4 w0f5 w0f6 w0f7 w0f8 (laid_high hL)).mono fun e W' ⟨he, bel⟩ => ?_
  subst he
  exact ⟨_, rfl, _, _, _, [], _, [], hW', trodAll_mk1 (shut_bool Tryd.underlying4 _), (trodAll_cons_mk (Below.trod laidOut (by kernel_rfl) (of_decide_eq_true (by kernel_rfl)) k0 bel lt0) trodAll_mk0), rfl, bel.frame _, fun h => by cases h⟩

theorem lineDraws_over : Rows.lineDrawsRow.holds Tryd.pinned (OpenSpec.ofChange Rows.lineDrawsSpec) :=
  OpenClaim.holds_of_wide 3 Tryd.f3 rfl rfl rfl rfl rfl rfl rfl ⟨rfl, rfl, rfl, rfl, rfl⟩ rfl rfl rfl rfl rfl (by kernel_rfl) Tryd.func3 (by kernel_rfl)
    (of_decide_eq_true (by kernel_rfl)) (by unfold Func.isWrapper; first | (rw [if_pos (by decide +kernel)]; kernel_rfl) | (rw [if_neg (by decide +kernel)]; exact ⟨rfl, rfl⟩))
    (fun os started H enc _ => lineDraws_lifted os started H enc)

theorem lineDraws_row : Rows.LineDrawsSaid := lineDraws_over

theorem lineDraws_holds : Rows.LineDrawsCardSaid :=
  Claim7.holds_tied_plain_at .later [] [.data] true (true, "455e56977c035b47274077aa74f753e05550de80d597e40b46e3a249bcdfd607") false
    lineDraws_row (fun _ h => by cases h) (by kernel_rfl) (fun _ h => by cases h) lineDraws_row_tie rfl ⟨rfl, rfl⟩ (by kernel_rfl) rfl
    (fun f fn hf hfn => by
      obtain rfl : f = 3 := Option.some.inj ((show Tryd.prog.funcNamed "phosphor/phosphorlaw19.LineDraws" = some 3 by kernel_rfl).symm.trans hf) |>.symm
      obtain rfl : fn = Tryd.f3 := (Option.some.inj (Tryd.func3.symm.trans hfn)).symm
      exact ⟨by kernel_rfl, fun j t ht => by
        rw [Tryd.params3] at ht
        rcases j with _ | j
        · obtain rfl : t = 25 := by simpa using ht.symm
          exact (show Tryd.prog.wantsStandIn 25 = false by kernel_rfl)
        · simp at ht⟩)
    (by kernel_rfl)
#print axioms lineDraws_holds
end Go.Proofs.YtnhjhmfiapjenaaDoor
