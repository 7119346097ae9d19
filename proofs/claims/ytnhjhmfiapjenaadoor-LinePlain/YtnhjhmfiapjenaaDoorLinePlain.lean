/- LinePlain, at the landed commit: whatever setup comes in, the call returns true: where the colours are their numbers, a line is what the background's line and the sprites' line mix to; where neither is on, all is colour 0. No condition but what the card says. -/
import Derived.Test.YtnhjhmfiapjenaaDoorLaws19
import Derived.Test.YtnhjhmfiapjenaaDoorRMix19
import Derived.Test.YtnhjhmfiapjenaaDoorPics18
import Derived.Test.YtnhjhmfiapjenaaDoorGenA
import Derived.Test.YtnhjhmfiapjenaaDoorHighLaid
import Derived.Test.YtnhjhmfiapjenaaDoorTie
import Derived.Test.YtnhjhmfiapjenaaDoorCards
import Derived.BigQuiet
import Derived.SevenTiedAt
import Derived.OpenShut
import Derived.ShutString
import Derived.ChangeOld
namespace Go.Proofs.YtnhjhmfiapjenaaDoor
open Go.ChangeShapes Go.WideShapes Go.ChangeAt Go.RowKit
open Go.ChangeMaps (open_string shut_string)
set_option linter.unusedVariables false

/-- Colours that are their numbers, up to k. -/
def idTo (k j : Nat) : Int := if j < k then (j : Int) else 0
theorem shown_id (k : Int) (h0 : 0 ≤ k) (h1 : k < 512) : shownC (idTo 512) 0 k = k := by
  unfold shownC V12.colOf idTo
  rw [show (bitOf 0 7 == 1) = false by decide, if_neg (by decide : ¬ false = true), if_pos (by omega)]
  omega
set_option maxHeartbeats 4000000 in
theorem lp_all (pa : Option Addr) (pl pc : Nat) (ta : Option Addr) (tl tc : Nat) (ca : Option Addr) (cl cc : Nat) (ct mp X Y L Wd : Int) (tz : List Int) (qa qw : Nat → Int) (w : World) (HR : Hid (IsPokes w pa pl qa qw)) (HT : Hid (IsRow .i64 w ta tl tc tz)) (HH : Hid (HasHigh w))
    (M : Int) (hM : bits .and .i64 mp 255 = M) (N : Int) (hN : bits .and .i64 L 255 = N) :
    Calls Tryd.prog 4 #[.agg (rowS pa pl pc ta tl tc ca cl cc ct mp X Y L Wd)] w fun e w' => e = .returned (.bool true) ∧ Below w.heap.size w w' := by
  set_option maxRecDepth 20000 in
  go_enter Tryd.func4, Tryd.ntmps4
  have A0 := hide (show HasS (w.alloc (.cells (rowS pa pl pc ta tl tc ca cl cc ct mp X Y L Wd) 25)) w.heap.size (rowS pa pl pc ta tl tc ca cl cc ct mp X Y L Wd) from heap_alloc_new _ _)
  have s0 := A0.out.c0
  set_option maxRecDepth 20000 in
  go_wp2_with fail
  refine under_calls fun wa hwa => ?_
  have S1 := hide (show HasS wa w.heap.size (rowS pa pl pc ta tl tc ca cl cc ct mp X Y L Wd) by rw [hwa]; exact A0.out)
  have B1 := hide (show Below w.heap.size w wa by rw [hwa]; exact (Below.refl _ w).alloc (Nat.le_refl _) _)
  clear hwa A0 s0
  obtain ⟨zs, hzs⟩ : ∃ z, w.heap.size = z := ⟨_, rfl⟩
  rw [hzs] at S1 ⊢
  clear hzs
  refine (made_is pa pl pc qa qw wa (HR.out.next B1.out)).mono ?_
  rintro e w2 ⟨g, c, d, rfl, k2⟩
  have WF := hide (words_made qa qw (min pl 80))
  obtain ⟨m, hm⟩ : ∃ m, madeTo qa qw (min pl 80) = m := ⟨_, rfl⟩
  rw [hm] at k2 WF
  clear hm
  have E2 := hide (show Env w zs (rowS pa pl pc ta tl tc ca cl cc ct mp X Y L Wd) g c d m w2 from ⟨S1.out.next k2.below, k2.2.1, k2.2.2.1, bnext B1.out k2.below⟩)
  clear k2 S1 B1 HR
  have s1 := E2.out.1.c1
  set_option maxRecDepth 20000 in
  go_wp2_with fail
  refine (table_is ta tl tc tz w2 (HT.out.next E2.out.below)).mono ?_
  rintro e w3 ⟨rfl, b3⟩
  have E3 := hide (E2.out.next b3)
  clear b3 E2 s1 HT
  obtain ⟨T, hT⟩ : ∃ T, listT tl tz = T := ⟨_, rfl⟩
  rw [hT]
  clear hT
  have I3 := hide (info_T T)
  have T3 := hide (tabL_one T)
  have S3 := hide (tabL_size (fun _ => 0) T)
  have N3 := hide (heap_alloc_new w3 (.cells (tabL fun _ => 0).toArray 30))
  have N4 := hide (fun u : World => heap_alloc_new u (.cells (V12.rowV 0 0 fun _ => 0) 34))
  set_option maxRecDepth 20000 in
  go_wp2_with (first
    | (refine wpList_alloced rfl 30 rfl _ zero_T ?_; simp only [Act.put, List.setIfInBounds_toArray, List.set_cons_succ, List.set_cons_zero])
    | (refine wpList_store_row rfl 30 (.tmp 5) (.tmp 31) rfl w3.heap.size _ rfl rfl 30 _ N3.out I3.out S3.out T3.out ?_
       refine under_list fun w4 hw4 => ?_
       have n4 : Below w3.heap.size w3 w4 := by rw [hw4]; exact below_setRow ((Below.refl _ w3).alloc (Nat.le_refl _) _) (Nat.le_refl _) _
       have V4 := hide (show HasTb w4 w3.heap.size T by rw [hw4]; exact setRow_heap _ _ _ _ _ _ N3.out)
       have E4 := hide (E3.out.next n4)
       have L4 := hide (show w.heap.size ≤ w3.heap.size from E3.out.below.size)
       clear hw4 N3 n4 E3)
    | (refine wpList_built rfl 34 #[] rfl #[] (by simp) (V12.rowV 0 0 fun _ => 0) run_vce0 ?_; simp only [Act.put, List.setIfInBounds_toArray, List.set_cons_succ, List.set_cons_zero])
    | (refine wpList_alloced rfl 34 rfl _ zero_vce ?_; simp only [Act.put, List.setIfInBounds_toArray, List.set_cons_succ, List.set_cons_zero])
    | (refine wpList_store_row rfl 34 (.tmp 6) (.tmp 32) rfl w4.heap.size _ rfl rfl 34 _ (N4.out w4) (by rw [V12.rowV_size]; kernel_rfl) rfl (V12.rowV_one _ _ _) ?_
       refine under_list fun w5 hw5 => ?_
       have n5 : Below w4.heap.size w4 w5 := by rw [hw5]; exact below_setRow ((Below.refl _ w4).alloc (Nat.le_refl _) _) (Nat.le_refl _) _
       have C5 := hide (show V12.HasV 34 w5 w4.heap.size 0 0 (fun _ => 0) by rw [hw5]; exact setRow_heap _ _ _ _ _ _ (N4.out w4))
       have V5 := hide (V4.out.next n5)
       have E5 := hide (E4.out.next n5)
       have L5 := hide (show w.heap.size ≤ w4.heap.size from E4.out.below.size)
       clear hw5 N4 n5 E4 V4))
  obtain ⟨zt, hzt⟩ : ∃ z, w3.heap.size = z := ⟨_, rfl⟩
  obtain ⟨zv, hzv⟩ : ∃ z, w4.heap.size = z := ⟨_, rfl⟩
  rw [hzt] at V5 L4 ⊢
  rw [hzv] at C5 L5 ⊢
  clear hzt hzv I3 T3 S3
  go_loopw [7] (fun si wr => ∃ k : Nat, k ≤ 512 ∧ si = .int .i64 (k : Int) ∧ V12.HasV 34 wr zv 0 0 (idTo k) ∧ Only zv w5 wr) (fun si _ => 512 - (intOf si).toNat)
  case atStart => exact ⟨0, Nat.zero_le _, rfl, C5.out, Only.refl _ _⟩
  case round =>
    obtain ⟨k, hk, rfl, hv, ho⟩ := hrel
    have CK := hide hv
    have OK := hide ho
    clear hv ho
    by_cases hlt : k < 512
    · have ck := CK.out.at k hlt
      have zk := CK.out.frozen (2 + k)
      obtain ⟨x, hx⟩ : ∃ x, idTo k k = x := ⟨_, rfl⟩
      rw [hx] at ck
      clear hx
      set_option maxRecDepth 20000 in
      go_wp2_with fail
      go_roundw
      case rel =>
        refine ⟨k + 1, by omega, by go_num, ?_, OK.out.set _ _⟩
        have e := CK.out.set k (k : Int)
        rw [show V12.upd (idTo k) k (k : Int) = idTo (k + 1) by
          funext j
          unfold V12.upd idTo
          by_cases e : j = k
          · rw [if_pos e, if_pos (by omega), e]
          · rw [if_neg e]
            by_cases q : j < k
            · rw [if_pos q, if_pos (by omega)]
            · rw [if_neg q, if_neg (by omega)]] at e
        exact e
      case measure => simp [intOf]; omega
    · obtain rfl : k = 512 := by omega
      clear hlt hk
      have E6 := hide (E5.out.only C5.out (by decide) L5.out OK.out)
      have V6 := hide (show HasTb wr zt T from OK.out.obj V5.out (types_apart V5.out C5.out (by decide)))
      clear OK C5 E5 V5
      have N7 := hide (fun u : World => heap_alloc_new u (.cells (R15.rowG 0 fun _ => 0) 39))
      set_option maxRecDepth 20000 in
      go_wp2_with (first
        | (refine wpList_built rfl 39 #[] rfl #[] (by simp) (R15.rowG 0 fun _ => 0) run_regs0 ?_; simp only [Act.put, List.setIfInBounds_toArray, List.set_cons_succ, List.set_cons_zero])
        | (refine wpList_alloced rfl 39 rfl _ zero_regs ?_; simp only [Act.put, List.setIfInBounds_toArray, List.set_cons_succ, List.set_cons_zero])
        | (refine wpList_store_row rfl 39 (.tmp 8) (.tmp 41) rfl wr.heap.size _ rfl rfl 39 _ (N7.out wr) (R15.info_G _ _) rfl (R15.rowG_one _ _) ?_
           refine under_list fun w7 hw7 => ?_
           have n7 : Below wr.heap.size wr w7 := by rw [hw7]; exact below_setRow ((Below.refl _ wr).alloc (Nat.le_refl _) _) (Nat.le_refl _) _
           have G7 := hide (show R15.HasG 39 w7 wr.heap.size 0 (fun _ => 0) by rw [hw7]; exact setRow_heap _ _ _ _ _ _ (N7.out wr))
           have C7 := hide (CK.out.next n7)
           have V7 := hide (V6.out.next n7)
           have E7 := hide (E6.out.next n7)
           have L7 := hide (show w.heap.size ≤ wr.heap.size from E6.out.below.size)
           clear hw7 N7 n7 E6 V6 CK))
      obtain ⟨zr, hzr⟩ : ∃ z, wr.heap.size = z := ⟨_, rfl⟩
      rw [hzr] at G7 L7 ⊢
      clear hzr
      have c5 : w7.cell? ⟨zr, 6, none⟩ = some (.int .i64 0) := G7.out.at 5 (by decide)
      have c9 : w7.cell? ⟨zr, 10, none⟩ = some (.int .i64 0) := G7.out.at 9 (by decide)
      have f5 := G7.out.frozen 6
      have f9 := G7.out.frozen 10
      have s4 := E7.out.1.c4
      have nz := types_apart E7.out.1 G7.out (by decide)
      simp only [Act.put]
      go_cut [44] from 42 to 48 (fun _ wx => R15.HasG 39 wx zr 0 (regF 192 M) ∧ Only zr w7 wx)
      case first =>
        go_region
        all_goals (go_wp2_with fail)
        all_goals go_meet
        all_goals exact ⟨(G7.out.set 5 192).set 9 M, ((only_setCell _ _ _ _).set _ _).drew'⟩
      obtain ⟨hg8, ho8⟩ := hcut
      have E8 := hide (E7.out.only G7.out (by decide) L7.out ho8)
      have V8 := hide (show HasTb wc zt T from ho8.obj V7.out (types_apart V7.out G7.out (by decide)))
      have C8 := hide (show V12.HasV 34 wc zv 0 0 (idTo 512) from ho8.obj C7.out (types_apart C7.out G7.out (by decide)))
      have G8 := hide hg8
      clear hg8 ho8 c5 c9 f5 f9 s4 nz G7 C7 V7 E7 hM
      obtain ⟨p, hp⟩ : ∃ p, R15.pairOf M 4 = p := ⟨_, rfl⟩
      obtain ⟨q, hq⟩ : ∃ q : Nat, bitOf M 6 = (q : Int) := ⟨(bitOf M 6).toNat, by have := bitOf_01 M 6; omega⟩
      have PQ := hide (And.intro hp hq)
      clear hp hq
      have s5 := E8.out.1.c5
      have s6 := E8.out.1.c6
      have s7 := E8.out.1.c7
      have I8 := hide (info_T T)
      have N8 := hide (fun u : World => heap_alloc_new u (.cells zeroI 43))
      set_option maxRecDepth 20000 in
      go_wp2_with (first
        | (refine wpList_load_row rfl 39 (.tmp 8) rfl zr rfl _ _ _ _ G8.out Tryd.underlying39 rfl (R15.info_G _ _) ?_)
        | (refine wpList_load_row rfl 30 (.tmp 5) rfl zt rfl _ _ _ _ V8.out Tryd.underlying30 rfl I8.out ?_)
        | (refine wpList_load_row rfl 34 (.tmp 6) rfl zv rfl _ _ _ _ C8.out Tryd.underlying34 rfl (by rw [V12.rowV_size]; kernel_rfl) ?_)
        | (refine wpList_built rfl 43 _ rfl #[(0, .pointer (some ⟨g, 0, none⟩)), (1, .agg (R15.rowG 0 (regF 192 M))), (2, .agg (tabL T).toArray), (3, .agg (V12.rowV 0 0 (idTo 512))), (4, .int .i64 X), (5, .int .i64 Y), (6, .int .i64 N), (7, .int .i64 60)] (by simp [Act.eval, Act.put]) (inL [.pointer (some ⟨g, 0, none⟩)] (gL 0 (regF 192 M)) (tabL T) (vL 0 0 (idTo 512)) X Y N 60).toArray (run_input _ rfl _ _ _ _ _ _ _ _ _ _) ?_; simp only [Act.put, List.setIfInBounds_toArray, List.set_cons_succ, List.set_cons_zero])
        | (refine wpList_alloced rfl 43 rfl _ zero_input ?_; simp only [Act.put, List.setIfInBounds_toArray, List.set_cons_succ, List.set_cons_zero])
        | (refine wpList_store_row rfl 43 (.tmp 9) (.tmp 60) rfl wc.heap.size _ rfl rfl 43 _ (N8.out wc) (info_in _ _ _ _ _ _ _ _ _ _ _) (in_size _ _ _ _ _ _ _ _ _ _ _) (in_one _ rfl _ _ _ _ _ _ _ _ _ _) ?_
           refine under_list fun w9 hw9 => ?_
           have n9 : Below wc.heap.size wc w9 := by rw [hw9]; exact below_setRow ((Below.refl _ wc).alloc (Nat.le_refl _) _) (Nat.le_refl _) _
           have J9 := hide (show HasIn w9 wc.heap.size (.pointer (some ⟨g, 0, none⟩)) 0 (regF 192 M) T 0 0 (idTo 512) X Y N 60 by rw [hw9]; exact setRow_heap _ _ _ _ _ _ (N8.out wc))
           have E9 := hide (E8.out.next n9)
           have V9 := hide (V8.out.next n9)
           have G9 := hide (G8.out.next n9)
           have L9 := hide (show w.heap.size ≤ wc.heap.size from E8.out.below.size)
           clear hw9 n9 N8 E8 V8 G8 C8)
        | (refine wpList_load_row rfl 43 (.tmp 9) rfl wc.heap.size rfl _ _ _ _ J9.out Tryd.underlying43 rfl (info_in _ _ _ _ _ _ _ _ _ _ _) ?_))
      obtain ⟨zi, hzi⟩ : ∃ z, wc.heap.size = z := ⟨_, rfl⟩
      rw [hzi] at J9 L9 ⊢
      clear hzi s5 s6 s7
      have D9 := hide (draw_is g m 0 0 1 0 0 w9 E9.out.2.1 _ (gL 0 (regF 192 M)) (tabL T) (vL 0 0 (idTo 512)) 0 (regF 192 M) T 0 0 (idTo 512) X Y N (hide rfl) (hide rfl) (hide rfl) 60 (hide rfl) (hide (HH.out.next E9.out.below)) WF (by omega) (by omega) p q PQ.out.1 PQ.out.2 true true (show (bitOf 192 7 == 1) = true by decide) (show (bitOf 192 6 == 1) = true by decide))
      have KM := hide (R15.map_any 0 (regF 192 M) p q PQ.out.1 PQ.out.2)
      obtain ⟨W, hW⟩ : ∃ x, R15.wideOf p = x := ⟨_, rfl⟩
      obtain ⟨H, hH⟩ : ∃ x, R15.highOf2 q = x := ⟨_, rfl⟩
      have HWH := hide (And.intro hW hH)
      rw [hW, hH] at D9 KM
      clear hW hH
      refine D9.out.mono ?_
      rintro e w10 ⟨ga, _, rfl, r10, b10⟩
      have R10 := hide (show RowN w10 ga 60 (numOf true true (wordAt m) W H X Y T N 60) from r10.ext fun j _ => by
        have k := num_le true true (wordAt m) WF.out W H X Y T N 60 j
        exact shown_id _ k.1 k.2)
      have J10 := hide (J9.out.next b10)
      have E10 := hide (E9.out.next b10)
      have V10 := hide (V9.out.next b10)
      have G10 := hide (G9.out.next b10)
      clear r10 b10 D9 J9 E9 V9 G9
      obtain ⟨RT, hRT⟩ : ∃ R, runT (wordAt m) T N 64 = R := ⟨_, rfl⟩
      obtain ⟨ov, hov⟩ : ∃ v, RT.2.2 = v := ⟨_, rfl⟩
      obtain ⟨ht, hht⟩ : ∃ v, anyHit 60 RT.1 = v := ⟨_, rfl⟩
      have HRT := hide (show runT (wordAt m) T N 64 = RT ∧ RT.2.2 = ov ∧ anyHit 60 RT.1 = ht from ⟨hRT, hov, hht⟩)
      rw [show overOf true (wordAt m) T N = ov by unfold overOf; rw [hRT, hov]; rfl, show hitOf true (wordAt m) T N 60 = ht by unfold hitOf; rw [hRT, hht]; rfl]
      clear hRT hov hht
      set_option maxRecDepth 20000 in
      go_wp2_with (first | (refine wpList_load_row rfl 39 (.tmp 8) rfl zr rfl _ _ _ _ G10.out Tryd.underlying39 rfl (R15.info_G _ _) ?_))
      refine (KM.out w10).mono ?_
      rintro e w11 ⟨rfl, b11⟩
      have R11 := hide (R10.out.next b11)
      have J11 := hide (J10.out.next b11)
      have E11 := hide (E10.out.next b11)
      have V11 := hide (V10.out.next b11)
      clear b11 R10 J10 E10 V10 G10 KM
      have s5 := E11.out.1.c5
      have s6 := E11.out.1.c6
      set_option maxRecDepth 20000 in
      go_wp2_with fail
      refine (T17.line_is g m 0 0 1 0 0 w11 E11.out.2.1 (fun j => T17.pixelG (wordAt m) W H X Y j 0) WF.out W H X Y 0 60 (by omega) (by omega) (fun _ => rfl)).mono ?_
      rintro e w12 ⟨gb, _, rfl, r12, b12⟩
      have Q12 := hide (show RowN w12 gb 60 (backOf true (wordAt m) W H X Y) from r12)
      have R12 := hide (R11.out.next b12)
      have J12 := hide (J11.out.next b12)
      have E12 := hide (E11.out.next b12)
      have V12' := hide (V11.out.next b12)
      clear r12 b12 R11 J11 E11 V11 s5 s6
      have s7 := E12.out.1.c7
      set_option maxRecDepth 20000 in
      go_wp2_with (first | (refine wpList_load_row rfl 30 (.tmp 5) rfl zt rfl _ _ _ _ V12'.out Tryd.underlying30 rfl I8.out ?_))
      refine (sline_is g m 0 0 1 0 0 w12 E12.out.2.1 (hide (HH.out.next E12.out.below)) WF T N 60 60 rfl (by omega) (by omega)).mono ?_
      rintro e w13 ⟨cC, fC, _, rfl, s13, b13⟩
      rw [HRT.out.1] at s13 ⊢
      rw [HRT.out.2.1, HRT.out.2.2]
      have S13 := hide s13
      have Q13 := hide (Q12.out.next b13)
      have R13 := hide (R12.out.next b13)
      have J13 := hide (J12.out.next b13)
      have E13 := hide (E12.out.next b13)
      clear s13 b13 Q12 R12 J12 E12 V12' s7
      have N13 := hide (fun u : World => heap_alloc_new u (.cells #[.slice none 0 0, .slice none 0 0] 58))
      set_option maxRecDepth 20000 in
      go_wp2_with (first
        | (refine wpList_store_row rfl 58 (.tmp 16) (.tmp 88) rfl w13.heap.size _ rfl rfl 58 _ (N13.out w13) (by kernel_rfl) rfl (by kernel_rfl) ?_
           refine under_list fun w14 hw14 => ?_
           have n14 : Below w13.heap.size w13 w14 := by rw [hw14]; exact below_setRow ((Below.refl _ w13).alloc (Nat.le_refl _) _) (Nat.le_refl _) _
           have P14 := hide (show HasP w14 w13.heap.size cC fC 60 by rw [hw14]; exact setRow_heap _ _ _ _ _ _ (N13.out w13))
           have p0 := P14.out.c0
           have p1 := P14.out.c1
           clear hw14))
      have S14 := hide (S13.out.next n14)
      have Q14 := hide (Q13.out.next n14)
      have R14 := hide (R13.out.next n14)
      have J14 := hide (J13.out.next n14)
      have E14 := hide (E13.out.next n14)
      clear n14 N13 S13 Q13 R13 J13 E13
      have HCO := hide (show ∀ j, j < 60 → -9223372036854775808 ≤ (RT.1 j).1 ∧ (RT.1 j).1 ≤ 1099511627776 from fun j _ => by
        have k := runT_col (wordAt m) T N 64 j
        rw [HRT.out.1] at k
        omega)
      refine (mix_is (some ⟨gb, 0, none⟩) (some ⟨cC, 0, none⟩) (some ⟨fC, 0, none⟩) 60 60 60 60 60 60 60 _ (fun j => (RT.1 j).1) (fun j => (RT.1 j).2.1) w14 (hide Q14.out.ints) (hide fun j hj => ⟨cC, 0, rfl, S14.out.lc, by rw [Nat.zero_add]; exact S14.out.cj j hj⟩) (hide fun j hj => ⟨fC, 0, rfl, S14.out.lf, by rw [Nat.zero_add]; exact S14.out.fj j hj⟩) (by omega) (by omega) (by omega) HCO (by omega)).mono ?_
      rintro e w15 ⟨gm, _, rfl, r15, b15⟩
      have M15 := hide (show RowN w15 gm 60 (numOf true true (wordAt m) W H X Y T N 60) from r15.ext fun j hj => by
        unfold numOf sprOf
        rw [HRT.out.1]
        rfl)
      have R15 := hide (R14.out.next b15)
      have J15 := hide (J14.out.next b15)
      have E15 := hide (E14.out.next b15)
      clear r15 b15 P14 p0 p1 S14 Q14 R14 J14 E14 HCO
      set_option maxRecDepth 20000 in
      go_wp2_with fail
      refine (ints_same _ _ 60 60 60 _ w15 (hide R15.out.ints) (hide M15.out.ints) (by omega)).mono ?_
      rintro e w16 ⟨rfl, b16⟩
      have J16 := hide (J15.out.next b16)
      have E16 := hide (E15.out.next b16)
      clear b16 R15 M15 J15 E15
      obtain ⟨v7, c7⟩ := J16.out.cell (o := 7) (by omega)
      have z7 := frozen_of_row w16 zi 7 _ _ J16.out
      have U16 := hide (J16.out.setG 5 (by omega) 63)
      have O16 := hide (only_setCell w16 zi 7 (.int .i64 63))
      set_option maxRecDepth 20000 in
      go_wp2_with (first | (refine wpList_load_row rfl 43 (.tmp 9) rfl zi rfl _ _ _ _ U16.out Tryd.underlying43 rfl (info_in _ _ _ _ _ _ _ _ _ _ _) ?_))
      refine under_calls fun w17 hw17 => ?_
      have E17 := hide (show Env w zs (rowS pa pl pc ta tl tc ca cl cc ct mp X Y L Wd) g c d m w17 by rw [hw17]; exact E16.out.only J16.out (by decide) L9.out O16.out)
      clear hw17 U16 O16 J16 E16 c7 z7
      refine (draw_is g m 0 0 1 0 0 w17 E17.out.2.1 _ (gL 0 (R15.upd (regF 192 M) 5 63)) (tabL T) (vL 0 0 (idTo 512)) 0 (R15.upd (regF 192 M) 5 63) T 0 0 (idTo 512) X Y N (hide rfl) (hide rfl) (hide rfl) 60 (hide rfl) (hide (HH.out.next E17.out.below)) WF (by omega) (by omega) p q PQ.out.1 PQ.out.2 false false (show (bitOf 63 7 == 1) = false by decide) (show (bitOf 63 6 == 1) = false by decide)).mono ?_
      rintro e w18 ⟨gd, _, rfl, r18, b18⟩
      have R18 := hide (show RowN w18 gd 60 (fun _ => 0) from r18.ext fun j _ => by
        have e : numOf false false (wordAt m) (R15.wideOf p) (R15.highOf2 q) X Y T N 60 j = 0 := by
          unfold numOf mixOf sprOf
          rw [if_neg (fun h => h.2.1 rfl)]
          rfl
        rw [e]
        exact shown_id 0 (by omega) (by omega))
      have B18 := hide (bnext E17.out.below b18)
      clear r18 b18 E17
      set_option maxRecDepth 20000 in
      go_wp2_with fail
      go_loopw [22] (fun si wr => ∃ k : Nat, k ≤ 60 ∧ si = .int .i64 (k : Int) ∧ wr = w18) (fun si _ => 60 - (intOf si).toNat)
      case atStart => exact ⟨0, Nat.zero_le _, rfl, rfl⟩
      case round =>
        obtain ⟨k, hk, rfl, hw⟩ := hrel
        subst hw
        by_cases hlt : k < 60
        · have ck := R18.out.at k hlt
          set_option maxRecDepth 20000 in
          go_wp2_with fail
          go_roundw
          case rel => exact ⟨k + 1, by omega, by go_num, by trivial⟩
          case measure => simp [intOf]; omega
        · obtain rfl : k = 60 := by omega
          set_option maxRecDepth 20000 in
          go_wp2_with fail
          go_ret
          exact ⟨rfl, B18.out⟩
theorem linePlain_walk (pa : Option Addr) (pl pc : Nat) (ta : Option Addr) (tl tc : Nat) (tz : List Int) (ca : Option Addr) (cl cc : Nat) (cz : List Int) (ct mp X Y L Wd : Int) (w : World) (w0 : IsStructs [some .i64, some .i64] w pa pl pc) (w1 : IsRow .i64 w ta tl tc tz) (w2 : IsRow .i64 w ca cl cc cz)
    (w3 : (Lit.int .i64 ct).wf = true) (w4 : (Lit.int .i64 mp).wf = true) (w5 : (Lit.int .i64 X).wf = true) (w6 : (Lit.int .i64 Y).wf = true) (w7 : (Lit.int .i64 L).wf = true) (w8 : (Lit.int .i64 Wd).wf = true) (hL : HasHigh w) :
    Calls Tryd.prog 4 #[.agg #[.slice pa pl pc, .slice ta tl tc, .slice ca cl cc, .int .i64 ct, .int .i64 mp, .int .i64 X, .int .i64 Y, .int .i64 L, .int .i64 Wd]] w fun e w' => e = .returned (.bool true) ∧ Below w.heap.size w w' := by
  obtain ⟨qa, qw, hR⟩ := pokes_in w0
  exact lp_all pa pl pc ta tl tc ca cl cc ct mp X Y L Wd tz qa qw w (hide hR) (hide w1) (hide hL) _ rfl _ rfl
set_option maxRecDepth 100000 in
theorem linePlain_lifted (os : Os) (started : os.Started) (H : Type) (enc : TypeId × Value → H) :
    ReturnsInHanded {} Tryd.checked os 4 .any (fun w args => (Rows.linePlainSpec.pre enc Tryd.prog Tryd.f4 [] false w args ∧ laidMetH Tryd.prog laidHigh w) ∧ sizedMet enc Tryd.prog Tryd.f4 (OpenSpec.ofChange Rows.linePlainSpec) false w args)
      (Rows.linePlainSpec.post enc Tryd.prog Tryd.f4 false true false false) := by
  refine returnsInHanded_of_change_and (C := Tryd.checked) (X := fun w _ => laidMetH Tryd.prog laidHigh w) (fun _ _ _ hh h => h.of_heap hh) own started (by kernel_rfl) Tryd.func4
    (ChangeSpec.witness_at (enc := enc) (C := Tryd.checked) (os := os) (X := fun w _ => laidMetH Tryd.prog laidHigh w) false (laidWorld os) #[.agg #[.slice none 0 0, .slice none 0 0, .slice none 0 0, .int .i64 0, .int .i64 0, .int .i64 0, .int .i64 0, .int .i64 0, .int .i64 0]] 8 rfl (by kernel_rfl) (by kernel_rfl) (by kernel_rfl) (by kernel_rfl) (by kernel_rfl) (laidWorld_high os _)) ?_
  intro W base args ds gs before hval0 hW _ _ hL _
  have hval : ∀ (j : Nat) t v, Tryd.f4.params[j]? = some t → args[j]? = some v → Value.okWide Tryd.prog W .any base t v := hval0
  have hW' := hW
  obtain ⟨p, q, hA0, hV, rfl, hfz, hnd⟩ := hW
  have hA : DataW.TrodAll enc Tryd.prog W 0 (fun _ => true) true Tryd.f4.params.toList args.toList ds p := hA0
  rw [Tryd.params4] at hA hval
  obtain ⟨v0, vs0, d0, ds0, p0, q0, hargs, rfl, rfl, h0, r0⟩ := trodAll_cons hA
  obtain ⟨rfl, rfl, rfl⟩ := trodAll_nil r0
  obtain rfl : args = #[v0] := by cases args; simp_all
  obtain ⟨rfl, rfl⟩ := trodVars_none hV
  have k0 := h0
  have lt0 : ∀ x ∈ p0, x.block < W.heap.size := by obtain ⟨m, hm⟩ := k0; exact DataW.trod_lt m _ _ _ hm
  obtain ⟨cs0, fu0, rfl, sz0, hf0⟩ := open_struct_cells (n := 9) Tryd.underlying25 (by kernel_rfl) (hval 0 25 v0 rfl rfl) h0
  obtain ⟨y0f0, hy0f0⟩ := hf0 0 _ rfl
  obtain ⟨a0f0, l0f0, c0f0, g0f0, w0f0⟩ := open_field_structs (ks := [some .i64, some .i64]) Tryd.underlying22 Tryd.underlying67 (by kernel_rfl) (fun j k hk => by
    rcases j with _ | _ | j
    · cases hk; exact ⟨_, rfl, rfl, by kernel_rfl, Tryd.underlying3⟩
    · cases hk; exact ⟨_, rfl, rfl, by kernel_rfl, Tryd.underlying3⟩
    · simp at hk) hy0f0
  have e0f0 := cell_at (by kernel_rfl) g0f0
  obtain ⟨y0f1, hy0f1⟩ := hf0 1 _ rfl
  obtain ⟨a0f1, l0f1, c0f1, z0f1, g0f1, w0f1⟩ := open_field_ints Tryd.underlying23 Tryd.underlying3 (by kernel_rfl) hy0f1
  have e0f1 := cell_at (by kernel_rfl) g0f1
  obtain ⟨y0f2, hy0f2⟩ := hf0 2 _ rfl
  obtain ⟨a0f2, l0f2, c0f2, z0f2, g0f2, w0f2⟩ := open_field_ints Tryd.underlying23 Tryd.underlying3 (by kernel_rfl) hy0f2
  have e0f2 := cell_at (by kernel_rfl) g0f2
  obtain ⟨y0f3, hy0f3⟩ := hf0 3 _ rfl
  obtain ⟨a0f3, g0f3, _, w0f3⟩ := DataW.trod_int Tryd.underlying3 hy0f3
  have e0f3 := cell_at (by kernel_rfl) g0f3
  obtain ⟨y0f4, hy0f4⟩ := hf0 4 _ rfl
  obtain ⟨a0f4, g0f4, _, w0f4⟩ := DataW.trod_int Tryd.underlying3 hy0f4
  have e0f4 := cell_at (by kernel_rfl) g0f4
  obtain ⟨y0f5, hy0f5⟩ := hf0 5 _ rfl
  obtain ⟨a0f5, g0f5, _, w0f5⟩ := DataW.trod_int Tryd.underlying3 hy0f5
  have e0f5 := cell_at (by kernel_rfl) g0f5
  obtain ⟨y0f6, hy0f6⟩ := hf0 6 _ rfl
  obtain ⟨a0f6, g0f6, _, w0f6⟩ := DataW.trod_int Tryd.underlying3 hy0f6
  have e0f6 := cell_at (by kernel_rfl) g0f6
  obtain ⟨y0f7, hy0f7⟩ := hf0 7 _ rfl
  obtain ⟨a0f7, g0f7, _, w0f7⟩ := DataW.trod_int Tryd.underlying3 hy0f7
  have e0f7 := cell_at (by kernel_rfl) g0f7
  obtain ⟨y0f8, hy0f8⟩ := hf0 8 _ rfl
  obtain ⟨a0f8, g0f8, _, w0f8⟩ := DataW.trod_int Tryd.underlying3 hy0f8
  have e0f8 := cell_at (by kernel_rfl) g0f8
  obtain rfl : cs0 = #[.slice a0f0 l0f0 c0f0, .slice a0f1 l0f1 c0f1, .slice a0f2 l0f2 c0f2, .int .i64 a0f3, .int .i64 a0f4, .int .i64 a0f5, .int .i64 a0f6, .int .i64 a0f7, .int .i64 a0f8] := cells_are [.slice a0f0 l0f0 c0f0, .slice a0f1 l0f1 c0f1, .slice a0f2 l0f2 c0f2, .int .i64 a0f3, .int .i64 a0f4, .int .i64 a0f5, .int .i64 a0f6, .int .i64 a0f7, .int .i64 a0f8] sz0 (fun j hj => by
    rcases j with _ | _ | _ | _ | _ | _ | _ | _ | _ | j
    · exact e0f0
    · exact e0f1
    · exact e0f2
    · exact e0f3
    · exact e0f4
    · exact e0f5
    · exact e0f6
    · exact e0f7
    · exact e0f8
    · exact absurd hj (by simp only [List.length_cons, List.length_nil]; omega))
  clear hy0f0 g0f0 e0f0 hy0f1 g0f1 e0f1 hy0f2 g0f2 e0f2 hy0f3 g0f3 e0f3 hy0f4 g0f4 e0f4 hy0f5 g0f5 e0f5 hy0f6 g0f6 e0f6 hy0f7 g0f7 e0f7 hy0f8 g0f8 e0f8 sz0 hf0
  clear hA0 hval0
  refine (linePlain_walk a0f0 l0f0 c0f0 a0f1 l0f1 c0f1 z0f1 a0f2 l0f2 c0f2 z0f2 a0f3 a0f4 a0f5 a0f6 a0f7 a0f8 W w0f0 w0f1 w0f2 w0f3 w0f4 w0f5 w0f6 w0f7 w0f8 (laid_high hL)).mono fun e W' ⟨he, bel⟩ => ?_
  subst he
  exact ⟨_, rfl, _, _, _, [], _, [], hW', trodAll_mk1 (shut_bool Tryd.underlying4 _), (trodAll_cons_mk (Below.trod laidOut (by kernel_rfl) (of_decide_eq_true (by kernel_rfl)) k0 bel lt0) trodAll_mk0), rfl, bel.frame _, fun h => by cases h⟩

theorem linePlain_over : Rows.linePlainRow.holds Tryd.pinned (OpenSpec.ofChange Rows.linePlainSpec) :=
  OpenClaim.holds_of_wide 4 Tryd.f4 rfl rfl rfl rfl rfl rfl rfl ⟨rfl, rfl, rfl, rfl, rfl⟩ rfl rfl rfl rfl rfl (by kernel_rfl) Tryd.func4 (by kernel_rfl)
    (of_decide_eq_true (by kernel_rfl)) (by unfold Func.isWrapper; first | (rw [if_pos (by decide +kernel)]; kernel_rfl) | (rw [if_neg (by decide +kernel)]; exact ⟨rfl, rfl⟩))
    (fun os started H enc _ => linePlain_lifted os started H enc)

theorem linePlain_row : Rows.LinePlainSaid := linePlain_over

theorem linePlain_holds : Rows.LinePlainCardSaid :=
  Claim7.holds_tied_plain_at .later [] [.data] true (true, "455e56977c035b47274077aa74f753e05550de80d597e40b46e3a249bcdfd607") false
    linePlain_row (fun _ h => by cases h) (by kernel_rfl) (fun _ h => by cases h) linePlain_row_tie rfl ⟨rfl, rfl⟩ (by kernel_rfl) rfl
    (fun f fn hf hfn => by
      obtain rfl : f = 4 := Option.some.inj ((show Tryd.prog.funcNamed "phosphor/phosphorlaw19.LinePlain" = some 4 by kernel_rfl).symm.trans hf) |>.symm
      obtain rfl : fn = Tryd.f4 := (Option.some.inj (Tryd.func4.symm.trans hfn)).symm
      exact ⟨by kernel_rfl, fun j t ht => by
        rw [Tryd.params4] at ht
        rcases j with _ | j
        · obtain rfl : t = 25 := by simpa using ht.symm
          exact (show Tryd.prog.wantsStandIn 25 = false by kernel_rfl)
        · simp at ht⟩)
    (by kernel_rfl)
#print axioms linePlain_holds
end Go.Proofs.YtnhjhmfiapjenaaDoor
