/- SpritesFlip, at the landed commit: whatever slice of words and numbers come in, the call returns true: a sprite that is turned round is that sprite from right to left, and so from top to bottom. No condition but what the card says. -/
import Derived.Test.YtnlohhgogdiheaaDoorPics18
import Derived.Test.YtnlohhgogdiheaaDoorOf18
import Derived.Test.YtnlohhgogdiheaaDoorFlip18
import Derived.Test.YtnlohhgogdiheaaDoorMade17
import Derived.Test.YtnlohhgogdiheaaDoorHighLaid
import Derived.Test.YtnlohhgogdiheaaDoorArrays
import Derived.Test.YtnlohhgogdiheaaDoorTie
import Derived.Test.YtnlohhgogdiheaaDoorCards
import Derived.BigQuiet
import Derived.Deep.CutRange
import Derived.SevenTiedAt
import Derived.OpenShut
import Derived.ShutString
import Derived.ChangeOld
namespace Go.Proofs.YtnlohhgogdiheaaDoor
open Go.ChangeShapes Go.WideShapes Go.ChangeAt Go.RowKit
open Go.ChangeMaps (open_string shut_string)
set_option linter.unusedVariables false

theorem and_2047 (n : Int) : bits .and .i64 n 2047 = n % 2048 := and_mask 11 (by decide) n
/-- The three lines of the law at one place. -/
theorem flip_at (g : Int → Int) (cc d d1 d2 W H : Int) (lo hi : Int) (l0 : 0 ≤ lo) (l1 : lo < 512) (h0 : 0 ≤ hi) (h1 : hi < 4) (ed : lo + 4096 * hi = d) (e1 : d + 2048 = d1) (e2 : d + 32768 = d2) (hW : sprW d = W) (hH : sprH d = H) (y : Int) (hy0 : 0 ≤ y) (hy1 : y < H) :
    (∀ i j : Nat, (i : Int) < W → W - 1 - (i : Int) = (j : Int) → ((runT g (fourT 64 32 cc d) y 64).1 i).1 = ((runT g (fourT 64 32 cc d1) y 64).1 j).1) ∧ (∀ i : Nat, W ≤ i → ((runT g (fourT 64 32 cc d) y 64).1 i).1 = 0) ∧ ∀ i : Nat, ((runT g (fourT 64 32 cc d) y 64).1 i).1 = ((runT g (fourT 64 32 cc d2) (H - 1 - y) 64).1 i).1 := by
  subst ed e1 e2
  obtain ⟨s1, s2, s3⟩ := turn_same lo hi l0 l1 h0 h1 2048 (.inl rfl)
  obtain ⟨u1, u2, u3⟩ := turn_same lo hi l0 l1 h0 h1 32768 (.inr rfl)
  obtain ⟨⟨b1, b2⟩, ⟨b3, b4⟩, ⟨b5, b6⟩⟩ := turn_bits lo hi l0 l1 h0 h1
  rw [hW] at s1 u1
  rw [hH] at s2 u2
  have z (x : Int) : ∀ j, 4 ≤ j → fourT 64 32 cc x j = 0 := fun j hj => by unfold fourT; rw [if_neg (by omega), if_neg (by omega), if_neg (by omega), if_neg (by omega)]
  have A (i : Nat) := runT_corner g (fourT 64 32 cc (lo + 4096 * hi)) rfl rfl (z _) y hy0 (by show y < sprH (lo + 4096 * hi); rw [hH]; exact hy1) i
  have B (i : Nat) := runT_corner g (fourT 64 32 cc (lo + 4096 * hi + 2048)) rfl rfl (z _) y hy0 (by show y < sprH (lo + 4096 * hi + 2048); rw [s2]; exact hy1) i
  have D (i : Nat) := runT_corner g (fourT 64 32 cc (lo + 4096 * hi + 32768)) rfl rfl (z _) (H - 1 - y) (by omega) (by show H - 1 - y < sprH (lo + 4096 * hi + 32768); rw [u2]; omega) i
  simp only [show ∀ x, fourT 64 32 cc x 3 = x from fun _ => rfl, show ∀ x, fourT 64 32 cc x 2 = cc from fun _ => rfl, hW, hH, s1, s2, s3, u1, u2, u3, b1, b2, b3, b4, b5, b6] at A B D
  refine ⟨fun i j hi hj => ?_, fun i hi => ?_, fun i => ?_⟩
  · rw [A i, B j, if_pos hi, if_pos (by omega), ← hj, pix_over]
  · rw [A i, if_neg (by omega)]
  · rw [A i, D i]
    by_cases hi : (i : Int) < W
    · rw [if_pos hi, if_pos hi, pix_down]
    · rw [if_neg hi, if_neg hi]
set_option maxHeartbeats 4000000 in
theorem spritesFlip_walk (a0 : Option Addr) (len0 cap0 : Nat) (a1 a2 : Int) (w : World) (w0 : IsStructs [some .i64, some .i64] w a0 len0 cap0) (w1 : (Lit.int .i64 a1).wf = true) (w2 : (Lit.int .i64 a2).wf = true) (hL : HasHigh w) : Calls Tryd.prog 6 #[.slice a0 len0 cap0, .int .i64 a1, .int .i64 a2] w fun e w' => e = .returned (.bool true) ∧ Below w.heap.size w w' := by
  obtain ⟨pa, pw, hR⟩ := pokes_in w0
  have HH := hide hL
  have HR := hide hR
  clear w0 w1 w2 hR hL
  have ra := and_2047 a1
  obtain ⟨cc, hcc⟩ : ∃ c, a1 % 2048 = c := ⟨_, rfl⟩
  rw [hcc] at ra
  clear hcc
  obtain ⟨lo, hi, rd, l0, l1, h0, h1⟩ := attr_is a2
  obtain ⟨o1, o2⟩ := or_is lo hi l0 l1 h0 h1
  obtain ⟨d, ed⟩ : ∃ d, lo + 4096 * hi = d := ⟨_, rfl⟩
  obtain ⟨d1, e1⟩ : ∃ x, d + 2048 = x := ⟨_, rfl⟩
  obtain ⟨d2, e2⟩ : ∃ x, d + 32768 = x := ⟨_, rfl⟩
  rw [ed] at rd o1 o2
  rw [e1] at o1
  rw [e2] at o2
  obtain ⟨W, hW⟩ : ∃ W, sprW d = W := ⟨_, rfl⟩
  obtain ⟨H, hH⟩ : ∃ H, sprH d = H := ⟨_, rfl⟩
  have bW := sprW_is d
  have bH := sprH_is d
  have FL := hide (fun (g : Int → Int) (y : Int) => flip_at g cc d d1 d2 W H lo hi l0 l1 h0 h1 ed e1 e2 hW hH y)
  have MO := hide (show oneV 64 32 cc d = .agg #[.int .i64 0, .int .i64 0, .int .i64 (sprC cc W H), .int .i64 W, .int .i64 H, .int .i64 (sprP d), .bool (sprB d 7), .bool (sprB d 11), .bool (sprB d 15)] by unfold oneV; rw [hW, hH]; rfl)
  rw [hW] at bW
  rw [hH] at bH
  clear hW hH ed e1 e2 l0 l1 h0 h1
  generalize sprC cc W H = C at MO
  generalize sprP d = P at MO
  generalize sprB d 7 = f7 at MO
  generalize sprB d 11 = f11 at MO
  generalize sprB d 15 = f15 at MO
  set_option maxRecDepth 20000 in
  go_enter Tryd.func6, Tryd.ntmps6
  set_option maxRecDepth 20000 in
  go_wp2_with fail
  refine (made_is a0 len0 cap0 pa pw w HR.out).mono ?_
  rintro e w2 ⟨g, c, dd, rfl, k2⟩
  have WF := hide (words_made pa pw (min len0 80))
  generalize madeTo pa pw (min len0 80) = m at *
  have M2 := hide k2.2.1
  have B2 := hide k2.below
  clear k2 HR
  have HB0 := hide (built_4 64 32 cc d)
  have HB1 := hide (built_4 64 32 cc d1)
  have HB2 := hide (built_4 64 32 cc d2)
  have I0 := hide (info_T (fourT 64 32 cc d))
  have Q0 := hide (tabL_one (fourT 64 32 cc d))
  have S0 := hide (tabL_size (fun _ => 0) (fourT 64 32 cc d))
  have I1 := hide (info_T (fourT 64 32 cc d1))
  have Q1 := hide (tabL_one (fourT 64 32 cc d1))
  have S1 := hide (tabL_size (fun _ => 0) (fourT 64 32 cc d1))
  have I2 := hide (info_T (fourT 64 32 cc d2))
  have Q2 := hide (tabL_one (fourT 64 32 cc d2))
  have S2 := hide (tabL_size (fun _ => 0) (fourT 64 32 cc d2))
  have N2 := hide (heap_alloc_new w2 (.cells (tabL fun _ => 0).toArray 23))
  set_option maxRecDepth 20000 in
  go_wp2_with (first
    | (refine wpList_built rfl 23 _ rfl #[(0, .int .i64 64), (1, .int .i64 32), (2, .int .i64 cc), (3, .int .i64 d)] (by simp [Act.eval]) _ HB0.out ?_
       clear HB0
       simp only [Act.put, List.setIfInBounds_toArray, List.set_cons_succ, List.set_cons_zero])
    | (refine wpList_built rfl 23 _ rfl #[(0, .int .i64 64), (1, .int .i64 32), (2, .int .i64 cc), (3, .int .i64 d1)] (by simp [Act.eval]) _ HB1.out ?_
       clear HB1
       simp only [Act.put, List.setIfInBounds_toArray, List.set_cons_succ, List.set_cons_zero])
    | (refine wpList_built rfl 23 _ rfl #[(0, .int .i64 64), (1, .int .i64 32), (2, .int .i64 cc), (3, .int .i64 d2)] (by simp [Act.eval]) _ HB2.out ?_
       clear HB2
       simp only [Act.put, List.setIfInBounds_toArray, List.set_cons_succ, List.set_cons_zero])
    | (refine wpList_alloced rfl 23 rfl _ zero_T ?_; simp only [Act.put, List.setIfInBounds_toArray, List.set_cons_succ, List.set_cons_zero])
    | (refine wpList_store_row rfl 23 (.tmp 9) (.tmp 36) rfl w2.heap.size _ rfl rfl 23 _ N2.out I0.out S0.out Q0.out ?_
       refine under_list fun w3 hw3 => ?_
       have n3 : Below w2.heap.size w2 w3 := by rw [hw3]; exact below_setRow ((Below.refl _ w2).alloc (Nat.le_refl _) _) (Nat.le_refl _) _
       have U3 := hide (show HasTb w3 w2.heap.size (fourT 64 32 cc d) by rw [hw3]; exact setRow_heap _ _ _ _ _ _ N2.out)
       have M3 := hide (M2.out.next n3)
       have B3 := hide (bnext B2.out n3)
       have N3 := hide (heap_alloc_new w3 (.cells (tabL fun _ => 0).toArray 23))
       clear hw3 n3 M2 B2 N2)
    | (refine wpList_store_row rfl 23 (.tmp 10) (.tmp 41) rfl w3.heap.size _ rfl rfl 23 _ N3.out I1.out S1.out Q1.out ?_
       refine under_list fun w4 hw4 => ?_
       have n4 : Below w3.heap.size w3 w4 := by rw [hw4]; exact below_setRow ((Below.refl _ w3).alloc (Nat.le_refl _) _) (Nat.le_refl _) _
       have V4 := hide (show HasTb w4 w3.heap.size (fourT 64 32 cc d1) by rw [hw4]; exact setRow_heap _ _ _ _ _ _ N3.out)
       have U4 := hide (U3.out.next n4)
       have M4 := hide (M3.out.next n4)
       have B4 := hide (bnext B3.out n4)
       have N4 := hide (heap_alloc_new w4 (.cells (tabL fun _ => 0).toArray 23))
       clear hw4 n4 M3 B3 N3 U3)
    | (refine wpList_store_row rfl 23 (.tmp 11) (.tmp 46) rfl w4.heap.size _ rfl rfl 23 _ N4.out I2.out S2.out Q2.out ?_
       refine under_list fun w5 hw5 => ?_
       have n5 : Below w4.heap.size w4 w5 := by rw [hw5]; exact below_setRow ((Below.refl _ w4).alloc (Nat.le_refl _) _) (Nat.le_refl _) _
       have X5 := hide (show HasTb w5 w4.heap.size (fourT 64 32 cc d2) by rw [hw5]; exact setRow_heap _ _ _ _ _ _ N4.out)
       have V5 := hide (V4.out.next n5)
       have U5 := hide (U4.out.next n5)
       have M5 := hide (M4.out.next n5)
       have B5 := hide (bnext B4.out n5)
       clear hw5 n5 M4 B4 N4 U4 V4)
    | (refine wpList_load_row rfl 23 (.tmp 9) rfl w2.heap.size rfl _ _ _ _ U5.out Tryd.underlying23 rfl I0.out ?_))
  obtain ⟨zt, hzt⟩ : ∃ z, w2.heap.size = z := ⟨_, rfl⟩
  obtain ⟨zu, hzu⟩ : ∃ z, w3.heap.size = z := ⟨_, rfl⟩
  obtain ⟨zv, hzv⟩ : ∃ z, w4.heap.size = z := ⟨_, rfl⟩
  rw [hzt] at U5 ⊢
  rw [hzu] at V5 ⊢
  rw [hzv] at X5 ⊢
  clear hzt hzu hzv Q0 S0 Q1 S1 Q2 S2
  have CO : Calls Tryd.prog 10 #[.agg (tabL (fourT 64 32 cc d)).toArray, .int .i64 0] w5 fun e w' => e = .returned (oneV 64 32 cc d) ∧ Below w5.heap.size w5 w' := of_is (fourT 64 32 cc d) 0 (by omega) w5 (hide (HH.out.next B5.out))
  rw [MO.out] at CO
  refine CO.mono ?_
  clear CO MO
  rintro e w6 ⟨rfl, b6⟩
  have U6 := hide (U5.out.next b6)
  have V6 := hide (V5.out.next b6)
  have X6 := hide (X5.out.next b6)
  have M6 := hide (M5.out.next b6)
  have B6 := hide (bnext B5.out b6)
  clear b6 U5 V5 X5 M5 B5
  set_option maxRecDepth 20000 in
  go_upto_region 9 with fail
  refine under_name fun w7 hw7 => ?_
  have n7 : Below w6.heap.size w6 w7 := by rw [hw7]; exact (Below.refl _ w6).alloc (Nat.le_refl _) _
  have O7 := hide (show HasO w7 w6.heap.size 0 0 C W H P f7 f11 f15 by rw [hw7]; exact heap_alloc_new _ _)
  have U7 := hide (U6.out.next n7)
  have V7 := hide (V6.out.next n7)
  have X7 := hide (X6.out.next n7)
  have M7 := hide (M6.out.next n7)
  have B7 := hide (bnext B6.out n7)
  clear hw7 n7 U6 V6 X6 M6 B6
  obtain ⟨zo, hzo⟩ : ∃ z, w6.heap.size = z := ⟨_, rfl⟩
  rw [hzo] at O7 ⊢
  clear hzo
  have hH0 : 16 ≤ H := by omega
  have hH1 : H ≤ 64 := by omega
  go_cut [66] from 49 to 66 (fun s66 wx => s66 = .bool false ∧ wx = w7)
  case first =>
    have c3 := O7.out.c3
    have c4 := O7.out.c4
    have hd1 : decide (H < 16) = false := decide_eq_false (by omega)
    have hd2 : decide (64 < H) = false := decide_eq_false (by omega)
    rcases bW with rfl | rfl
    · go_wp2_with fail
      go_meet
      exact ⟨rfl, rfl⟩
    · go_wp2_with fail
      go_meet
      exact ⟨rfl, rfl⟩
  obtain ⟨rfl, rfl⟩ := hcut
  obtain ⟨HN, hHN⟩ : ∃ n : Nat, H = (n : Int) := ⟨H.toNat, by omega⟩
  obtain ⟨LN, hLN⟩ : ∃ n : Nat, W = (n : Int) := ⟨W.toNat, by omega⟩
  have HE := hide (show H = (HN : Int) ∧ W = (LN : Int) from ⟨hHN, hLN⟩)
  clear hHN hLN
  set_option maxRecDepth 20000 in
  go_wp2_with fail
  go_loopw [13] (fun si wr => ∃ k : Nat, k ≤ HN ∧ si = .int .i64 (k : Int) ∧ HasTb wr zt (fourT 64 32 cc d) ∧ HasTb wr zu (fourT 64 32 cc d1) ∧ HasTb wr zv (fourT 64 32 cc d2) ∧ HasO wr zo 0 0 C W H P f7 f11 f15 ∧ HasM wr g true m 0 0 1 0 0 ∧ Below w.heap.size w wr) (fun si _ => HN - (intOf si).toNat)
  case atStart => exact ⟨0, Nat.zero_le _, rfl, U7.out, V7.out, X7.out, O7.out, M7.out, B7.out⟩
  case round =>
    obtain ⟨k, hk, rfl, r1, r2, r3, r4, r5, r6⟩ := hrel
    have UK := hide r1
    have VK := hide r2
    have XK := hide r3
    have OK := hide r4
    have MK := hide r5
    have BK := hide r6
    clear r1 r2 r3 r4 r5 r6 U7 V7 X7 O7 M7 B7
    by_cases hlt : k < HN
    · have c4 := OK.out.c4
      have hl2 : (k : Int) < H := by have := HE.out.1; omega
      have FK := hide (FL.out (wordAt m) (k : Int) (by omega) hl2)
      set_option maxRecDepth 20000 in
      go_wp2_with (first | (refine wpList_load_row rfl 23 (.tmp 9) rfl zt rfl _ _ _ _ UK.out Tryd.underlying23 rfl I0.out ?_))
      have hdk : decide ((k : Int) < H) = true := decide_eq_true hl2
      try simp only [hdk]
      clear hdk c4
      have CL : Calls Tryd.prog 13 #[.pointer (some ⟨g, 0, none⟩), .agg (tabL (fourT 64 32 cc d)).toArray, .int .i64 (k : Int), .int .i64 64] _ _ := sline_is g m 0 0 1 0 0 _ MK.out (hide (HH.out.next BK.out)) WF (fourT 64 32 cc d) (k : Int) 64 64 rfl (by omega) (by omega)
      refine CL.mono ?_
      clear CL
      rintro e w8 ⟨cA, fA, _, rfl, s8, b8⟩
      obtain ⟨RA, hRA⟩ : ∃ R, runT (wordAt m) (fourT 64 32 cc d) (k : Int) 64 = R := ⟨_, rfl⟩
      rw [hRA] at s8 FK ⊢
      clear hRA
      have SA8 := hide s8
      have U8 := hide (UK.out.next b8)
      have V8 := hide (VK.out.next b8)
      have X8 := hide (XK.out.next b8)
      have O8 := hide (OK.out.next b8)
      have M8 := hide (MK.out.next b8)
      have B8 := hide (bnext BK.out b8)
      clear s8 b8 UK VK XK OK MK BK
      have N8 := hide ((Below.refl _ w8).alloc (Nat.le_refl _) (.cells #[.slice (some ⟨cA, 0, none⟩) 64 64, .slice (some ⟨fA, 0, none⟩) 64 64] 39))
      obtain ⟨v1, hv1⟩ : ∃ v, RA.2.2 = v := ⟨_, rfl⟩
      obtain ⟨v2, hv2⟩ : ∃ v, anyHit 64 RA.1 = v := ⟨_, rfl⟩
      rw [hv1, hv2]
      clear hv1 hv2
      set_option maxRecDepth 20000 in
      go_wp2_with (first | (refine wpList_load_row rfl 23 (.tmp 10) rfl zu rfl _ _ _ _ (V8.out.next N8.out) Tryd.underlying23 rfl I1.out ?_))
      refine under_calls fun w9 hw9 => ?_
      have n9 : Below w8.heap.size w8 w9 := by rw [hw9]; exact N8.out
      have P9 := hide (show HasP w9 w8.heap.size cA fA 64 by rw [hw9]; exact heap_alloc_new _ _)
      have SA9 := hide (SA8.out.next n9)
      have U9 := hide (U8.out.next n9)
      have V9 := hide (V8.out.next n9)
      have X9 := hide (X8.out.next n9)
      have O9 := hide (O8.out.next n9)
      have M9 := hide (M8.out.next n9)
      have B9 := hide (bnext B8.out n9)
      clear hw9 n9 N8 SA8 U8 V8 X8 O8 M8 B8
      obtain ⟨zA, hzA⟩ : ∃ z, w8.heap.size = z := ⟨_, rfl⟩
      rw [hzA] at P9 ⊢
      clear hzA
      have CL : Calls Tryd.prog 13 #[.pointer (some ⟨g, 0, none⟩), .agg (tabL (fourT 64 32 cc d1)).toArray, .int .i64 (k : Int), .int .i64 64] _ _ := sline_is g m 0 0 1 0 0 _ M9.out (hide (HH.out.next B9.out)) WF (fourT 64 32 cc d1) (k : Int) 64 64 rfl (by omega) (by omega)
      refine CL.mono ?_
      clear CL
      rintro e w10 ⟨cB, fB, _, rfl, s10, b10⟩
      obtain ⟨RB, hRB⟩ : ∃ R, runT (wordAt m) (fourT 64 32 cc d1) (k : Int) 64 = R := ⟨_, rfl⟩
      rw [hRB] at s10 FK ⊢
      clear hRB
      have SB10 := hide s10
      have P10 := hide (P9.out.next b10)
      have SA10 := hide (SA9.out.next b10)
      have U10 := hide (U9.out.next b10)
      have V10 := hide (V9.out.next b10)
      have X10 := hide (X9.out.next b10)
      have O10 := hide (O9.out.next b10)
      have M10 := hide (M9.out.next b10)
      have B10 := hide (bnext B9.out b10)
      clear s10 b10 P9 SA9 U9 V9 X9 O9 M9 B9
      have N10 := hide ((Below.refl _ w10).alloc (Nat.le_refl _) (.cells #[.slice (some ⟨cB, 0, none⟩) 64 64, .slice (some ⟨fB, 0, none⟩) 64 64] 39))
      obtain ⟨v1, hv1⟩ : ∃ v, RB.2.2 = v := ⟨_, rfl⟩
      obtain ⟨v2, hv2⟩ : ∃ v, anyHit 64 RB.1 = v := ⟨_, rfl⟩
      rw [hv1, hv2]
      clear hv1 hv2
      have o4 := O10.out.c4
      have ol := O10.out.lt
      set_option maxRecDepth 20000 in
      go_wp2_with (first | (refine wpList_load_row rfl 23 (.tmp 11) rfl zv rfl _ _ _ _ (X10.out.next N10.out) Tryd.underlying23 rfl I2.out ?_))
      clear o4 ol
      refine under_calls fun w11 hw11 => ?_
      have n11 : Below w10.heap.size w10 w11 := by rw [hw11]; exact N10.out
      have Q11 := hide (show HasP w11 w10.heap.size cB fB 64 by rw [hw11]; exact heap_alloc_new _ _)
      have P11 := hide (P10.out.next n11)
      have SA11 := hide (SA10.out.next n11)
      have SB11 := hide (SB10.out.next n11)
      have U11 := hide (U10.out.next n11)
      have V11 := hide (V10.out.next n11)
      have X11 := hide (X10.out.next n11)
      have O11 := hide (O10.out.next n11)
      have M11 := hide (M10.out.next n11)
      have B11 := hide (bnext B10.out n11)
      clear hw11 n11 N10 P10 SA10 SB10 U10 V10 X10 O10 M10 B10
      obtain ⟨zB, hzB⟩ : ∃ z, w10.heap.size = z := ⟨_, rfl⟩
      rw [hzB] at Q11 ⊢
      clear hzB
      have CL : Calls Tryd.prog 13 #[.pointer (some ⟨g, 0, none⟩), .agg (tabL (fourT 64 32 cc d2)).toArray, .int .i64 (H - 1 - (k : Int)), .int .i64 64] _ _ := sline_is g m 0 0 1 0 0 _ M11.out (hide (HH.out.next B11.out)) WF (fourT 64 32 cc d2) (H - 1 - (k : Int)) 64 64 rfl (by omega) (by omega)
      refine CL.mono ?_
      clear CL
      rintro e w12 ⟨cC, fC, _, rfl, s12, b12⟩
      obtain ⟨RC, hRC⟩ : ∃ R, runT (wordAt m) (fourT 64 32 cc d2) (H - 1 - (k : Int)) 64 = R := ⟨_, rfl⟩
      rw [hRC] at s12 FK ⊢
      clear hRC
      have SC12 := hide s12
      have Q12 := hide (Q11.out.next b12)
      have P12 := hide (P11.out.next b12)
      have SA12 := hide (SA11.out.next b12)
      have SB12 := hide (SB11.out.next b12)
      have U12 := hide (U11.out.next b12)
      have V12 := hide (V11.out.next b12)
      have X12 := hide (X11.out.next b12)
      have O12 := hide (O11.out.next b12)
      have M12 := hide (M11.out.next b12)
      have B12 := hide (bnext B11.out b12)
      clear s12 b12 Q11 P11 SA11 SB11 U11 V11 X11 O11 M11 B11
      obtain ⟨v1, hv1⟩ : ∃ v, RC.2.2 = v := ⟨_, rfl⟩
      obtain ⟨v2, hv2⟩ : ∃ v, anyHit 64 RC.1 = v := ⟨_, rfl⟩
      rw [hv1, hv2]
      clear hv1 hv2
      have p0 := P12.out.c0
      have q0 := Q12.out.c0
      have pl := P12.out.lt
      have ql := Q12.out.lt
      set_option maxRecDepth 20000 in
      go_wp2_with fail
      clear p0 q0 pl ql
      refine under_name fun wd hwd => ?_
      have nd : Below w12.heap.size w12 wd := by rw [hwd]; exact (Below.refl _ w12).alloc (Nat.le_refl _) _
      have R1 := hide (show HasP wd w12.heap.size cC fC 64 by rw [hwd]; exact heap_alloc_new _ _)
      have Q1 := hide (Q12.out.next nd)
      have P1 := hide (P12.out.next nd)
      have SA1 := hide (SA12.out.next nd)
      have SB1 := hide (SB12.out.next nd)
      have SC1 := hide (SC12.out.next nd)
      have U1 := hide (U12.out.next nd)
      have V1 := hide (V12.out.next nd)
      have X1 := hide (X12.out.next nd)
      have O1 := hide (O12.out.next nd)
      have M1 := hide (M12.out.next nd)
      have B1 := hide (bnext B12.out nd)
      clear hwd nd Q12 P12 SA12 SB12 SC12 U12 V12 X12 O12 M12 B12
      obtain ⟨zC, hzC⟩ : ∃ z, w12.heap.size = z := ⟨_, rfl⟩
      rw [hzC] at R1 ⊢
      clear hzC
      go_loopw [23] (fun si wr => ∃ i : Nat, i ≤ 64 ∧ si = .int .i64 (i : Int) ∧ Below wd.heap.size wd wr) (fun si _ => 64 - (intOf si).toNat)
      case atStart => exact ⟨0, Nat.zero_le _, rfl, Below.refl _ _⟩
      case round =>
        obtain ⟨i, hi, rfl, hw⟩ := hrel
        have NR := hide hw
        clear hw
        by_cases hli : i < 64
        · have pa0 := (P1.out.next NR.out).c0
          have qa0 := (Q1.out.next NR.out).c0
          have ra0 := (R1.out.next NR.out).c0
          have oa3 := (O1.out.next NR.out).c3
          have ca := (SA1.out.next NR.out).cj i hli
          have cc := (SC1.out.next NR.out).cj i hli
          have e3 := FK.out.2.2 i
          by_cases hiw : (i : Int) < W
          · obtain ⟨j, hj⟩ : ∃ j : Nat, W - 1 - (i : Int) = (j : Int) := ⟨(W - 1 - (i : Int)).toNat, by omega⟩
            have hj64 : j < 64 := by omega
            have cb := (SB1.out.next NR.out).cj j hj64
            have e1 := FK.out.1 i j hiw hj
            rw [← e1] at cb
            rw [← e3] at cc
            clear e1 e3
            generalize (RA.1 i).1 = x at *
            have hd1 : decide ((i : Int) < W) = true := decide_eq_true hiw
            have hd2 : decide (W ≤ (i : Int)) = false := decide_eq_false (by omega)
            set_option maxRecDepth 20000 in
            go_wp2_with fail
            go_quiet (fail)
            set_option maxRecDepth 20000 in
            go_wp2_with fail
            exact ⟨⟨i + 1, by omega, by go_num, bnext NR.out (below_drew (Below.refl _ _) _)⟩, by simp [intOf]; omega⟩
          · have e2 := FK.out.2.1 i (by omega)
            rw [← e3, e2] at cc
            rw [e2] at ca
            clear e2 e3
            have hd1 : decide ((i : Int) < W) = false := decide_eq_false hiw
            have hd2 : decide (W ≤ (i : Int)) = true := decide_eq_true (by omega)
            set_option maxRecDepth 20000 in
            go_wp2_with fail
            go_quiet (fail)
            set_option maxRecDepth 20000 in
            go_wp2_with fail
            exact ⟨⟨i + 1, by omega, by go_num, bnext NR.out (below_drew (Below.refl _ _) _)⟩, by simp [intOf]; omega⟩
        · obtain rfl : i = 64 := by omega
          set_option maxRecDepth 20000 in
          go_wp2_with fail
          exact ⟨⟨k + 1, by omega, by go_num, U1.out.next NR.out, V1.out.next NR.out, X1.out.next NR.out, O1.out.next NR.out, M1.out.next NR.out, bnext B1.out NR.out⟩, by simp [intOf]; omega⟩
    · obtain rfl : k = HN := by omega
      have c4 := OK.out.c4
      have hd4 : decide ((k : Int) < H) = false := decide_eq_false (by have := HE.out.1; omega)
      set_option maxRecDepth 20000 in
      go_wp2_with fail
      go_ret
      exact ⟨rfl, BK.out⟩
set_option maxRecDepth 100000 in
theorem spritesFlip_lifted (os : Os) (started : os.Started) (H : Type) (enc : TypeId × Value → H) :
    ReturnsInHanded {} Tryd.checked os 6 .any (fun w args => (Rows.spritesFlipSpec.pre enc Tryd.prog Tryd.f6 [] false w args ∧ laidMetH Tryd.prog laidHigh w) ∧ sizedMet enc Tryd.prog Tryd.f6 (OpenSpec.ofChange Rows.spritesFlipSpec) false w args)
      (Rows.spritesFlipSpec.post enc Tryd.prog Tryd.f6 false true false false) := by
  refine returnsInHanded_of_change_and (C := Tryd.checked) (X := fun w _ => laidMetH Tryd.prog laidHigh w) (fun _ _ _ hh h => h.of_heap hh) own started (by kernel_rfl) Tryd.func6
    (ChangeSpec.witness_at (enc := enc) (C := Tryd.checked) (os := os) (X := fun w _ => laidMetH Tryd.prog laidHigh w) false (laidWorld os) #[.slice none 0 0, .int .i64 0, .int .i64 0] 8 rfl (by kernel_rfl) (by kernel_rfl) (by kernel_rfl) (by kernel_rfl) (by kernel_rfl) (laidWorld_high os _)) ?_
  intro W base args ds gs before hval0 hW _ _ hL _
  have hval : ∀ (j : Nat) t v, Tryd.f6.params[j]? = some t → args[j]? = some v → Value.okWide Tryd.prog W .any base t v := hval0
  have hW' := hW
  obtain ⟨p, q, hA0, hV, rfl, hfz, hnd⟩ := hW
  have hA : DataW.TrodAll enc Tryd.prog W 0 (fun _ => true) true Tryd.f6.params.toList args.toList ds p := hA0
  rw [Tryd.params6] at hA hval
  obtain ⟨v0, vs0, d0, ds0, p0, q0, hargs, rfl, rfl, h0, r0⟩ := trodAll_cons hA
  obtain ⟨v1, vs1, d1, ds1, p1, q1, rfl, rfl, rfl, h1, r1⟩ := trodAll_cons r0
  obtain ⟨v2, vs2, d2, ds2, p2, q2, rfl, rfl, rfl, h2, r2⟩ := trodAll_cons r1
  obtain ⟨rfl, rfl, rfl⟩ := trodAll_nil r2
  obtain rfl : args = #[v0, v1, v2] := by cases args; simp_all
  obtain ⟨rfl, rfl⟩ := trodVars_none hV
  obtain ⟨a0, len0, cap0, rfl⟩ := okWide_slice Tryd.underlying31 (hval 0 31 v0 rfl rfl)
  have k0 := h0
  have lt0 : ∀ x ∈ p0, x.block < W.heap.size := by obtain ⟨m, hm⟩ := k0; exact DataW.trod_lt m _ _ _ hm
  have w0 : IsStructs [some .i64, some .i64] W a0 len0 cap0 := open_structs Tryd.underlying31 Tryd.underlying45 (by kernel_rfl) (fun j k hk => by
    rcases j with _ | _ | j
    · cases hk; exact ⟨_, rfl, rfl, by kernel_rfl, Tryd.underlying3⟩
    · cases hk; exact ⟨_, rfl, rfl, by kernel_rfl, Tryd.underlying3⟩
    · simp at hk) h0
  obtain ⟨a1, rfl, rfl, rfl, w1⟩ := open_int Tryd.underlying3 (hval 1 3 v1 rfl rfl) h1
  obtain ⟨a2, rfl, rfl, rfl, w2⟩ := open_int Tryd.underlying3 (hval 2 3 v2 rfl rfl) h2
  clear hA0 hval0
  refine (spritesFlip_walk a0 len0 cap0 a1 a2 W w0 w1 w2 (laid_high hL)).mono fun e W' ⟨he, bel⟩ => ?_
  subst he
  exact ⟨_, rfl, _, _, _, [], _, [], hW', trodAll_mk1 (shut_bool Tryd.underlying4 _), (trodAll_cons_mk (Below.trod laidOut (by kernel_rfl) (of_decide_eq_true (by kernel_rfl)) k0 bel lt0) (trodAll_cons_mk (shut_int Tryd.underlying3 w1) (trodAll_cons_mk (shut_int Tryd.underlying3 w2) trodAll_mk0))), rfl, bel.frame _, fun h => by cases h⟩

theorem spritesFlip_over : Rows.spritesFlipRow.holds Tryd.pinned (OpenSpec.ofChange Rows.spritesFlipSpec) :=
  OpenClaim.holds_of_wide 6 Tryd.f6 rfl rfl rfl rfl rfl rfl rfl ⟨rfl, rfl, rfl, rfl, rfl⟩ rfl rfl rfl rfl rfl (by kernel_rfl) Tryd.func6 (by kernel_rfl)
    (of_decide_eq_true (by kernel_rfl)) (by unfold Func.isWrapper; first | (rw [if_pos (by decide +kernel)]; kernel_rfl) | (rw [if_neg (by decide +kernel)]; exact ⟨rfl, rfl⟩))
    (fun os started H enc _ => spritesFlip_lifted os started H enc)

theorem spritesFlip_row : Rows.SpritesFlipSaid := spritesFlip_over

theorem spritesFlip_holds : Rows.SpritesFlipCardSaid :=
  Claim7.holds_tied_plain_at .later [] [.data] true (true, "0a37a5a4315790cd1c1c663d3aa689065fbd0f428761630f5de7b36c5ae14ed1") false
    spritesFlip_row (fun _ h => by cases h) (by kernel_rfl) (fun _ h => by cases h) spritesFlip_row_tie rfl ⟨rfl, rfl⟩ (by kernel_rfl) rfl
    (fun f fn hf hfn => by
      obtain rfl : f = 6 := Option.some.inj ((show Tryd.prog.funcNamed "phosphor/phosphorlaw18.SpritesFlip" = some 6 by kernel_rfl).symm.trans hf) |>.symm
      obtain rfl : fn = Tryd.f6 := (Option.some.inj (Tryd.func6.symm.trans hfn)).symm
      exact ⟨by kernel_rfl, fun j t ht => by
        rw [Tryd.params6] at ht
        rcases j with _ | _ | _ | j
        · obtain rfl : t = 31 := by simpa using ht.symm
          exact (show Tryd.prog.wantsStandIn 31 = false by kernel_rfl)
        · obtain rfl : t = 3 := by simpa using ht.symm
          exact (show Tryd.prog.wantsStandIn 3 = false by kernel_rfl)
        · obtain rfl : t = 3 := by simpa using ht.symm
          exact (show Tryd.prog.wantsStandIn 3 = false by kernel_rfl)
        · simp at ht⟩)
    (by kernel_rfl)
#print axioms spritesFlip_holds
end Go.Proofs.YtnlohhgogdiheaaDoor
