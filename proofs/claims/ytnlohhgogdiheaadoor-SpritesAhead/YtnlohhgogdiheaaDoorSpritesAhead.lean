/- SpritesAhead, at the landed commit: whatever slice of words, slice of a table's words and number come in, the call returns true: a pixel of the first sprite is never lost, however many follow; without it the others are as they were where it has none. No condition but what the card says. -/
import Derived.Test.YtnlohhgogdiheaaDoorPics18
import Derived.Test.YtnlohhgogdiheaaDoorMade17
import Derived.Test.YtnlohhgogdiheaaDoorHighLaid
import Derived.Test.YtnlohhgogdiheaaDoorArrays
import Derived.Test.YtnlohhgogdiheaaDoorTie
import Derived.Test.YtnlohhgogdiheaaDoorCards
import Derived.BigQuiet
import Derived.SevenTiedAt
import Derived.OpenShut
import Derived.ShutString
import Derived.ChangeOld
namespace Go.Proofs.YtnlohhgogdiheaaDoor
open Go.ChangeShapes Go.WideShapes Go.ChangeAt Go.RowKit
open Go.ChangeMaps (open_string shut_string)
set_option linter.unusedVariables false

/-- The three lines of the law, at one place. -/
theorem ahead_at (g : Int → Int) (T : Nat → Int) (y : Int) (hy0 : 0 ≤ y) (hy1 : y < 256) (U : Nat → Int) (hU0 : U 0 = 1023) (hU : ∀ j, 1 ≤ j → U j = T j) :
    ((runT g (fourT (T 0) (T 1) (T 2) (T 3)) y 64).2.2 = false ∧ (∀ N, anyHit N (runT g (fourT (T 0) (T 1) (T 2) (T 3)) y 64).1 = false) ∧ ∀ N, anyHit N (runT g U y 64).1 = false) ∧
    ∀ x, (((runT g (fourT (T 0) (T 1) (T 2) (T 3)) y 64).1 x).1 ≠ 0 → ((runT g T y 64).1 x).1 = ((runT g (fourT (T 0) (T 1) (T 2) (T 3)) y 64).1 x).1 ∧ ((runT g T y 64).1 x).2.1 = ((runT g (fourT (T 0) (T 1) (T 2) (T 3)) y 64).1 x).2.1) ∧
      ((runT g T y 64).2.2 = false → ((runT g (fourT (T 0) (T 1) (T 2) (T 3)) y 64).1 x).1 = 0 → ((runT g T y 64).1 x).1 = ((runT g U y 64).1 x).1 ∧ ((runT g T y 64).1 x).2.1 = ((runT g U y 64).1 x).2.1) := by
  have e1 : runT g (fourT (T 0) (T 1) (T 2) (T 3)) y 64 = runT g T y 1 := (fourT_run g _ _ _ _ y hy0).trans (runT_one_congr g _ T y rfl rfl rfl rfl)
  have hU1 : onT U y 0 = false := by
    unfold onT
    rw [show U (4 * 0) = 1023 from hU0, show sprY 1023 = 959 from rfl, decide_eq_false (show ¬ (959 : Int) ≤ y by omega), Bool.false_and]
  rw [e1]
  refine ⟨⟨(runT_one g T y).1, fun N => anyHit_none fun x => ((runT_one g T y).2 x).1, fun N => anyHit_none fun x => (runT_nohit g U y hU1 64 x).2⟩, fun x => ⟨fun h => ?_, fun ho h0 => ?_⟩⟩
  · have q := runT_keep g T y 1 x h 63
    rw [show 1 + 63 = 64 from rfl] at q
    exact q
  · have q := runT_rest g T U y hU1 (fun j hj => (hU j (by omega)).symm) 63
    rw [show 63 + 1 = 64 from rfl] at q
    exact (q ho).2.2 x h0
set_option maxHeartbeats 4000000 in
theorem spritesAhead_walk (a0 : Option Addr) (len0 cap0 : Nat) (a1 : Option Addr) (len1 cap1 : Nat) (z1 : List Int) (a2 : Int) (w : World) (w0 : IsStructs [some .i64, some .i64] w a0 len0 cap0) (w1 : IsRow .i64 w a1 len1 cap1 z1) (w2 : (Lit.int .i64 a2).wf = true) (hL : HasHigh w) : Calls Tryd.prog 5 #[.slice a0 len0 cap0, .slice a1 len1 cap1, .int .i64 a2] w fun e w' => e = .returned (.bool true) ∧ Below w.heap.size w w' := by
  obtain ⟨pa, pw, hR⟩ := pokes_in w0
  have HH := hide hL
  have HW := hide w1
  have HR := hide hR
  clear w0 w1 w2 hR hL
  have ry := and_255 a2
  obtain ⟨y, hy⟩ : ∃ y, a2 % 256 = y := ⟨_, rfl⟩
  rw [hy] at ry
  have hy0 : 0 ≤ y := by omega
  have hy1 : y < 256 := by omega
  clear hy
  go_enter Tryd.func5, Tryd.ntmps5
  go_wp2_with fail
  refine (made_is a0 len0 cap0 pa pw w HR.out).mono ?_
  rintro e w2 ⟨g, c, d, rfl, k2⟩
  have WF := hide (words_made pa pw (min len0 80))
  generalize madeTo pa pw (min len0 80) = m at *
  have M2 := hide k2.2.1
  have B2 := hide k2.below
  have R2 := hide (show IsRow .i64 w2 a1 len1 cap1 z1 from HW.out.next k2.below)
  clear k2 HR HW
  go_wp2_with fail
  refine (table_is a1 len1 cap1 z1 w2 R2.out).mono ?_
  rintro e w3 ⟨rfl, b3⟩
  generalize listT len1 z1 = T at *
  have M3 := hide (M2.out.next b3)
  have B3 := hide (bnext B2.out b3)
  clear b3 M2 B2 R2
  have I5 := hide (info_T T)
  have T5 := hide (tabL_one T)
  have S5 := hide (tabL_size (fun _ => 0) T)
  have N4 := hide (heap_alloc_new w3 (.cells (tabL fun _ => 0).toArray 23))
  set_option maxRecDepth 20000 in
  go_wp2_with (first
    | (refine wpList_alloced rfl 23 rfl _ zero_T ?_; simp only [Act.put, List.setIfInBounds_toArray, List.set_cons_succ, List.set_cons_zero])
    | (refine wpList_store_row rfl 23 (.tmp 9) (.tmp 30) rfl w3.heap.size _ rfl rfl 23 _ N4.out I5.out S5.out T5.out ?_
       refine under_list fun w4 hw4 => ?_
       have n4 : Below w3.heap.size w3 w4 := by rw [hw4]; exact below_setRow ((Below.refl _ w3).alloc (Nat.le_refl _) _) (Nat.le_refl _) _
       have T4 := hide (show HasTb w4 w3.heap.size T by rw [hw4]; exact setRow_heap _ _ _ _ _ _ N4.out)
       have M4 := hide (M3.out.next n4)
       have B4 := hide (bnext B3.out n4)
       clear hw4 n4 M3 B3)
    | (refine wpList_load_row rfl 23 (.tmp 9) rfl w3.heap.size rfl _ _ _ _ T4.out Tryd.underlying23 rfl I5.out ?_))
  obtain ⟨zt, hzt⟩ : ∃ z, w3.heap.size = z := ⟨_, rfl⟩
  rw [hzt] at T4 ⊢
  clear hzt T5 S5
  refine (sline_is g m 0 0 1 0 0 w4 M4.out (hide (HH.out.next B4.out)) WF T y 300 300 rfl (by omega) (by omega)).mono ?_
  rintro e w5 ⟨cA, fA, ⟨hcA, hfA⟩, rfl, s5, b5⟩
  have FA := hide (ahead_at (wordAt m) T y hy0 hy1)
  obtain ⟨RA, hRA⟩ : ∃ R, runT (wordAt m) T y 64 = R := ⟨_, rfl⟩
  rw [hRA] at s5 FA ⊢
  clear hRA
  obtain ⟨hitA, hhA⟩ : ∃ v, anyHit 300 RA.1 = v := ⟨_, rfl⟩
  rw [hhA]
  clear hhA
  have SA5 := hide s5
  have T5 := hide (T4.out.next b5)
  have M5 := hide (M4.out.next b5)
  have B5 := hide (bnext B4.out b5)
  have L5 := hide (show zt < w5.heap.size ∧ cA < w5.heap.size ∧ fA < w5.heap.size from ⟨T5.out.lt, s5.lc, s5.lf⟩)
  clear s5 b5 T4 M4 B4 hcA hfA
  have t0 := T5.out.at 0 (by omega)
  have t1 := T5.out.at 1 (by omega)
  have t2 := T5.out.at 2 (by omega)
  have t3 := T5.out.at 3 (by omega)
  obtain ⟨b0, hb0⟩ : ∃ b, T 0 = b := ⟨_, rfl⟩
  obtain ⟨b1, hb1⟩ : ∃ b, T 1 = b := ⟨_, rfl⟩
  obtain ⟨b2, hb2⟩ : ∃ b, T 2 = b := ⟨_, rfl⟩
  obtain ⟨b3, hb3⟩ : ∃ b, T 3 = b := ⟨_, rfl⟩
  rw [hb0] at t0 FA
  rw [hb1] at t1 FA
  rw [hb2] at t2 FA
  rw [hb3] at t3 FA
  clear hb0 hb1 hb2 hb3
  have lt5 := L5.out.1
  have HB := hide (built_4 b0 b1 b2 b3)
  have I6 := hide (info_T (fourT b0 b1 b2 b3))
  have Q6 := hide (tabL_one (fourT b0 b1 b2 b3))
  have S6 := hide (tabL_size (fun _ => 0) (fourT b0 b1 b2 b3))
  set_option maxRecDepth 20000 in
  go_wp2_with (first
    | (refine wpList_built rfl 23 _ rfl #[(0, .int .i64 b0), (1, .int .i64 b1), (2, .int .i64 b2), (3, .int .i64 b3)] (by simp [Act.eval]) _ HB.out ?_
       simp only [Act.put, List.setIfInBounds_toArray, List.set_cons_succ, List.set_cons_zero]
       refine under_list fun w6 hw6 => ?_
       have n6 : Below w5.heap.size w5 w6 := by rw [hw6]; exact (Below.refl _ w5).alloc (Nat.le_refl _) _
       have P6 := hide (show HasP w6 w5.heap.size cA fA 300 by rw [hw6]; exact heap_alloc_new _ _)
       have SA6 := hide (SA5.out.next n6)
       have T6 := hide (T5.out.next n6)
       have M6 := hide (M5.out.next n6)
       have B6 := hide (bnext B5.out n6)
       have N7 := hide (heap_alloc_new w6 (.cells (tabL fun _ => 0).toArray 23))
       clear hw6 n6 SA5 T5 M5 B5 t0 t1 t2 t3)
    | (refine wpList_alloced rfl 23 rfl _ zero_T ?_; simp only [Act.put, List.setIfInBounds_toArray, List.set_cons_succ, List.set_cons_zero])
    | (refine wpList_store_row rfl 23 (.tmp 13) (.tmp 49) rfl w6.heap.size _ rfl rfl 23 _ N7.out I6.out S6.out Q6.out ?_
       refine under_list fun w7 hw7 => ?_
       have n7 : Below w6.heap.size w6 w7 := by rw [hw7]; exact below_setRow ((Below.refl _ w6).alloc (Nat.le_refl _) _) (Nat.le_refl _) _
       have U7 := hide (show HasTb w7 w6.heap.size (fourT b0 b1 b2 b3) by rw [hw7]; exact setRow_heap _ _ _ _ _ _ N7.out)
       have P7 := hide (P6.out.next n7)
       have SA7 := hide (SA6.out.next n7)
       have T7 := hide (T6.out.next n7)
       have M7 := hide (M6.out.next n7)
       have B7 := hide (bnext B6.out n7)
       clear hw7 n7 P6 SA6 T6 M6 B6 N7)
    | (refine wpList_load_row rfl 23 (.tmp 13) rfl w6.heap.size rfl _ _ _ _ U7.out Tryd.underlying23 rfl I6.out ?_))
  obtain ⟨zA, hzA⟩ : ∃ z, w5.heap.size = z := ⟨_, rfl⟩
  rw [hzA] at P7 ⊢
  clear hzA U7 I6 Q6 S6 L5 lt5
  have CL := sline_is g m 0 0 1 0 0 w7 M7.out (hide (HH.out.next B7.out)) WF (fourT b0 b1 b2 b3) y 300 300 rfl (by omega) (by omega)
  refine CL.mono ?_
  clear CL
  rintro e w8 ⟨cB, fB, _, rfl, s8, b8⟩
  obtain ⟨RB, hRB⟩ : ∃ R, runT (wordAt m) (fourT b0 b1 b2 b3) y 64 = R := ⟨_, rfl⟩
  rw [hRB] at s8 FA ⊢
  clear hRB
  obtain ⟨FB, FC⟩ := FA.out (fun j => if j = 0 then 1023 else T j) rfl (fun j hj => if_neg (by omega))
  rw [FB.1, FB.2.1 300]
  have SB8 := hide s8
  have P8 := hide (P7.out.next b8)
  have SA8 := hide (SA7.out.next b8)
  have T8 := hide (T7.out.next b8)
  have M8 := hide (M7.out.next b8)
  have B8 := hide (bnext B7.out b8)
  have FD := hide FB.2.2
  have FE := hide FC
  clear s8 b8 P7 SA7 T7 M7 B7 FA FB FC
  have L8 := hide ((T8.out.next ((Below.refl _ w8).alloc (Nat.le_refl _) (.cells #[.slice (some ⟨cB, 0, none⟩) 300 300, .slice (some ⟨fB, 0, none⟩) 300 300] 39))))
  have J5 := hide (tabL_one T)
  have J6 := hide (tabL_size (fun _ => 0) T)
  have J7 := hide (info_T fun j => if j = 0 then 1023 else T j)
  set_option maxRecDepth 20000 in
  go_wp2_with (first
    | (refine wpList_load_row rfl 23 (.tmp 9) rfl zt rfl _ _ _ _ L8.out Tryd.underlying23 rfl I5.out ?_
       simp only [Act.put, List.setIfInBounds_toArray, List.set_cons_succ, List.set_cons_zero]
       refine under_list fun w9 hw9 => ?_
       have n9 : Below w8.heap.size w8 w9 := by rw [hw9]; exact (Below.refl _ w8).alloc (Nat.le_refl _) _
       have Q9 := hide (show HasP w9 w8.heap.size cB fB 300 by rw [hw9]; exact heap_alloc_new _ _)
       have P9 := hide (P8.out.next n9)
       have SA9 := hide (SA8.out.next n9)
       have SB9 := hide (SB8.out.next n9)
       have M9 := hide (M8.out.next n9)
       have B9 := hide (bnext B8.out n9)
       have N9 := hide (heap_alloc_new w9 (.cells (tabL fun _ => 0).toArray 23))
       clear hw9 n9 P8 SA8 SB8 M8 B8 T8 L8)
    | (refine wpList_alloced rfl 23 rfl _ zero_T ?_; simp only [Act.put, List.setIfInBounds_toArray, List.set_cons_succ, List.set_cons_zero])
    | (refine wpList_store_row rfl 23 (.tmp 17) (.tmp 58) rfl w9.heap.size _ rfl rfl 23 _ N9.out I5.out J6.out J5.out ?_
       refine under_list fun w10 hw10 => ?_
       have n10 : Below w9.heap.size w9 w10 := by rw [hw10]; exact below_setRow ((Below.refl _ w9).alloc (Nat.le_refl _) _) (Nat.le_refl _) _
       have V10 := hide (show HasTb w10 w9.heap.size T by rw [hw10]; exact setRow_heap _ _ _ _ _ _ N9.out)
       have v0 := V10.out.at 0 (by omega)
       have v1 := V10.out.frozen 0
       clear hw10 N9)
    | (refine wpList_load_row rfl 23 (.tmp 17) rfl w9.heap.size rfl _ _ _ _ (V10.out.set 0 1023) Tryd.underlying23 rfl J7.out ?_
       simp only [Act.put, List.setIfInBounds_toArray, List.set_cons_succ, List.set_cons_zero]
       refine under_list fun w11 hw11 => ?_
       have o11 : Only w9.heap.size w10 w11 := by rw [hw11]; exact (Only.refl _ w10).set 0 _
       clear hw11))
  have n11 := n10.trans (o11.below (Nat.le_refl _) n10.size)
  have Q11 := hide (Q9.out.next n11)
  have P11 := hide (P9.out.next n11)
  have SA11 := hide (SA9.out.next n11)
  have SB11 := hide (SB9.out.next n11)
  have M11 := hide (M9.out.next n11)
  have B11 := hide (bnext B9.out n11)
  clear n10 o11 n11 Q9 P9 SA9 SB9 M9 B9 V10 v0 v1 I5 J5 J6 J7
  obtain ⟨zB, hzB⟩ : ∃ z, w8.heap.size = z := ⟨_, rfl⟩
  rw [hzB] at Q11 ⊢
  clear hzB
  have CL := sline_is g m 0 0 1 0 0 w11 M11.out (hide (HH.out.next B11.out)) WF (fun j => if j = 0 then 1023 else T j) y 300 300 rfl (by omega) (by omega)
  refine CL.mono ?_
  clear CL
  rintro e w12 ⟨cQ, fQ, _, rfl, s12, b12⟩
  obtain ⟨RQ, hRQ⟩ : ∃ R, runT (wordAt m) (fun j => if j = 0 then 1023 else T j) y 64 = R := ⟨_, rfl⟩
  rw [hRQ] at s12 FD FE ⊢
  clear hRQ
  rw [FD.out 300]
  have SQ := hide s12
  have Q12 := hide (Q11.out.next b12)
  have P12 := hide (P11.out.next b12)
  have SA12 := hide (SA11.out.next b12)
  have SB12 := hide (SB11.out.next b12)
  have B12 := hide (bnext B11.out b12)
  clear s12 b12 Q11 P11 SA11 SB11 M11 B11 FD
  have p0 := P12.out.c0
  have q0 := Q12.out.c0
  have pl := P12.out.lt
  have ql := Q12.out.lt
  obtain ⟨ov, hov⟩ : ∃ v, RA.2.2 = v := ⟨_, rfl⟩
  rw [hov] at FE ⊢
  clear hov
  set_option maxRecDepth 20000 in
  go_wp2_with fail
  refine under_name fun wd hwd => ?_
  have nd : Below w12.heap.size w12 wd := by rw [hwd]; exact (Below.refl _ w12).alloc (Nat.le_refl _) _
  have R1 := hide (show HasP wd w12.heap.size cQ fQ 300 by rw [hwd]; exact heap_alloc_new _ _)
  have Q1 := hide (Q12.out.next nd)
  have P1 := hide (P12.out.next nd)
  have SA1 := hide (SA12.out.next nd)
  have SB1 := hide (SB12.out.next nd)
  have SQ1 := hide (SQ.out.next nd)
  have B1 := hide (bnext B12.out nd)
  clear hwd nd Q12 P12 SA12 SB12 SQ B12 p0 q0 pl ql
  obtain ⟨zQ, hzQ⟩ : ∃ z, w12.heap.size = z := ⟨_, rfl⟩
  rw [hzQ] at R1 ⊢
  clear hzQ
  go_loopw [21] (fun si wr => ∃ i : Nat, i ≤ 300 ∧ si = .int .i64 (i : Int) ∧ Below wd.heap.size wd wr) (fun si _ => 300 - (intOf si).toNat)
  case atStart => exact ⟨0, Nat.zero_le _, rfl, Below.refl _ _⟩
  case round =>
    obtain ⟨i, hi, rfl, hw⟩ := hrel
    have NR := hide hw
    clear hw
    by_cases hlt : i < 300
    · have pa0 := (P1.out.next NR.out).c0
      have pa1 := (P1.out.next NR.out).c1
      have qa0 := (Q1.out.next NR.out).c0
      have qa1 := (Q1.out.next NR.out).c1
      have ra0 := (R1.out.next NR.out).c0
      have ra1 := (R1.out.next NR.out).c1
      have ca := (SA1.out.next NR.out).cj i hlt
      have fa := (SA1.out.next NR.out).fj i hlt
      have cb := (SB1.out.next NR.out).cj i hlt
      have fb := (SB1.out.next NR.out).fj i hlt
      have cq := (SQ1.out.next NR.out).cj i hlt
      have fq := (SQ1.out.next NR.out).fj i hlt
      have fe := FE.out i
      generalize (RA.1 i).1 = xa at *
      generalize (RA.1 i).2.1 = ya at *
      generalize (RB.1 i).1 = xb at *
      generalize (RB.1 i).2.1 = yb at *
      generalize (RQ.1 i).1 = xq at *
      generalize (RQ.1 i).2.1 = yq at *
      by_cases h0 : xb = 0
      · subst h0
        cases ov with
        | true =>
          clear fe
          go_wp2_with fail
          go_quiet (fail)
          go_wp2_with fail
          go_quiet (fail)
          go_wp2_with fail
          exact ⟨⟨i + 1, by omega, by go_num, bnext NR.out (below_drew (Below.refl _ _) _)⟩, by simp [intOf]; omega⟩
        | false =>
          obtain ⟨rfl, rfl⟩ := fe.2 rfl rfl
          clear fe
          go_wp2_with fail
          go_quiet (fail)
          go_wp2_with fail
          go_quiet (fail)
          go_wp2_with fail
          exact ⟨⟨i + 1, by omega, by go_num, bnext NR.out (below_drew (Below.refl _ _) _)⟩, by simp [intOf]; omega⟩
      · obtain ⟨rfl, rfl⟩ := fe.1 h0
        clear fe
        have hb : (xa == 0) = false := by simpa using h0
        cases ov with
        | true =>
          go_wp2_with fail
          go_quiet (fail)
          go_wp2_with fail
          go_quiet (fail)
          go_wp2_with fail
          exact ⟨⟨i + 1, by omega, by go_num, bnext NR.out (below_drew (Below.refl _ _) _)⟩, by simp [intOf]; omega⟩
        | false =>
          go_wp2_with fail
          go_quiet (fail)
          go_wp2_with fail
          go_quiet (fail)
          go_wp2_with fail
          exact ⟨⟨i + 1, by omega, by go_num, bnext NR.out (below_drew (Below.refl _ _) _)⟩, by simp [intOf]; omega⟩
    · obtain rfl : i = 300 := by omega
      go_wp2_with fail
      go_ret
      exact ⟨rfl, bnext B1.out NR.out⟩
set_option maxRecDepth 100000 in
theorem spritesAhead_lifted (os : Os) (started : os.Started) (H : Type) (enc : TypeId × Value → H) :
    ReturnsInHanded {} Tryd.checked os 5 .any (fun w args => (Rows.spritesAheadSpec.pre enc Tryd.prog Tryd.f5 [] false w args ∧ laidMetH Tryd.prog laidHigh w) ∧ sizedMet enc Tryd.prog Tryd.f5 (OpenSpec.ofChange Rows.spritesAheadSpec) false w args)
      (Rows.spritesAheadSpec.post enc Tryd.prog Tryd.f5 false true false false) := by
  refine returnsInHanded_of_change_and (C := Tryd.checked) (X := fun w _ => laidMetH Tryd.prog laidHigh w) (fun _ _ _ hh h => h.of_heap hh) own started (by kernel_rfl) Tryd.func5
    (ChangeSpec.witness_at (enc := enc) (C := Tryd.checked) (os := os) (X := fun w _ => laidMetH Tryd.prog laidHigh w) false (laidWorld os) #[.slice none 0 0, .slice none 0 0, .int .i64 0] 8 rfl (by kernel_rfl) (by kernel_rfl) (by kernel_rfl) (by kernel_rfl) (by kernel_rfl) (laidWorld_high os _)) ?_
  intro W base args ds gs before hval0 hW _ _ hL _
  have hval : ∀ (j : Nat) t v, Tryd.f5.params[j]? = some t → args[j]? = some v → Value.okWide Tryd.prog W .any base t v := hval0
  have hW' := hW
  obtain ⟨p, q, hA0, hV, rfl, hfz, hnd⟩ := hW
  have hA : DataW.TrodAll enc Tryd.prog W 0 (fun _ => true) true Tryd.f5.params.toList args.toList ds p := hA0
  rw [Tryd.params5] at hA hval
  obtain ⟨v0, vs0, d0, ds0, p0, q0, hargs, rfl, rfl, h0, r0⟩ := trodAll_cons hA
  obtain ⟨v1, vs1, d1, ds1, p1, q1, rfl, rfl, rfl, h1, r1⟩ := trodAll_cons r0
  obtain ⟨v2, vs2, d2, ds2, p2, q2, rfl, rfl, rfl, h2, r2⟩ := trodAll_cons r1
  obtain ⟨rfl, rfl, rfl⟩ := trodAll_nil r2
  obtain rfl : args = #[v0, v1, v2] := by cases args; simp_all
  obtain ⟨rfl, rfl⟩ := trodVars_none hV
  obtain ⟨a0, len0, cap0, rfl⟩ := okWide_slice Tryd.underlying31 (hval 0 31 v0 rfl rfl)
  have k0 := h0
  have lt0 : ∀ x ∈ p0, x.block < W.heap.size := by obtain ⟨m, hm⟩ := k0; exact DataW.trod_lt m _ _ _ hm
  have w0 : IsStructs [some .i64, some .i64] W a0 len0 cap0 := open_structs Tryd.underlying31 Tryd.underlying45 (by kernel_rfl) (fun j k hk => by
    rcases j with _ | _ | j
    · cases hk; exact ⟨_, rfl, rfl, by kernel_rfl, Tryd.underlying3⟩
    · cases hk; exact ⟨_, rfl, rfl, by kernel_rfl, Tryd.underlying3⟩
    · simp at hk) h0
  obtain ⟨a1, len1, cap1, rfl⟩ := okWide_slice Tryd.underlying22 (hval 1 22 v1 rfl rfl)
  have k1 := h1
  have lt1 : ∀ x ∈ p1, x.block < W.heap.size := by obtain ⟨m, hm⟩ := k1; exact DataW.trod_lt m _ _ _ hm
  obtain ⟨z1, w1⟩ : ∃ zs, IsRow .i64 W a1 len1 cap1 zs := by
    obtain ⟨fuel, hf⟩ := h1
    rcases open_ints Tryd.underlying22 Tryd.underlying3 (by kernel_rfl) hf with ⟨hcs, _⟩ | ⟨x, l, c, zs, hcs, _, hl, hm, hz, _, hcell, hwz⟩
    · simp [Value.cells] at hcs
      obtain ⟨rfl, rfl, rfl⟩ := hcs
      exact ⟨[], .inl ⟨rfl, rfl, rfl, rfl⟩⟩
    · simp [Value.cells] at hcs
      obtain ⟨rfl, rfl, rfl⟩ := hcs
      exact ⟨zs, .inr ⟨_, rfl, hl, hm, by simpa using hz, hcell, hwz⟩⟩
  obtain ⟨a2, rfl, rfl, rfl, w2⟩ := open_int Tryd.underlying3 (hval 2 3 v2 rfl rfl) h2
  clear hA0 hval0
  refine (spritesAhead_walk a0 len0 cap0 a1 len1 cap1 z1 a2 W w0 w1 w2 (laid_high hL)).mono fun e W' ⟨he, bel⟩ => ?_
  subst he
  exact ⟨_, rfl, _, _, _, [], _, [], hW', trodAll_mk1 (shut_bool Tryd.underlying4 _), (trodAll_cons_mk (Below.trod laidOut (by kernel_rfl) (of_decide_eq_true (by kernel_rfl)) k0 bel lt0) (trodAll_cons_mk (Below.trod laidOut (by kernel_rfl) (of_decide_eq_true (by kernel_rfl)) k1 bel lt1) (trodAll_cons_mk (shut_int Tryd.underlying3 w2) trodAll_mk0))), rfl, bel.frame _, fun h => by cases h⟩

theorem spritesAhead_over : Rows.spritesAheadRow.holds Tryd.pinned (OpenSpec.ofChange Rows.spritesAheadSpec) :=
  OpenClaim.holds_of_wide 5 Tryd.f5 rfl rfl rfl rfl rfl rfl rfl ⟨rfl, rfl, rfl, rfl, rfl⟩ rfl rfl rfl rfl rfl (by kernel_rfl) Tryd.func5 (by kernel_rfl)
    (of_decide_eq_true (by kernel_rfl)) (by unfold Func.isWrapper; first | (rw [if_pos (by decide +kernel)]; kernel_rfl) | (rw [if_neg (by decide +kernel)]; exact ⟨rfl, rfl⟩))
    (fun os started H enc _ => spritesAhead_lifted os started H enc)

theorem spritesAhead_row : Rows.SpritesAheadSaid := spritesAhead_over

theorem spritesAhead_holds : Rows.SpritesAheadCardSaid :=
  Claim7.holds_tied_plain_at .later [] [.data] true (true, "0a37a5a4315790cd1c1c663d3aa689065fbd0f428761630f5de7b36c5ae14ed1") false
    spritesAhead_row (fun _ h => by cases h) (by kernel_rfl) (fun _ h => by cases h) spritesAhead_row_tie rfl ⟨rfl, rfl⟩ (by kernel_rfl) rfl
    (fun f fn hf hfn => by
      obtain rfl : f = 5 := Option.some.inj ((show Tryd.prog.funcNamed "phosphor/phosphorlaw18.SpritesAhead" = some 5 by kernel_rfl).symm.trans hf) |>.symm
      obtain rfl : fn = Tryd.f5 := (Option.some.inj (Tryd.func5.symm.trans hfn)).symm
      exact ⟨by kernel_rfl, fun j t ht => by
        rw [Tryd.params5] at ht
        rcases j with _ | _ | _ | j
        · obtain rfl : t = 31 := by simpa using ht.symm
          exact (show Tryd.prog.wantsStandIn 31 = false by kernel_rfl)
        · obtain rfl : t = 22 := by simpa using ht.symm
          exact (show Tryd.prog.wantsStandIn 22 = false by kernel_rfl)
        · obtain rfl : t = 3 := by simpa using ht.symm
          exact (show Tryd.prog.wantsStandIn 3 = false by kernel_rfl)
        · simp at ht⟩)
    (by kernel_rfl)
#print axioms spritesAhead_holds
end Go.Proofs.YtnlohhgogdiheaaDoor
