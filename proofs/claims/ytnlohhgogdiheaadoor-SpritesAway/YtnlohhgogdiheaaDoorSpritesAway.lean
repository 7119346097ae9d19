/- SpritesAway, at the landed commit: whatever slice of words, slice of a table's words and number come in, the call returns true: sprites whose lines are elsewhere change nothing, wherever they stand in the table. No condition but what the card says. -/
import Derived.Test.YtnlohhgogdiheaaDoorPics18
import Derived.Test.YtnlohhgogdiheaaDoorMade17
import Derived.Test.YtnlohhgogdiheaaDoorHighLaid
import Derived.Test.YtnlohhgogdiheaaDoorArrays
import Derived.Test.YtnlohhgogdiheaaDoorTie
import Derived.Test.YtnlohhgogdiheaaDoorCards
import Derived.BigQuiet
import Derived.SevenTiedAt
import Derived.OpenShut
import Derived.ShutString
import Derived.ChangeOld
namespace Go.Proofs.YtnlohhgogdiheaaDoor
open Go.ChangeShapes Go.WideShapes Go.ChangeAt Go.RowKit
open Go.ChangeMaps (open_string shut_string)
set_option linter.unusedVariables false

theorem and_63 (n : Int) : bits .and .i64 n 63 = n % 64 := and_mask 6 (by decide) n
theorem runT_away (g : Int → Int) (T U : Nat → Int) (y : Int) (k : Nat) (hT : onT T y k = false) (hU : onT U y k = false) (h : ∀ j, ¬ (4 * k ≤ j ∧ j < 4 * k + 4) → T j = U j) : ∀ n, runT g T y n = runT g U y n
  | 0 => rfl
  | n + 1 => by
    have ih := runT_away g T U y k hT hU h n
    by_cases e : n = k
    · subst e
      rw [runT_off g T y n hT, runT_off g U y n hU, ih]
    · obtain ⟨eo, ec, es⟩ := on_congr g T U y n (fun j h1 h2 => h j (by omega))
      show (if (runT g T y n).2.2 = true then runT g T y n else _) = (if (runT g U y n).2.2 = true then runT g U y n else _)
      rw [ih, eo, ec, es]
theorem on_500 (T : Nat → Int) (k : Nat) (h : T (4 * k) = 564) : onT T 20 k = false := by
  unfold onT
  rw [h, show sprY 564 = 500 from rfl, decide_eq_false (show ¬ (500 : Int) ≤ 20 by decide), Bool.false_and]
def oneT (T : Nat → Int) (q : Nat) (j : Nat) : Int := if j = q then 564 else T j
def farT (T : Nat → Int) (q : Nat) (j : Nat) : Int := if j = q + 3 then 12672 else if j = q + 2 then 2 else if j = q + 1 then 40 else oneT T q j
theorem away_same (g : Int → Int) (T : Nat → Int) (k q : Nat) (hq : 4 * k = q) (n : Nat) : runT g (oneT T q) 20 n = runT g (farT T q) 20 n :=
  runT_away g _ _ 20 k (on_500 _ k (by unfold oneT; rw [if_pos hq])) (on_500 _ k (by unfold farT oneT; rw [if_neg (by omega), if_neg (by omega), if_neg (by omega), if_pos hq])) (fun j hj => by
    unfold farT
    rw [if_neg (by omega), if_neg (by omega), if_neg (by omega)]) n
set_option maxHeartbeats 4000000 in
theorem spritesAway_walk (a0 : Option Addr) (len0 cap0 : Nat) (a1 : Option Addr) (len1 cap1 : Nat) (z1 : List Int) (a2 : Int) (w : World) (w0 : IsStructs [some .i64, some .i64] w a0 len0 cap0) (w1 : IsRow .i64 w a1 len1 cap1 z1) (w2 : (Lit.int .i64 a2).wf = true) (hL : HasHigh w) : Calls Tryd.prog 8 #[.slice a0 len0 cap0, .slice a1 len1 cap1, .int .i64 a2] w fun e w' => e = .returned (.bool true) ∧ Below w.heap.size w w' := by
  obtain ⟨pa, pw, hR⟩ := pokes_in w0
  have HH := hide hL
  have HW := hide w1
  have HR := hide hR
  clear w0 w1 w2 hR hL
  have rk := and_63 a2
  obtain ⟨k, hk⟩ : ∃ k : Nat, a2 % 64 = (k : Int) := ⟨(a2 % 64).toNat, by omega⟩
  rw [hk] at rk
  have hk64 : k < 64 := by omega
  clear hk
  obtain ⟨q, hq⟩ : ∃ q, 4 * k = q := ⟨_, rfl⟩
  have eq : 4 * (k : Int) = (q : Int) := by omega
  have hq2 : q ≤ 252 := by omega
  have HQ := hide hq
  clear hq
  go_enter Tryd.func8, Tryd.ntmps8
  go_wp2_with fail
  refine (made_is a0 len0 cap0 pa pw w HR.out).mono ?_
  rintro e w2 ⟨g, c, d, rfl, k2⟩
  have WF := hide (words_made pa pw (min len0 80))
  generalize madeTo pa pw (min len0 80) = m at *
  have M2 := hide k2.2.1
  have B2 := hide k2.below
  have R2 := hide (show IsRow .i64 w2 a1 len1 cap1 z1 from HW.out.next k2.below)
  clear k2 HR HW
  go_wp2_with fail
  refine (table_is a1 len1 cap1 z1 w2 R2.out).mono ?_
  rintro e w3 ⟨rfl, b3⟩
  generalize listT len1 z1 = T at *
  have M3 := hide (M2.out.next b3)
  have B3 := hide (bnext B2.out b3)
  clear b3 M2 B2 R2
  have I5 := hide (info_T T)
  have T5 := hide (tabL_one T)
  have S5 := hide (tabL_size (fun _ => 0) T)
  have N4 := hide (heap_alloc_new w3 (.cells (tabL fun _ => 0).toArray 23))
  have I6 := hide (info_T (oneT T q))
  have T6 := hide (tabL_one (oneT T q))
  have S6 := hide (tabL_size (fun _ => 0) (oneT T q))
  have I7 := hide (info_T (farT T q))
  set_option maxRecDepth 20000 in
  go_wp2_with (first
    | (refine wpList_alloced rfl 23 rfl _ zero_T ?_; simp only [Act.put, List.setIfInBounds_toArray, List.set_cons_succ, List.set_cons_zero])
    | (refine wpList_store_row rfl 23 (.tmp 9) (.tmp 28) rfl w3.heap.size _ rfl rfl 23 _ N4.out I5.out S5.out T5.out ?_
       refine under_list fun w4 hw4 => ?_
       have n4 : Below w3.heap.size w3 w4 := by rw [hw4]; exact below_setRow ((Below.refl _ w3).alloc (Nat.le_refl _) _) (Nat.le_refl _) _
       have V4 := hide (show HasTb w4 w3.heap.size T by rw [hw4]; exact setRow_heap _ _ _ _ _ _ N4.out)
       have v0 := V4.out.at q (by omega)
       have v1 := V4.out.frozen q
       clear hw4 N4)
    | (refine wpList_load_row rfl 23 (.tmp 9) rfl w3.heap.size rfl _ _ _ _ (show HasTb (w4.setCell ⟨w3.heap.size, q, none⟩ (.int .i64 564)) w3.heap.size (oneT T q) from V4.out.set q 564) Tryd.underlying23 rfl I6.out ?_
       simp only [Act.put, List.setIfInBounds_toArray, List.set_cons_succ, List.set_cons_zero]
       refine under_list fun w5 hw5 => ?_
       have V5 := hide (show HasTb w5 w3.heap.size (oneT T q) by rw [hw5]; exact V4.out.set q 564)
       have n5 : Below w3.heap.size w3 w5 := by rw [hw5]; exact n4.trans (((Only.refl w3.heap.size w4).set q _).below (Nat.le_refl _) n4.size)
       have M5 := hide (M3.out.next n5)
       have B5 := hide (bnext B3.out n5)
       have N5 := hide (heap_alloc_new w5 (.cells (tabL fun _ => 0).toArray 23))
       clear hw5 n5 n4 V4 v0 v1 M3 B3)
    | (refine wpList_store_row rfl 23 (.tmp 10) (.tmp 32) rfl w5.heap.size _ rfl rfl 23 _ N5.out I6.out S6.out T6.out ?_
       refine under_list fun w6 hw6 => ?_
       have n6 : Below w5.heap.size w5 w6 := by rw [hw6]; exact below_setRow ((Below.refl _ w5).alloc (Nat.le_refl _) _) (Nat.le_refl _) _
       have U6 := hide (show HasTb w6 w5.heap.size (oneT T q) by rw [hw6]; exact setRow_heap _ _ _ _ _ _ N5.out)
       have u1 := U6.out.at (q + 1) (by omega)
       have u2 := U6.out.at (q + 2) (by omega)
       have u3 := U6.out.at (q + 3) (by omega)
       have f1 := U6.out.frozen (q + 1)
       have f2 := U6.out.frozen (q + 2)
       have f3 := U6.out.frozen (q + 3)
       have V6 := hide (V5.out.next n6)
       have hne : w3.heap.size ≠ w5.heap.size := Nat.ne_of_lt V5.out.lt
       clear hw6 N5)
    | (refine wpList_load_row rfl 23 (.tmp 9) rfl w3.heap.size rfl _ _ _ _ (show HasTb (((w6.setCell ⟨w5.heap.size, q + 1, none⟩ (.int .i64 40)).setCell ⟨w5.heap.size, q + 2, none⟩ (.int .i64 2)).setCell ⟨w5.heap.size, q + 3, none⟩ (.int .i64 12672)) w3.heap.size (oneT T q) from set_far (set_far (set_far V6.out hne) hne) hne) Tryd.underlying23 rfl I6.out ?_
       simp only [Act.put, List.setIfInBounds_toArray, List.set_cons_succ, List.set_cons_zero]
       refine under_list fun w7 hw7 => ?_
       have V7 := hide (show HasTb w7 w3.heap.size (oneT T q) by rw [hw7]; exact set_far (set_far (set_far V6.out hne) hne) hne)
       have U7 := hide (show HasTb w7 w5.heap.size (farT T q) by rw [hw7]; exact ((U6.out.set (q + 1) 40).set (q + 2) 2).set (q + 3) 12672)
       have n7 : Below w5.heap.size w5 w7 := by rw [hw7]; exact n6.trans (((((Only.refl w5.heap.size w6).set (q + 1) _).set (q + 2) _).set (q + 3) _).below (Nat.le_refl _) n6.size)
       have M7 := hide (M5.out.next n7)
       have B7 := hide (bnext B5.out n7)
       clear hw7 n7 n6 V6 U6 V5 M5 B5 u1 u2 u3 f1 f2 f3 hne))
  obtain ⟨zt, hzt⟩ : ∃ z, w3.heap.size = z := ⟨_, rfl⟩
  obtain ⟨zu, hzu⟩ : ∃ z, w5.heap.size = z := ⟨_, rfl⟩
  rw [hzt] at V7 ⊢
  rw [hzu] at U7 ⊢
  clear hzt hzu I5 T5 S5 T6 S6
  have CL : Calls Tryd.prog 13 #[.pointer (some ⟨g, 0, none⟩), .agg (tabL (oneT T q)).toArray, .int .i64 20, .int .i64 100] _ _ := sline_is g m 0 0 1 0 0 w7 M7.out (hide (HH.out.next B7.out)) WF (oneT T q) 20 100 100 rfl (by omega) (by omega)
  refine CL.mono ?_
  clear CL
  rintro e w8 ⟨cA, fA, _, rfl, s8, b8⟩
  rw [away_same (wordAt m) T k q HQ.out 64] at s8 ⊢
  have U8 := hide (U7.out.next b8)
  have M8 := hide (M7.out.next b8)
  have B8 := hide (bnext B7.out b8)
  have SA8 := hide s8
  clear b8 s8 V7 U7 M7 B7
  have L8 := hide (U8.out.next ((Below.refl _ w8).alloc (Nat.le_refl _) (.cells #[.slice (some ⟨cA, 0, none⟩) 100 100, .slice (some ⟨fA, 0, none⟩) 100 100] 39)))
  obtain ⟨R, hR⟩ : ∃ R, runT (wordAt m) (farT T q) 20 64 = R := ⟨_, rfl⟩
  have HRR := hide hR
  rw [hR] at SA8 ⊢
  clear hR
  obtain ⟨ov, hov⟩ : ∃ v, R.2.2 = v := ⟨_, rfl⟩
  obtain ⟨ht, hht⟩ : ∃ v, anyHit 100 R.1 = v := ⟨_, rfl⟩
  rw [hov, hht]
  set_option maxRecDepth 20000 in
  go_wp2_with (first | (refine wpList_load_row rfl 23 (.tmp 10) rfl zu rfl _ _ _ _ L8.out Tryd.underlying23 rfl I7.out ?_))
  refine under_calls fun w9 hw9 => ?_
  have n9 : Below w8.heap.size w8 w9 := by rw [hw9]; exact (Below.refl _ w8).alloc (Nat.le_refl _) _
  have P9 := hide (show HasP w9 w8.heap.size cA fA 100 by rw [hw9]; exact heap_alloc_new _ _)
  have SA9 := hide (SA8.out.next n9)
  have M9 := hide (M8.out.next n9)
  have B9 := hide (bnext B8.out n9)
  clear hw9 n9 SA8 M8 B8 U8 L8
  obtain ⟨zA, hzA⟩ : ∃ z, w8.heap.size = z := ⟨_, rfl⟩
  rw [hzA] at P9 ⊢
  clear hzA
  have CL : Calls Tryd.prog 13 #[.pointer (some ⟨g, 0, none⟩), .agg (tabL (farT T q)).toArray, .int .i64 20, .int .i64 100] _ _ := sline_is g m 0 0 1 0 0 w9 M9.out (hide (HH.out.next B9.out)) WF (farT T q) 20 100 100 rfl (by omega) (by omega)
  refine CL.mono ?_
  clear CL
  rintro e w10 ⟨cB, fB, _, rfl, s10, b10⟩
  rw [HRR.out] at s10 ⊢
  rw [hov, hht]
  clear hov hht HRR
  have SB := hide s10
  have P10 := hide (P9.out.next b10)
  have SA10 := hide (SA9.out.next b10)
  have B10 := hide (bnext B9.out b10)
  clear s10 b10 P9 SA9 M9 B9
  have p0 := P10.out.c0
  have pl := P10.out.lt
  cases ov <;> cases ht
  all_goals
    set_option maxRecDepth 20000 in
    go_wp2_with fail
    refine under_name fun wd hwd => ?_
    have nd : Below w10.heap.size w10 wd := by rw [hwd]; exact (Below.refl _ w10).alloc (Nat.le_refl _) _
    have Q1 := hide (show HasP wd w10.heap.size cB fB 100 by rw [hwd]; exact heap_alloc_new _ _)
    have P1 := hide (P10.out.next nd)
    have SA1 := hide (SA10.out.next nd)
    have SB1 := hide (SB.out.next nd)
    have B1 := hide (bnext B10.out nd)
    clear hwd nd P10 SA10 SB B10 p0 pl
    obtain ⟨zB, hzB⟩ : ∃ z, w10.heap.size = z := ⟨_, rfl⟩
    rw [hzB] at Q1 ⊢
    clear hzB
    go_loopw [17] (fun si wr => ∃ i : Nat, i ≤ 100 ∧ si = .int .i64 (i : Int) ∧ Below wd.heap.size wd wr) (fun si _ => 100 - (intOf si).toNat)
    case atStart => exact ⟨0, Nat.zero_le _, rfl, Below.refl _ _⟩
    case round =>
      obtain ⟨i, hi, rfl, hw⟩ := hrel
      have NR := hide hw
      clear hw
      by_cases hlt : i < 100
      · have pa0 := (P1.out.next NR.out).c0
        have pa1 := (P1.out.next NR.out).c1
        have qa0 := (Q1.out.next NR.out).c0
        have qa1 := (Q1.out.next NR.out).c1
        have ca := (SA1.out.next NR.out).cj i hlt
        have fa := (SA1.out.next NR.out).fj i hlt
        have cb := (SB1.out.next NR.out).cj i hlt
        have fb := (SB1.out.next NR.out).fj i hlt
        generalize (R.1 i).1 = xa at *
        generalize (R.1 i).2.1 = ya at *
        go_wp2_with fail
        go_quiet (fail)
        go_wp2_with fail
        exact ⟨⟨i + 1, by omega, by go_num, bnext NR.out (below_drew (Below.refl _ _) _)⟩, by simp [intOf]; omega⟩
      · obtain rfl : i = 100 := by omega
        go_wp2_with fail
        go_ret
        exact ⟨rfl, bnext B1.out NR.out⟩
set_option maxRecDepth 100000 in
theorem spritesAway_lifted (os : Os) (started : os.Started) (H : Type) (enc : TypeId × Value → H) :
    ReturnsInHanded {} Tryd.checked os 8 .any (fun w args => (Rows.spritesAwaySpec.pre enc Tryd.prog Tryd.f8 [] false w args ∧ laidMetH Tryd.prog laidHigh w) ∧ sizedMet enc Tryd.prog Tryd.f8 (OpenSpec.ofChange Rows.spritesAwaySpec) false w args)
      (Rows.spritesAwaySpec.post enc Tryd.prog Tryd.f8 false true false false) := by
  refine returnsInHanded_of_change_and (C := Tryd.checked) (X := fun w _ => laidMetH Tryd.prog laidHigh w) (fun _ _ _ hh h => h.of_heap hh) own started (by kernel_rfl) Tryd.func8
    (ChangeSpec.witness_at (enc := enc) (C := Tryd.checked) (os := os) (X := fun w _ => laidMetH Tryd.prog laidHigh w) false (laidWorld os) #[.slice none 0 0, .slice none 0 0, .int .i64 0] 8 rfl (by kernel_rfl) (by kernel_rfl) (by kernel_rfl) (by kernel_rfl) (by kernel_rfl) (laidWorld_high os _)) ?_
  intro W base args ds gs before hval0 hW _ _ hL _
  have hval : ∀ (j : Nat) t v, Tryd.f8.params[j]? = some t → args[j]? = some v → Value.okWide Tryd.prog W .any base t v := hval0
  have hW' := hW
  obtain ⟨p, q, hA0, hV, rfl, hfz, hnd⟩ := hW
  have hA : DataW.TrodAll enc Tryd.prog W 0 (fun _ => true) true Tryd.f8.params.toList args.toList ds p := hA0
  rw [Tryd.params8] at hA hval
  obtain ⟨v0, vs0, d0, ds0, p0, q0, hargs, rfl, rfl, h0, r0⟩ := trodAll_cons hA
  obtain ⟨v1, vs1, d1, ds1, p1, q1, rfl, rfl, rfl, h1, r1⟩ := trodAll_cons r0
  obtain ⟨v2, vs2, d2, ds2, p2, q2, rfl, rfl, rfl, h2, r2⟩ := trodAll_cons r1
  obtain ⟨rfl, rfl, rfl⟩ := trodAll_nil r2
  obtain rfl : args = #[v0, v1, v2] := by cases args; simp_all
  obtain ⟨rfl, rfl⟩ := trodVars_none hV
  obtain ⟨a0, len0, cap0, rfl⟩ := okWide_slice Tryd.underlying31 (hval 0 31 v0 rfl rfl)
  have k0 := h0
  have lt0 : ∀ x ∈ p0, x.block < W.heap.size := by obtain ⟨m, hm⟩ := k0; exact DataW.trod_lt m _ _ _ hm
  have w0 : IsStructs [some .i64, some .i64] W a0 len0 cap0 := open_structs Tryd.underlying31 Tryd.underlying45 (by kernel_rfl) (fun j k hk => by
    rcases j with _ | _ | j
    · cases hk; exact ⟨_, rfl, rfl, by kernel_rfl, Tryd.underlying3⟩
    · cases hk; exact ⟨_, rfl, rfl, by kernel_rfl, Tryd.underlying3⟩
    · simp at hk) h0
  obtain ⟨a1, len1, cap1, rfl⟩ := okWide_slice Tryd.underlying22 (hval 1 22 v1 rfl rfl)
  have k1 := h1
  have lt1 : ∀ x ∈ p1, x.block < W.heap.size := by obtain ⟨m, hm⟩ := k1; exact DataW.trod_lt m _ _ _ hm
  obtain ⟨z1, w1⟩ : ∃ zs, IsRow .i64 W a1 len1 cap1 zs := by
    obtain ⟨fuel, hf⟩ := h1
    rcases open_ints Tryd.underlying22 Tryd.underlying3 (by kernel_rfl) hf with ⟨hcs, _⟩ | ⟨x, l, c, zs, hcs, _, hl, hm, hz, _, hcell, hwz⟩
    · simp [Value.cells] at hcs
      obtain ⟨rfl, rfl, rfl⟩ := hcs
      exact ⟨[], .inl ⟨rfl, rfl, rfl, rfl⟩⟩
    · simp [Value.cells] at hcs
      obtain ⟨rfl, rfl, rfl⟩ := hcs
      exact ⟨zs, .inr ⟨_, rfl, hl, hm, by simpa using hz, hcell, hwz⟩⟩
  obtain ⟨a2, rfl, rfl, rfl, w2⟩ := open_int Tryd.underlying3 (hval 2 3 v2 rfl rfl) h2
  clear hA0 hval0
  refine (spritesAway_walk a0 len0 cap0 a1 len1 cap1 z1 a2 W w0 w1 w2 (laid_high hL)).mono fun e W' ⟨he, bel⟩ => ?_
  subst he
  exact ⟨_, rfl, _, _, _, [], _, [], hW', trodAll_mk1 (shut_bool Tryd.underlying4 _), (trodAll_cons_mk (Below.trod laidOut (by kernel_rfl) (of_decide_eq_true (by kernel_rfl)) k0 bel lt0) (trodAll_cons_mk (Below.trod laidOut (by kernel_rfl) (of_decide_eq_true (by kernel_rfl)) k1 bel lt1) (trodAll_cons_mk (shut_int Tryd.underlying3 w2) trodAll_mk0))), rfl, bel.frame _, fun h => by cases h⟩

theorem spritesAway_over : Rows.spritesAwayRow.holds Tryd.pinned (OpenSpec.ofChange Rows.spritesAwaySpec) :=
  OpenClaim.holds_of_wide 8 Tryd.f8 rfl rfl rfl rfl rfl rfl rfl ⟨rfl, rfl, rfl, rfl, rfl⟩ rfl rfl rfl rfl rfl (by kernel_rfl) Tryd.func8 (by kernel_rfl)
    (of_decide_eq_true (by kernel_rfl)) (by unfold Func.isWrapper; first | (rw [if_pos (by decide +kernel)]; kernel_rfl) | (rw [if_neg (by decide +kernel)]; exact ⟨rfl, rfl⟩))
    (fun os started H enc _ => spritesAway_lifted os started H enc)

theorem spritesAway_row : Rows.SpritesAwaySaid := spritesAway_over

theorem spritesAway_holds : Rows.SpritesAwayCardSaid :=
  Claim7.holds_tied_plain_at .later [] [.data] true (true, "0a37a5a4315790cd1c1c663d3aa689065fbd0f428761630f5de7b36c5ae14ed1") false
    spritesAway_row (fun _ h => by cases h) (by kernel_rfl) (fun _ h => by cases h) spritesAway_row_tie rfl ⟨rfl, rfl⟩ (by kernel_rfl) rfl
    (fun f fn hf hfn => by
      obtain rfl : f = 8 := Option.some.inj ((show Tryd.prog.funcNamed "phosphor/phosphorlaw18.SpritesAway" = some 8 by kernel_rfl).symm.trans hf) |>.symm
      obtain rfl : fn = Tryd.f8 := (Option.some.inj (Tryd.func8.symm.trans hfn)).symm
      exact ⟨by kernel_rfl, fun j t ht => by
        rw [Tryd.params8] at ht
        rcases j with _ | _ | _ | j
        · obtain rfl : t = 31 := by simpa using ht.symm
          exact (show Tryd.prog.wantsStandIn 31 = false by kernel_rfl)
        · obtain rfl : t = 22 := by simpa using ht.symm
          exact (show Tryd.prog.wantsStandIn 22 = false by kernel_rfl)
        · obtain rfl : t = 3 := by simpa using ht.symm
          exact (show Tryd.prog.wantsStandIn 3 = false by kernel_rfl)
        · simp at ht⟩)
    (by kernel_rfl)
#print axioms spritesAway_holds
end Go.Proofs.YtnlohhgogdiheaaDoor
