/- SpritesMany, at the landed commit: whatever numbers come in, the call returns true: of small sprites side by side on a line sixteen are taken; with one more there are too many, and it is not seen. No condition but what the card says. -/
import Derived.Test.YtnlohhgogdiheaaDoorPics18
import Derived.Test.YtnlohhgogdiheaaDoorMany18
import Derived.Test.YtnlohhgogdiheaaDoorMade17
import Derived.Test.YtnlohhgogdiheaaDoorHighLaid
import Derived.Test.YtnlohhgogdiheaaDoorArrays
import Derived.Test.YtnlohhgogdiheaaDoorTie
import Derived.Test.YtnlohhgogdiheaaDoorCards
import Derived.BigQuiet
import Derived.SevenTiedAt
import Derived.OpenShut
import Derived.ShutString
import Derived.ChangeOld
namespace Go.Proofs.YtnlohhgogdiheaaDoor
open Go.ChangeShapes Go.WideShapes Go.ChangeAt Go.RowKit
open Go.ChangeMaps (open_string shut_string)
set_option linter.unusedVariables false

theorem many_words (y : Int) (h0 : 0 ≤ y) (h1 : y < 16) : wordAt (madeTo (fun _ => y) (fun _ => 65535) 1) y = 65535 ∧ ∀ z, z ≠ y → 0 ≤ z → z < 65536 → wordAt (madeTo (fun _ => y) (fun _ => 65535) 1) z = 0 := by
  refine ⟨?_, fun z hz hz0 hz1 => ?_⟩
  · show wordAt (pokeAt (fun _ => 0) y 65535) y = 65535
    rw [wordAt_same, if_pos (by omega)]
    rfl
  · show wordAt (pokeAt (fun _ => 0) y 65535) z = 0
    rw [wordAt_other _ _ _ _ (by omega)]
    unfold wordAt
    split <;> rfl
set_option maxHeartbeats 4000000 in
theorem law_few (a0 a1 y : Int) (n : Nat) (w : World) (HH : Hid (HasHigh w)) (rn : bits .and .i64 a0 31 = (n : Int)) (ry : bits .and .i64 a1 15 = y) (hy0 : 0 ≤ y) (hy1 : y < 16) (hn31 : n ≤ 31) (hn : n ≤ 16) : Calls Tryd.prog 7 #[.int .i64 a0, .int .i64 a1] w fun e w' => e = .returned (.bool true) ∧ Below w.heap.size w w' := by
  have MR := hide (show runT (wordAt (madeTo (fun _ => y) (fun _ => 65535) 1)) (manyT n) y 64 = (manyS n, (n : Int), false) from many_few _ n y hy0 hy1 (many_words y hy0 hy1).1 (many_words y hy0 hy1).2 hn)
  go_enter Tryd.func7, Tryd.ntmps7
  set_option maxRecDepth 20000 in
  go_wp2_with fail
  refine under_calls fun wa hwa => ?_
  have na : Below w.heap.size w wa := by rw [hwa]; exact (Below.refl _ w).alloc (Nat.le_refl _) _
  have PA := hide (pokes_one (show wa.heap[w.heap.size]? = some (.cells #[.int .i64 y, .int .i64 65535] 45 (0, 0)) by rw [hwa]; exact heap_alloc_new _ _))
  refine (made_is _ 1 1 (fun _ => y) (fun _ => 65535) wa PA.out).mono ?_
  rintro e w2 ⟨g, c, d, rfl, k2⟩
  have M2 := hide (show HasM w2 g true (madeTo (fun _ => y) (fun _ => 65535) 1) 0 0 1 0 0 from k2.2.1)
  have B2 := hide (bnext na k2.below)
  have WF := hide (words_made (fun _ => y) (fun _ => 65535) 1)
  clear hwa na PA k2
  generalize madeTo (fun _ => y) (fun _ => 65535) 1 = m at *
  set_option maxRecDepth 20000 in
  go_wp2_with (first | (refine wpList_alloced rfl 23 rfl _ zero_T ?_; simp only [Act.put, List.setIfInBounds_toArray, List.set_cons_succ, List.set_cons_zero]))
  refine under_name fun w3 hw3 => ?_
  have n3 : Below w2.heap.size w2 w3 := by rw [hw3]; exact (Below.refl _ w2).alloc (Nat.le_refl _) _
  have T3 := hide ((show HasTb w3 w2.heap.size (fun _ => 0) by rw [hw3]; exact heap_alloc_new _ _).ext (U := manyT 0) fun j _ => by unfold manyT; rw [if_neg (by omega)])
  have M3 := hide (M2.out.next n3)
  have B3 := hide (bnext B2.out n3)
  have HG := hide (show w.heap.size ≤ w2.heap.size ∧ g ≠ w2.heap.size from ⟨B2.out.size, Nat.ne_of_lt M2.out.lt⟩)
  clear hw3 n3 M2 B2
  obtain ⟨zt, hzt⟩ : ∃ z, w2.heap.size = z := ⟨_, rfl⟩
  rw [hzt] at T3 HG ⊢
  clear hzt
  go_loopw [8] (fun si wr => ∃ k : Nat, k ≤ n ∧ si = .int .i64 (k : Int) ∧ HasTb wr zt (manyT k) ∧ HasM wr g true m 0 0 1 0 0 ∧ Below w.heap.size w wr) (fun si _ => n - (intOf si).toNat)
  case atStart => exact ⟨0, Nat.zero_le _, rfl, T3.out, M3.out, B3.out⟩
  case round =>
    obtain ⟨k, hk, rfl, r1, r2, r3⟩ := hrel
    have TK := hide r1
    have MK := hide r2
    have BK := hide r3
    clear r1 r2 r3 T3 M3 B3
    by_cases hlt : k < n
    · obtain ⟨q, hq⟩ : ∃ q, 4 * k = q := ⟨_, rfl⟩
      have eq : 4 * (k : Int) = (q : Int) := by omega
      have hq2 : q ≤ 252 := by omega
      have v0 := TK.out.at q (by omega)
      have v1 := TK.out.at (q + 1) (by omega)
      have v3 := TK.out.at (q + 3) (by omega)
      have f0 := TK.out.frozen q
      have f1 := TK.out.frozen (q + 1)
      have f3 := TK.out.frozen (q + 3)
      obtain ⟨xx, hxx⟩ : ∃ x, 32 + 16 * (k : Int) = x := ⟨_, rfl⟩
      have NT := hide (HasTb.ext (((TK.out.set q 64).set (q + 1) xx).set (q + 3) 1) (U := manyT (k + 1)) fun j _ => by
        rw [← manyT_next k j, hq, hxx])
      have NM := hide (show HasM (((wr.setCell ⟨zt, q, none⟩ (.int .i64 64)).setCell ⟨zt, q + 1, none⟩ (.int .i64 xx)).setCell ⟨zt, q + 3, none⟩ (.int .i64 1)) g true m 0 0 1 0 0 from set_far (set_far (set_far MK.out HG.out.2) HG.out.2) HG.out.2)
      have NB := hide (((BK.out.setCell (p := ⟨zt, q, none⟩) HG.out.1 (.int .i64 64)).setCell (p := ⟨zt, q + 1, none⟩) HG.out.1 (.int .i64 xx)).setCell (p := ⟨zt, q + 3, none⟩) HG.out.1 (.int .i64 1))
      clear hq
      set_option maxRecDepth 20000 in
      go_wp2_with fail
      go_roundw
      case rel => exact ⟨k + 1, by omega, by go_num, NT.out, NM.out, NB.out⟩
      case measure => simp [intOf]; omega
    · obtain rfl : k = n := by omega
      have I5 := hide (info_T (manyT k))
      have hdl : decide ((k : Int) < (k : Int)) = false := decide_eq_false (by omega)
      set_option maxRecDepth 20000 in
      go_wp2_with (first | (refine wpList_load_row rfl 23 (.tmp 7) rfl zt rfl _ _ _ _ TK.out Tryd.underlying23 rfl I5.out ?_))
      have CL : Calls Tryd.prog 13 #[.pointer (some ⟨g, 0, none⟩), .agg (tabL (manyT k)).toArray, .int .i64 y, .int .i64 512] _ _ := sline_is g m 0 0 1 0 0 _ MK.out (hide (HH.out.next BK.out)) WF (manyT k) y 512 512 rfl (by omega) (by omega)
      rw [MR.out] at CL
      refine CL.mono ?_
      clear CL
      rintro e w5 ⟨cA, fA, _, rfl, s5, b5⟩
      have AH : anyHit 512 ((manyS k, (k : Int), false) : Run).1 = false := anyHit_none fun x => manyS_hit _ x
      rw [AH]
      have S5 := hide (show Shown w5 cA fA 512 (manyS k) from s5)
      have B5 := hide (bnext BK.out b5)
      clear AH s5 b5 TK MK BK MR WF I5 hdl
      have hd1 : decide (16 < (k : Int)) = false := decide_eq_false (by omega)
      set_option maxRecDepth 20000 in
      go_wp2_with fail
      refine under_name fun wd hwd => ?_
      have nd : Below w5.heap.size w5 wd := by rw [hwd]; exact (Below.refl _ w5).alloc (Nat.le_refl _) _
      have P1 := hide (show HasP wd w5.heap.size cA fA 512 by rw [hwd]; exact heap_alloc_new _ _)
      have S1 := hide (S5.out.next nd)
      have B1 := hide (bnext B5.out nd)
      clear hwd nd S5 B5
      obtain ⟨zp, hzp⟩ : ∃ z, w5.heap.size = z := ⟨_, rfl⟩
      rw [hzp] at P1 ⊢
      clear hzp
      go_loopw [12] (fun si wr => ∃ i : Nat, i ≤ 512 ∧ si = .int .i64 (i : Int) ∧ wr = wd) (fun si _ => 512 - (intOf si).toNat)
      case atStart => exact ⟨0, Nat.zero_le _, rfl, rfl⟩
      case round =>
        obtain ⟨i, hi, rfl, hw⟩ := hrel
        subst hw
        by_cases hli : i < 512
        · have pa0 := P1.out.c0
          have ca := S1.out.cj i hli
          by_cases hin : i < 16 * k
          · rw [show (manyS k i).1 = 17 by unfold manyS; rw [if_pos hin]] at ca
            have hlt2 : (i : Int) < 16 * (k : Int) := by omega
            set_option maxRecDepth 20000 in
            go_wp2_with fail
            exact ⟨⟨i + 1, by omega, by go_num, trivial⟩, by simp [intOf]; omega⟩
          · rw [show (manyS k i).1 = 0 by unfold manyS; rw [if_neg hin]] at ca
            have hlt2 : decide ((i : Int) < 16 * (k : Int)) = false := decide_eq_false (by omega)
            set_option maxRecDepth 20000 in
            go_wp2_with fail
            exact ⟨⟨i + 1, by omega, by go_num, trivial⟩, by simp [intOf]; omega⟩
        · obtain rfl : i = 512 := by omega
          set_option maxRecDepth 20000 in
          go_wp2_with fail
          go_ret
          exact ⟨rfl, B1.out⟩
set_option maxHeartbeats 4000000 in
theorem law_more (a0 a1 y : Int) (n : Nat) (w : World) (HH : Hid (HasHigh w)) (rn : bits .and .i64 a0 31 = (n : Int)) (ry : bits .and .i64 a1 15 = y) (hy0 : 0 ≤ y) (hy1 : y < 16) (hn31 : n ≤ 31) (hn : 16 < n) : Calls Tryd.prog 7 #[.int .i64 a0, .int .i64 a1] w fun e w' => e = .returned (.bool true) ∧ Below w.heap.size w w' := by
  have MR := hide (show runT (wordAt (madeTo (fun _ => y) (fun _ => 65535) 1)) (manyT n) y 64 = (manyS 16, (16 : Int), true) from many_more _ n y hy0 hy1 (many_words y hy0 hy1).1 (many_words y hy0 hy1).2 hn)
  go_enter Tryd.func7, Tryd.ntmps7
  set_option maxRecDepth 20000 in
  go_wp2_with fail
  refine under_calls fun wa hwa => ?_
  have na : Below w.heap.size w wa := by rw [hwa]; exact (Below.refl _ w).alloc (Nat.le_refl _) _
  have PA := hide (pokes_one (show wa.heap[w.heap.size]? = some (.cells #[.int .i64 y, .int .i64 65535] 45 (0, 0)) by rw [hwa]; exact heap_alloc_new _ _))
  refine (made_is _ 1 1 (fun _ => y) (fun _ => 65535) wa PA.out).mono ?_
  rintro e w2 ⟨g, c, d, rfl, k2⟩
  have M2 := hide (show HasM w2 g true (madeTo (fun _ => y) (fun _ => 65535) 1) 0 0 1 0 0 from k2.2.1)
  have B2 := hide (bnext na k2.below)
  have WF := hide (words_made (fun _ => y) (fun _ => 65535) 1)
  clear hwa na PA k2
  generalize madeTo (fun _ => y) (fun _ => 65535) 1 = m at *
  set_option maxRecDepth 20000 in
  go_wp2_with (first | (refine wpList_alloced rfl 23 rfl _ zero_T ?_; simp only [Act.put, List.setIfInBounds_toArray, List.set_cons_succ, List.set_cons_zero]))
  refine under_name fun w3 hw3 => ?_
  have n3 : Below w2.heap.size w2 w3 := by rw [hw3]; exact (Below.refl _ w2).alloc (Nat.le_refl _) _
  have T3 := hide ((show HasTb w3 w2.heap.size (fun _ => 0) by rw [hw3]; exact heap_alloc_new _ _).ext (U := manyT 0) fun j _ => by unfold manyT; rw [if_neg (by omega)])
  have M3 := hide (M2.out.next n3)
  have B3 := hide (bnext B2.out n3)
  have HG := hide (show w.heap.size ≤ w2.heap.size ∧ g ≠ w2.heap.size from ⟨B2.out.size, Nat.ne_of_lt M2.out.lt⟩)
  clear hw3 n3 M2 B2
  obtain ⟨zt, hzt⟩ : ∃ z, w2.heap.size = z := ⟨_, rfl⟩
  rw [hzt] at T3 HG ⊢
  clear hzt
  go_loopw [8] (fun si wr => ∃ k : Nat, k ≤ n ∧ si = .int .i64 (k : Int) ∧ HasTb wr zt (manyT k) ∧ HasM wr g true m 0 0 1 0 0 ∧ Below w.heap.size w wr) (fun si _ => n - (intOf si).toNat)
  case atStart => exact ⟨0, Nat.zero_le _, rfl, T3.out, M3.out, B3.out⟩
  case round =>
    obtain ⟨k, hk, rfl, r1, r2, r3⟩ := hrel
    have TK := hide r1
    have MK := hide r2
    have BK := hide r3
    clear r1 r2 r3 T3 M3 B3
    by_cases hlt : k < n
    · obtain ⟨q, hq⟩ : ∃ q, 4 * k = q := ⟨_, rfl⟩
      have eq : 4 * (k : Int) = (q : Int) := by omega
      have hq2 : q ≤ 252 := by omega
      have v0 := TK.out.at q (by omega)
      have v1 := TK.out.at (q + 1) (by omega)
      have v3 := TK.out.at (q + 3) (by omega)
      have f0 := TK.out.frozen q
      have f1 := TK.out.frozen (q + 1)
      have f3 := TK.out.frozen (q + 3)
      obtain ⟨xx, hxx⟩ : ∃ x, 32 + 16 * (k : Int) = x := ⟨_, rfl⟩
      have NT := hide (HasTb.ext (((TK.out.set q 64).set (q + 1) xx).set (q + 3) 1) (U := manyT (k + 1)) fun j _ => by
        rw [← manyT_next k j, hq, hxx])
      have NM := hide (show HasM (((wr.setCell ⟨zt, q, none⟩ (.int .i64 64)).setCell ⟨zt, q + 1, none⟩ (.int .i64 xx)).setCell ⟨zt, q + 3, none⟩ (.int .i64 1)) g true m 0 0 1 0 0 from set_far (set_far (set_far MK.out HG.out.2) HG.out.2) HG.out.2)
      have NB := hide (((BK.out.setCell (p := ⟨zt, q, none⟩) HG.out.1 (.int .i64 64)).setCell (p := ⟨zt, q + 1, none⟩) HG.out.1 (.int .i64 xx)).setCell (p := ⟨zt, q + 3, none⟩) HG.out.1 (.int .i64 1))
      clear hq
      set_option maxRecDepth 20000 in
      go_wp2_with fail
      go_roundw
      case rel => exact ⟨k + 1, by omega, by go_num, NT.out, NM.out, NB.out⟩
      case measure => simp [intOf]; omega
    · obtain rfl : k = n := by omega
      have I5 := hide (info_T (manyT k))
      have hdl : decide ((k : Int) < (k : Int)) = false := decide_eq_false (by omega)
      set_option maxRecDepth 20000 in
      go_wp2_with (first | (refine wpList_load_row rfl 23 (.tmp 7) rfl zt rfl _ _ _ _ TK.out Tryd.underlying23 rfl I5.out ?_))
      have CL : Calls Tryd.prog 13 #[.pointer (some ⟨g, 0, none⟩), .agg (tabL (manyT k)).toArray, .int .i64 y, .int .i64 512] _ _ := sline_is g m 0 0 1 0 0 _ MK.out (hide (HH.out.next BK.out)) WF (manyT k) y 512 512 rfl (by omega) (by omega)
      rw [MR.out] at CL
      refine CL.mono ?_
      clear CL
      rintro e w5 ⟨cA, fA, _, rfl, s5, b5⟩
      have AH : anyHit 512 ((manyS 16, (16 : Int), true) : Run).1 = false := anyHit_none fun x => manyS_hit _ x
      rw [AH]
      have S5 := hide (show Shown w5 cA fA 512 (manyS 16) from s5)
      have B5 := hide (bnext BK.out b5)
      clear AH s5 b5 TK MK BK MR WF I5 hdl
      have hd1 : decide (16 < (k : Int)) = true := decide_eq_true (by omega)
      set_option maxRecDepth 20000 in
      go_wp2_with fail
      refine under_name fun wd hwd => ?_
      have nd : Below w5.heap.size w5 wd := by rw [hwd]; exact (Below.refl _ w5).alloc (Nat.le_refl _) _
      have P1 := hide (show HasP wd w5.heap.size cA fA 512 by rw [hwd]; exact heap_alloc_new _ _)
      have S1 := hide (S5.out.next nd)
      have B1 := hide (bnext B5.out nd)
      clear hwd nd S5 B5
      obtain ⟨zp, hzp⟩ : ∃ z, w5.heap.size = z := ⟨_, rfl⟩
      rw [hzp] at P1 ⊢
      clear hzp
      go_loopw [12] (fun si wr => ∃ i : Nat, i ≤ 512 ∧ si = .int .i64 (i : Int) ∧ wr = wd) (fun si _ => 512 - (intOf si).toNat)
      case atStart => exact ⟨0, Nat.zero_le _, rfl, rfl⟩
      case round =>
        obtain ⟨i, hi, rfl, hw⟩ := hrel
        subst hw
        by_cases hli : i < 512
        · have pa0 := P1.out.c0
          have ca := S1.out.cj i hli
          by_cases hin : i < 16 * 16
          · rw [show (manyS 16 i).1 = 17 by unfold manyS; rw [if_pos hin]] at ca
            have hlt2 : (i : Int) < 16 * (16 : Int) := by omega
            set_option maxRecDepth 20000 in
            go_wp2_with fail
            exact ⟨⟨i + 1, by omega, by go_num, trivial⟩, by simp [intOf]; omega⟩
          · rw [show (manyS 16 i).1 = 0 by unfold manyS; rw [if_neg hin]] at ca
            have hlt2 : decide ((i : Int) < 16 * (16 : Int)) = false := decide_eq_false (by omega)
            set_option maxRecDepth 20000 in
            go_wp2_with fail
            exact ⟨⟨i + 1, by omega, by go_num, trivial⟩, by simp [intOf]; omega⟩
        · obtain rfl : i = 512 := by omega
          set_option maxRecDepth 20000 in
          go_wp2_with fail
          go_ret
          exact ⟨rfl, B1.out⟩
theorem spritesMany_walk (a0 a1 : Int) (w : World) (w0 : (Lit.int .i64 a0).wf = true) (w1 : (Lit.int .i64 a1).wf = true) (hL : HasHigh w) : Calls Tryd.prog 7 #[.int .i64 a0, .int .i64 a1] w fun e w' => e = .returned (.bool true) ∧ Below w.heap.size w w' := by
  have rn := and_31 a0
  have ry := and_15 a1
  obtain ⟨n, hn⟩ : ∃ n : Nat, a0 % 32 = (n : Int) := ⟨(a0 % 32).toNat, by omega⟩
  rw [hn] at rn
  by_cases h : n ≤ 16
  · exact law_few a0 a1 (a1 % 16) n w (hide hL) rn ry (by omega) (by omega) (by omega) h
  · exact law_more a0 a1 (a1 % 16) n w (hide hL) rn ry (by omega) (by omega) (by omega) (by omega)
set_option maxRecDepth 100000 in
theorem spritesMany_lifted (os : Os) (started : os.Started) (H : Type) (enc : TypeId × Value → H) :
    ReturnsInHanded {} Tryd.checked os 7 .any (fun w args => (Rows.spritesManySpec.pre enc Tryd.prog Tryd.f7 [] false w args ∧ laidMetH Tryd.prog laidHigh w) ∧ sizedMet enc Tryd.prog Tryd.f7 (OpenSpec.ofChange Rows.spritesManySpec) false w args)
      (Rows.spritesManySpec.post enc Tryd.prog Tryd.f7 false true false false) := by
  refine returnsInHanded_of_change_and (C := Tryd.checked) (X := fun w _ => laidMetH Tryd.prog laidHigh w) (fun _ _ _ hh h => h.of_heap hh) own started (by kernel_rfl) Tryd.func7
    (ChangeSpec.witness_at (enc := enc) (C := Tryd.checked) (os := os) (X := fun w _ => laidMetH Tryd.prog laidHigh w) false (laidWorld os) #[.int .i64 0, .int .i64 0] 8 rfl (by kernel_rfl) (by kernel_rfl) (by kernel_rfl) (by kernel_rfl) (by kernel_rfl) (laidWorld_high os _)) ?_
  intro W base args ds gs before hval0 hW _ _ hL _
  have hval : ∀ (j : Nat) t v, Tryd.f7.params[j]? = some t → args[j]? = some v → Value.okWide Tryd.prog W .any base t v := hval0
  have hW' := hW
  obtain ⟨p, q, hA0, hV, rfl, hfz, hnd⟩ := hW
  have hA : DataW.TrodAll enc Tryd.prog W 0 (fun _ => true) true Tryd.f7.params.toList args.toList ds p := hA0
  rw [Tryd.params7] at hA hval
  obtain ⟨v0, vs0, d0, ds0, p0, q0, hargs, rfl, rfl, h0, r0⟩ := trodAll_cons hA
  obtain ⟨v1, vs1, d1, ds1, p1, q1, rfl, rfl, rfl, h1, r1⟩ := trodAll_cons r0
  obtain ⟨rfl, rfl, rfl⟩ := trodAll_nil r1
  obtain rfl : args = #[v0, v1] := by cases args; simp_all
  obtain ⟨rfl, rfl⟩ := trodVars_none hV
  obtain ⟨a0, rfl, rfl, rfl, w0⟩ := open_int Tryd.underlying3 (hval 0 3 v0 rfl rfl) h0
  obtain ⟨a1, rfl, rfl, rfl, w1⟩ := open_int Tryd.underlying3 (hval 1 3 v1 rfl rfl) h1
  clear hA0 hval0
  refine (spritesMany_walk a0 a1 W w0 w1 (laid_high hL)).mono fun e W' ⟨he, bel⟩ => ?_
  subst he
  exact ⟨_, rfl, _, _, _, [], _, [], hW', trodAll_mk1 (shut_bool Tryd.underlying4 _), (trodAll_cons_mk (shut_int Tryd.underlying3 w0) (trodAll_cons_mk (shut_int Tryd.underlying3 w1) trodAll_mk0)), rfl, bel.frame _, fun h => by cases h⟩

theorem spritesMany_over : Rows.spritesManyRow.holds Tryd.pinned (OpenSpec.ofChange Rows.spritesManySpec) :=
  OpenClaim.holds_of_wide 7 Tryd.f7 rfl rfl rfl rfl rfl rfl rfl ⟨rfl, rfl, rfl, rfl, rfl⟩ rfl rfl rfl rfl rfl (by kernel_rfl) Tryd.func7 (by kernel_rfl)
    (of_decide_eq_true (by kernel_rfl)) (by unfold Func.isWrapper; first | (rw [if_pos (by decide +kernel)]; kernel_rfl) | (rw [if_neg (by decide +kernel)]; exact ⟨rfl, rfl⟩))
    (fun os started H enc _ => spritesMany_lifted os started H enc)

theorem spritesMany_row : Rows.SpritesManySaid := spritesMany_over

theorem spritesMany_holds : Rows.SpritesManyCardSaid :=
  Claim7.holds_tied_plain_at .later [] [.data] true (true, "0a37a5a4315790cd1c1c663d3aa689065fbd0f428761630f5de7b36c5ae14ed1") false
    spritesMany_row (fun _ h => by cases h) (by kernel_rfl) (fun _ h => by cases h) spritesMany_row_tie rfl ⟨rfl, rfl⟩ (by kernel_rfl) rfl
    (fun f fn hf hfn => by
      obtain rfl : f = 7 := Option.some.inj ((show Tryd.prog.funcNamed "phosphor/phosphorlaw18.SpritesMany" = some 7 by kernel_rfl).symm.trans hf) |>.symm
      obtain rfl : fn = Tryd.f7 := (Option.some.inj (Tryd.func7.symm.trans hfn)).symm
      exact ⟨by kernel_rfl, fun j t ht => by
        rw [Tryd.params7] at ht
        rcases j with _ | _ | j
        · obtain rfl : t = 3 := by simpa using ht.symm
          exact (show Tryd.prog.wantsStandIn 3 = false by kernel_rfl)
        · obtain rfl : t = 3 := by simpa using ht.symm
          exact (show Tryd.prog.wantsStandIn 3 = false by kernel_rfl)
        · simp at ht⟩)
    (by kernel_rfl)
#print axioms spritesMany_holds
end Go.Proofs.YtnlohhgogdiheaaDoor
