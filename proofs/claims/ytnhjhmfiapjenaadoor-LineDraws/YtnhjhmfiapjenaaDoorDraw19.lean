/- Package line: the contract of Draw at video memory that a call made. -/
import Derived.Test.YtnhjhmfiapjenaaDoorLine17
import Derived.Test.YtnhjhmfiapjenaaDoorLine18
import Derived.Test.YtnhjhmfiapjenaaDoorVce12
import Derived.Test.YtnhjhmfiapjenaaDoorTells15
import Derived.Test.YtnhjhmfiapjenaaDoorMix19
import Derived.Test.YtnhjhmfiapjenaaDoorInput19
namespace Go.Proofs.YtnhjhmfiapjenaaDoor
open Go.RowKit
set_option linter.unusedVariables false

theorem lnone_made (b : Nat) (m : Nat → Int) (wr rd st lo bu : Int) (w : World) (h : HasM w b true m wr rd st lo bu) : Calls Tryd.prog 20 #[.pointer (some ⟨b, 0, none⟩)] w fun e w' => e = .returned (.bool false) ∧ Below w.heap.size w w' := by
  have KW := hide (words_is b m wr rd st lo bu w h 0 1 0 rfl (by omega) (by omega))
  clear h
  go_enter Tryd.func20, Tryd.ntmps20
  go_wp2_with fail
  refine KW.out.mono ?_
  rintro e w1 ⟨rfl, _, b1⟩
  have B1 := hide b1
  clear b1
  go_wp2
  go_ret
  exact ⟨rfl, B1.out⟩
theorem layP_le {first fr : Bool} {P p : Int} {v : Pos} (hP : 0 ≤ P ∧ P < 16) (hp : 0 ≤ p ∧ p < 16) (hv : 0 ≤ v.1 ∧ v.1 ≤ 255) : 0 ≤ (layP first P fr p v).1 ∧ (layP first P fr p v).1 ≤ 255 := by
  unfold layP
  split
  · exact hv
  · split
    · exact ⟨by show 0 ≤ P * 16 + p; omega, by show P * 16 + p ≤ 255; omega⟩
    · split
      · exact hv
      · exact hv
theorem runT_col (g : Int → Int) (T : Nat → Int) (y : Int) : ∀ (k x : Nat), 0 ≤ ((runT g T y k).1 x).1 ∧ ((runT g T y k).1 x).1 ≤ 255
  | 0, x => ⟨Int.le_refl 0, show (0 : Int) ≤ 255 by decide⟩
  | k + 1, x => by
    have h := runT_col g T y k x
    show 0 ≤ ((if (runT g T y k).2.2 = true then _ else _ : Run).1 x).1 ∧ ((if (runT g T y k).2.2 = true then _ else _ : Run).1 x).1 ≤ 255
    split
    · exact h
    · split
      · split
        · exact h
        · show 0 ≤ (stepT g T y k (runT g T y k).1 x).1 ∧ (stepT g T y k (runT g T y k).1 x).1 ≤ 255
          unfold stepT partS
          split
          · exact layP_le (sprP_le _) (pixS_le _ _ _ _ _ _ _ _) h
          · exact h
      · exact h
/-- The background of a line, and its sprites, where they are on. -/
def backOf (on : Bool) (g : Int → Int) (W H X Y : Int) (j : Nat) : Int := if on = true then T17.pixelG g W H X Y (j : Int) 0 else 0
def sprOf (on : Bool) (g : Int → Int) (T : Nat → Int) (y : Int) (j : Nat) : Pos := if on = true then (runT g T y 64).1 j else (0, false, false, false)
def overOf (on : Bool) (g : Int → Int) (T : Nat → Int) (y : Int) : Bool := on && (runT g T y 64).2.2
def hitOf (on : Bool) (g : Int → Int) (T : Nat → Int) (y : Int) (N : Nat) : Bool := on && anyHit N (runT g T y 64).1
/-- The colours' numbers of a line. -/
def numOf (x7 x6 : Bool) (g : Int → Int) (W H X Y : Int) (T : Nat → Int) (y : Int) (N j : Nat) : Int := mixOf (backOf x7 g W H X Y) N (fun i => (sprOf x6 g T y i).1) (fun i => (sprOf x6 g T y i).2.1) j
def shownC (F : Nat → Int) (c k : Int) : Int := V12.colOf (F (k % 512).toNat % 512) (bitOf c 7 == 1)
theorem draw_no (b : Nat) (m : Nat → Int) (wr rd st lo bu : Int) (w : World) (h : HasM w b true m wr rd st lo bu) (A : Array Value) (G TL V : List Value) (s : Int) (f : Nat → Int) (T : Nat → Int) (c a : Int) (F : Nat → Int) (X Y L : Int) (hG : Hid (G = gL s f)) (hT : Hid (TL = tabL T)) (hV : Hid (V = vL c a F)) (n : Int) (hA : Hid (A = (inL [.pointer (some ⟨b, 0, none⟩)] G TL V X Y L n).toArray)) (hn : n < 1 ∨ 512 < n) :
    Calls Tryd.prog 9 #[.agg A] w fun e w' => e = .returned (.tuple #[.slice none 0 0, .bool false, .bool false]) ∧ Below w.heap.size w w' := by
  have HM := hide h
  clear h
  have KN := hide (lnone_made b m wr rd st lo bu)
  have LG := hide (show G.length = 21 by rw [hG.out]; exact gL_length _ _)
  have LT := hide (show TL.length = 256 by rw [hT.out]; exact tabL_length _)
  have LV := hide (show V.length = 514 by rw [hV.out]; exact vL_length _ _ _)
  go_enter Tryd.func9, Tryd.ntmps9
  have A0 := hide (show HasI 43 (w.alloc (.cells A 43)) w.heap.size [.pointer (some ⟨b, 0, none⟩)] G TL V X Y L n from ⟨by rw [hA.out]; exact heap_alloc_new _ _, LG.out, LT.out, LV.out⟩)
  have c0 := A0.out.first 0 _ rfl
  go_wp2_with fail
  refine under_calls fun wa hwa => ?_
  have I0 := hide (show HasI 43 wa w.heap.size [.pointer (some ⟨b, 0, none⟩)] G TL V X Y L n by rw [hwa]; exact A0.out)
  have B0 := hide (show Below w.heap.size w wa by rw [hwa]; exact (Below.refl _ w).alloc (Nat.le_refl _) _)
  clear hwa A0 c0
  obtain ⟨z, hz⟩ : ∃ z, w.heap.size = z := ⟨_, rfl⟩
  rw [hz] at I0 ⊢
  have HZ := hide hz
  clear hz
  refine (KN.out wa (HM.out.next B0.out)).mono ?_
  rintro e w1 ⟨rfl, b1⟩
  have I1 := hide (I0.out.next b1)
  have B1 := hide (bnext B0.out b1)
  clear b1 I0 B0 KN
  have cN : w1.cell? ⟨z, 795, none⟩ = some (.int .i64 n) := I1.out.n
  rcases hn with hn | hn
  · have hd : decide (n < 1) = true := decide_eq_true hn
    go_wp2_with fail
    go_ret3
    exact ⟨rfl, B1.out⟩
  · have hd : decide (n < 1) = false := decide_eq_false (by omega)
    have he : decide (512 < n) = true := decide_eq_true hn
    go_wp2_with fail
    go_ret3
    exact ⟨rfl, B1.out⟩
theorem ons (s : Int) (f : Nat → Int) (G : List Value) (hG : Hid (G = gL s f)) (k : Int) (x : Bool) (hx : (bitOf (f 5) k == 1) = x) (w : World) : Calls Tryd.prog 21 #[.agg G.toArray, .int .i64 k] w fun e w' => e = .returned (.bool x) ∧ Below w.heap.size w w' := by
  rw [hG.out, gL_row, ← hx]
  exact R15.on_any s f k w
theorem maps (s : Int) (f : Nat → Int) (G : List Value) (hG : Hid (G = gL s f)) (p q : Nat) (hp : R15.pairOf (f 9) 4 = p) (hq : bitOf (f 9) 6 = (q : Int)) (w : World) : Calls Tryd.prog 12 #[.agg G.toArray] w fun e w' => e = .returned (.tuple #[.int .i64 (R15.wideOf p), .int .i64 (R15.highOf2 q)]) ∧ Below w.heap.size w w' := by
  rw [hG.out, gL_row]
  exact R15.map_any s f p q hp hq w
theorem colours (c a : Int) (F : Nat → Int) (V : List Value) (hV : Hid (V = vL c a F)) (k v : Int) (hv : shownC F c k = v) (w : World) : Calls Tryd.prog 22 #[.agg V.toArray, .int .i64 k] w fun e w' => e = .returned (.int .i64 v) ∧ Below w.heap.size w w' := by
  rw [hV.out, vL_row, ← hv]
  exact V12.colour_at c a k F w (k % 512).toNat (by omega)
set_option maxHeartbeats 4000000 in
theorem draw_is (b : Nat) (m : Nat → Int) (wr rd st lo bu : Int) (w : World) (h : HasM w b true m wr rd st lo bu) (A : Array Value) (G TL V : List Value) (s : Int) (f : Nat → Int) (T : Nat → Int) (c a : Int) (F : Nat → Int) (X Y L : Int) (hG : Hid (G = gL s f)) (hT : Hid (TL = tabL T)) (hV : Hid (V = vL c a F)) (N : Nat) (hA : Hid (A = (inL [.pointer (some ⟨b, 0, none⟩)] G TL V X Y L (N : Int)).toArray)) (HH : Hid (HasHigh w)) (HW : Hid (Words (wordAt m))) (hN0 : 1 ≤ N) (hN1 : N ≤ 512) (p q : Nat) (hp : R15.pairOf (f 9) 4 = p) (hq : bitOf (f 9) 6 = (q : Int)) (x7 x6 : Bool) (h7 : (bitOf (f 5) 7 == 1) = x7) (h6 : (bitOf (f 5) 6 == 1) = x6) :
    Calls Tryd.prog 9 #[.agg A] w fun e w' => ∃ g, w.heap.size ≤ g ∧ e = .returned (.tuple #[.slice (some ⟨g, 0, none⟩) N N, .bool (overOf x6 (wordAt m) T L), .bool (hitOf x6 (wordAt m) T L N)]) ∧ RowN w' g N (fun j => shownC F c (numOf x7 x6 (wordAt m) (R15.wideOf p) (R15.highOf2 q) X Y T L N j)) ∧ Below w.heap.size w w' := by
  have HM := hide h
  clear h
  have KN := hide (lnone_made b m wr rd st lo bu)
  have LG := hide (show G.length = 21 by rw [hG.out]; exact gL_length _ _)
  have LT := hide (show TL.length = 256 by rw [hT.out]; exact tabL_length _)
  have LV := hide (show V.length = 514 by rw [hV.out]; exact vL_length _ _ _)
  go_enter Tryd.func9, Tryd.ntmps9
  have A0 := hide (show HasI 43 (w.alloc (.cells A 43)) w.heap.size [.pointer (some ⟨b, 0, none⟩)] G TL V X Y L (N : Int) from ⟨by rw [hA.out]; exact heap_alloc_new _ _, LG.out, LT.out, LV.out⟩)
  have c0 := A0.out.first 0 _ rfl
  go_wp2_with fail
  refine under_calls fun wa hwa => ?_
  have I0 := hide (show HasI 43 wa w.heap.size [.pointer (some ⟨b, 0, none⟩)] G TL V X Y L (N : Int) by rw [hwa]; exact A0.out)
  have B0 := hide (show Below w.heap.size w wa by rw [hwa]; exact (Below.refl _ w).alloc (Nat.le_refl _) _)
  clear hwa A0 c0
  obtain ⟨z, hz⟩ : ∃ z, w.heap.size = z := ⟨_, rfl⟩
  rw [hz] at I0 ⊢
  have HZ := hide hz
  clear hz
  refine (KN.out wa (HM.out.next B0.out)).mono ?_
  rintro e w1 ⟨rfl, b1⟩
  have I1 := hide (I0.out.next b1)
  have B1 := hide (bnext B0.out b1)
  clear b1 I0 B0 KN
  have cN : w1.cell? ⟨z, 795, none⟩ = some (.int .i64 (N : Int)) := I1.out.n
  have hd1 : decide ((N : Int) < 1) = false := decide_eq_false (by omega)
  have hd2 : decide ((512 : Int) < N) = false := decide_eq_false (by omega)
  have hmk := make_rowN N (by omega)
  have K7 := hide (ons s f G hG 7 x7 h7)
  have IG := hide (show (Tryd.prog.info? 39).map (·.size) = some G.length by rw [LG.out]; kernel_rfl)
  have R1 := hide (I1.out.next ((Below.refl _ w1).alloc (Nat.le_refl _) (.cells (rowN (fun _ => 0) N).toArray 3)))
  go_wp2_with (first | (refine wpList_load_mid rfl 39 (.tmp 27) rfl z 1 rfl G _ R1.out.regs Tryd.underlying39 rfl IG.out ?_))
  refine under_calls fun w2 hw2 => ?_
  have n2 : Below w1.heap.size w1 w2 := by rw [hw2]; exact (Below.refl _ w1).alloc (Nat.le_refl _) _
  have G2 := hide (show RowN w2 w1.heap.size N (fun _ => 0) by rw [hw2]; exact heap_alloc_new _ _)
  have I2 := hide (I1.out.next n2)
  have B2 := hide (bnext B1.out n2)
  have hb1 := B1.out.size
  clear hw2 n2 R1 I1 B1 hmk cN
  obtain ⟨g2, hg2⟩ : ∃ z, w1.heap.size = z := ⟨_, rfl⟩
  have HG2 := hide (show w.heap.size ≤ g2 by rw [← hg2]; exact hb1)
  rw [hg2] at G2 ⊢
  clear hg2 hb1
  refine (K7.out w2).mono ?_
  rintro e w3 ⟨rfl, b3⟩
  have G3 := hide (G2.out.next b3)
  have I3 := hide (I2.out.next b3)
  have B3 := hide (bnext B2.out b3)
  clear b3 G2 I2 B2 K7
  cases x7
  · have G5 := hide (show RowN w3 g2 N (backOf false (wordAt m) (R15.wideOf p) (R15.highOf2 q) X Y) from G3.out.ext fun j _ => rfl)
    have I5 := I3
    have B5 := B3
    have HB5 := hide B3.out.size
    obtain ⟨w5, hw5⟩ : ∃ u, u = w3 := ⟨_, rfl⟩
    rw [← hw5] at G5 I5 B5 HB5 ⊢
    obtain ⟨gk, hgk⟩ : ∃ u, u = g2 := ⟨_, rfl⟩
    rw [← hgk] at G5 ⊢
    clear hw5 hgk G3 I3 B3 HG2 hp hq h7
    have K6 := hide (ons s f G hG 6 x6 h6)
    have IG := hide (show (Tryd.prog.info? 39).map (·.size) = some G.length by rw [LG.out]; kernel_rfl)
    have R8 := hide (I5.out.next ((Below.refl _ w5).alloc (Nat.le_refl _) (.cells #[.slice none 0 0, .slice none 0 0] 58)))
    go_wp2_with (first | (refine wpList_load_mid rfl 39 (.tmp 48) rfl z 1 rfl G _ R8.out.regs Tryd.underlying39 rfl IG.out ?_))
    refine under_calls fun w6 hw6 => ?_
    have n6 : Below w5.heap.size w5 w6 := by rw [hw6]; exact (Below.refl _ w5).alloc (Nat.le_refl _) _
    have P6 := hide (show w6.heap[w5.heap.size]? = some (.cells #[.slice none 0 0, .slice none 0 0] 58 (0, 0)) by rw [hw6]; exact heap_alloc_new _ _)
    have I6 := hide (I5.out.next n6)
    have G6 := hide (G5.out.next n6)
    have B6 := hide (bnext B5.out n6)
    have hzp := n6.size
    clear hw6 n6 R8 I5 G5 B5
    obtain ⟨zp, ezp⟩ : ∃ z, w5.heap.size = z := ⟨_, rfl⟩
    have HP := hide (show w.heap.size ≤ zp by rw [← ezp]; exact HB5.out)
    rw [ezp] at P6 ⊢
    clear ezp hzp HB5
    refine (K6.out w6).mono ?_
    rintro e w7 ⟨rfl, b7⟩
    have P7 := hide ((b7.block _ (lt_of_block P6.out)).trans P6.out)
    have I7 := hide (I6.out.next b7)
    have G7 := hide (G6.out.next b7)
    have B7 := hide (bnext B6.out b7)
    clear b7 P6 I6 G6 B6 K6 IG h6
    cases x6
    · have p0 := (cell_of_row w7 zp 0 _ _ _ P7.out).trans rfl
      have p1 := (cell_of_row w7 zp 1 _ _ _ P7.out).trans rfl
      go_wp2_with fail
      refine (mix_is (some ⟨gk, 0, none⟩) none none N N 0 0 0 0 0 _ (fun _ => 0) (fun _ => false) w7 (hide G7.out.ints) (hide (intsAt_none _ _ _)) (hide (flagsAt_none _ _ _)) (by omega) (by omega) (by omega) (hide fun j hj => absurd hj (Nat.not_lt_zero _)) rfl).mono ?_
      rintro e w8 ⟨g8, hg8, rfl, r8, b8⟩
      have G8 := hide (show RowN w8 g8 N (numOf false false (wordAt m) (R15.wideOf p) (R15.highOf2 q) X Y T L N) from r8.ext fun j hj => by
        unfold numOf mixOf sprOf
        rw [if_neg (fun h => absurd h.1 (Nat.not_lt_zero _)), if_neg (fun h => h.2.1 rfl)])
      have I8 := hide (I7.out.next b8)
      have HG8 := hide (Nat.le_trans B7.out.size hg8)
      have B8 := hide (bnext B7.out b8)
      have HOV := hide (show overOf false (wordAt m) T L = false ∧ hitOf false (wordAt m) T L N = false from ⟨rfl, rfl⟩)
      clear r8 b8 hg8 p0 p1 P7 I7 G7 B7 HP
      obtain ⟨M, hM⟩ : ∃ M, numOf false false (wordAt m) (R15.wideOf p) (R15.highOf2 q) X Y T L N = M := ⟨_, rfl⟩
      rw [hM] at G8
      have HMM := hide hM
      clear hM
      have K8 := hide (show RowN w8 g8 N (fun j => if j < 0 then shownC F c (M j) else M j) from G8.out.ext fun j _ => by rw [if_neg (by omega)])
      have IV := hide (show (Tryd.prog.info? 34).map (·.size) = some V.length by rw [LV.out]; kernel_rfl)
      clear G8
      go_wp2_with fail
      go_loopw [69] (fun si wr => ∃ k : Nat, k ≤ N ∧ si = .int .i64 (k : Int) ∧ RowN wr g8 N (fun j => if j < k then shownC F c (M j) else M j) ∧ HasI 43 wr z [.pointer (some ⟨b, 0, none⟩)] G TL V X Y L (N : Int) ∧ Below w.heap.size w wr) (fun si _ => N - (intOf si).toNat)
      case atStart => exact ⟨0, Nat.zero_le _, rfl, K8.out, I8.out, B8.out⟩
      case round =>
        obtain ⟨k, hk, rfl, hr, hi, hb⟩ := hrel
        have RK := hide hr
        have IK := hide hi
        have BK := hide hb
        clear hr hi hb K8 I8 B8
        by_cases hlt : k < N
        · have ck : wr.cell? ⟨g8, k, none⟩ = some (.int .i64 (M k)) := by
            have := RK.out.at k hlt
            rw [if_neg (by omega)] at this
            exact this
          obtain ⟨x, hx⟩ : ∃ x, M k = x := ⟨_, rfl⟩
          obtain ⟨v, hv⟩ : ∃ v, shownC F c x = v := ⟨_, rfl⟩
          rw [hx] at ck
          have KC := hide (colours c a F V hV x v hv)
          have HX := hide (And.intro hx hv)
          clear hx hv
          go_wp2_with (first | (refine wpList_load_mid rfl 34 (.tmp 76) rfl z 278 rfl V _ IK.out.vce Tryd.underlying34 rfl IV.out ?_))
          refine (KC.out wr).mono ?_
          rintro e w11 ⟨rfl, b11⟩
          have R11 := hide (RK.out.next b11)
          have I11 := hide (IK.out.next b11)
          have B11 := hide (bnext BK.out b11)
          have cj := R11.out.at k hlt
          have zj := R11.out.frozen k
          rw [if_neg (by omega)] at cj
          clear b11 RK IK BK KC ck
          go_wp2_with fail
          go_roundw
          case rel =>
            refine ⟨k + 1, by omega, by go_num, ?_, ?_, B11.out.setCell (p := ⟨g8, k, none⟩) HG8.out _⟩
            · refine RowN.ext (R11.out.set k v) fun j _ => ?_
              by_cases e : j = k
              · rw [if_pos e, if_pos (by omega), e, HX.out.1, HX.out.2]
              · rw [if_neg e]
                by_cases q : j < k
                · rw [if_pos q, if_pos (by omega)]
                · rw [if_neg q, if_neg (by omega)]
            · exact I11.out.keep (heap_setCell_other _ _ _ _ (types_apart I11.out.1 R11.out (by decide)))
          case measure => simp [intOf]; omega
        · obtain rfl : k = N := by omega
          go_wp2_with fail
          go_ret3
          refine ⟨g8, HG8.out, by rw [HOV.out.1, HOV.out.2]; rfl, RK.out.ext fun j hj => by rw [if_pos hj]; first | rw [HWH.out.1, HWH.out.2, HMM.out] | rw [HMM.out], BK.out⟩
    · have KS := hide (sline_is b m wr rd st lo bu w7 (HM.out.next B7.out) (hide (HH.out.next B7.out)) HW T L (N : Int) N rfl hN0 hN1)
      rw [← hT.out] at KS
      have IT := hide (show (Tryd.prog.info? 30).map (·.size) = some TL.length by rw [LT.out]; kernel_rfl)
      have cb : w7.cell? ⟨z, 0, none⟩ = some (.pointer (some ⟨b, 0, none⟩)) := I7.out.first 0 _ rfl
      have cL : w7.cell? ⟨z, 794, none⟩ = some (.int .i64 L) := I7.out.l
      have cN : w7.cell? ⟨z, 795, none⟩ = some (.int .i64 (N : Int)) := I7.out.n
      go_wp2_with (first | (refine wpList_load_mid rfl 30 (.tmp 54) rfl z 22 rfl TL _ I7.out.table Tryd.underlying30 rfl IT.out ?_))
      refine KS.out.mono ?_
      rintro e w8 ⟨cC, fC, _, rfl, s8, b8⟩
      have S8 := hide s8
      have P8 := hide ((b8.block _ (lt_of_block P7.out)).trans P7.out)
      have I8 := hide (I7.out.next b8)
      have G8 := hide (G7.out.next b8)
      have B8 := hide (bnext B7.out b8)
      clear s8 b8 P7 I7 G7 B7 KS IT cb cL cN
      obtain ⟨R, hR⟩ : ∃ R, runT (wordAt m) T L 64 = R := ⟨_, rfl⟩
      have HRR := hide hR
      rw [hR] at S8 ⊢
      clear hR
      obtain ⟨ov, hov⟩ : ∃ v, R.2.2 = v := ⟨_, rfl⟩
      obtain ⟨ht, hht⟩ : ∃ v, anyHit N R.1 = v := ⟨_, rfl⟩
      rw [hov, hht]
      have HOV := hide (show overOf true (wordAt m) T L = ov ∧ hitOf true (wordAt m) T L N = ht by unfold overOf hitOf; rw [HRR.out, hov, hht]; exact ⟨rfl, rfl⟩)
      clear hov hht
      go_wp2_with (first
        | (refine wpList_store_row rfl 58 (.tmp 8) (.tmp 61) rfl zp _ rfl rfl 58 _ P8.out (by kernel_rfl) rfl (by kernel_rfl) ?_
           refine under_list fun w9 hw9 => ?_
           have P9 := hide (show w9.heap[zp]? = some (.cells #[.slice (some ⟨cC, 0, none⟩) N N, .slice (some ⟨fC, 0, none⟩) N N] 58 (0, 0)) by rw [hw9]; exact setRow_heap _ _ _ _ _ _ P8.out)
           have O9 := hide (show ∀ j, j ≠ zp → w9.heap[j]? = w8.heap[j]? from fun j hj => by rw [hw9]; exact setRow_other _ _ _ _ hj)
           have B9 := hide (show Below w.heap.size w w9 by rw [hw9]; exact below_setRow B8.out HP.out _)
           have p0 := (cell_of_row w9 zp 0 _ _ _ P9.out).trans rfl
           have p1 := (cell_of_row w9 zp 1 _ _ _ P9.out).trans rfl
           clear hw9))
      have I9 := hide (I8.out.keep (O9.out z (types_apart I8.out.1 P8.out (by decide))))
      have G9 := hide (show RowN w9 gk N _ from (O9.out gk (types_apart G8.out P8.out (by decide))).trans G8.out)
      have S9 := hide (show Shown w9 cC fC N R.1 from ⟨(O9.out cC (types_apart S8.out.1 P8.out (by decide))).trans S8.out.1, (O9.out fC (types_apart S8.out.2 P8.out (by decide))).trans S8.out.2⟩)
      have HCO := hide (show ∀ j, j < N → -9223372036854775808 ≤ (R.1 j).1 ∧ (R.1 j).1 ≤ 1099511627776 from fun j _ => by
        have k := runT_col (wordAt m) T L 64 j
        rw [HRR.out] at k
        omega)
      refine (mix_is (some ⟨gk, 0, none⟩) (some ⟨cC, 0, none⟩) (some ⟨fC, 0, none⟩) N N N N N N N _ (fun j => (R.1 j).1) (fun j => (R.1 j).2.1) w9 (hide G9.out.ints) (hide fun j hj => ⟨cC, 0, rfl, S9.out.lc, by rw [Nat.zero_add]; exact S9.out.cj j hj⟩) (hide fun j hj => ⟨fC, 0, rfl, S9.out.lf, by rw [Nat.zero_add]; exact S9.out.fj j hj⟩) (by omega) (by omega) (by omega) HCO (by omega)).mono ?_
      rintro e w10 ⟨g8, hg8, rfl, r8, b8⟩
      have I8 := hide (I9.out.next b8)
      have G8 := hide (show RowN w10 g8 N (numOf false true (wordAt m) (R15.wideOf p) (R15.highOf2 q) X Y T L N) from r8.ext fun j hj => by
        unfold numOf sprOf
        rw [HRR.out]
        rfl)
      have HG8 := hide (Nat.le_trans B9.out.size hg8)
      have B8 := hide (bnext B9.out b8)
      clear r8 b8 hg8 p0 p1 P8 P9 O9 I9 G9 S8 S9 B9 HP HCO HRR
      obtain ⟨w8, hw8⟩ : ∃ u, u = w10 := ⟨_, rfl⟩
      rw [← hw8] at I8 G8 B8 ⊢
      clear hw8
      obtain ⟨M, hM⟩ : ∃ M, numOf false true (wordAt m) (R15.wideOf p) (R15.highOf2 q) X Y T L N = M := ⟨_, rfl⟩
      rw [hM] at G8
      have HMM := hide hM
      clear hM
      have K8 := hide (show RowN w8 g8 N (fun j => if j < 0 then shownC F c (M j) else M j) from G8.out.ext fun j _ => by rw [if_neg (by omega)])
      have IV := hide (show (Tryd.prog.info? 34).map (·.size) = some V.length by rw [LV.out]; kernel_rfl)
      clear G8
      go_wp2_with fail
      go_loopw [69] (fun si wr => ∃ k : Nat, k ≤ N ∧ si = .int .i64 (k : Int) ∧ RowN wr g8 N (fun j => if j < k then shownC F c (M j) else M j) ∧ HasI 43 wr z [.pointer (some ⟨b, 0, none⟩)] G TL V X Y L (N : Int) ∧ Below w.heap.size w wr) (fun si _ => N - (intOf si).toNat)
      case atStart => exact ⟨0, Nat.zero_le _, rfl, K8.out, I8.out, B8.out⟩
      case round =>
        obtain ⟨k, hk, rfl, hr, hi, hb⟩ := hrel
        have RK := hide hr
        have IK := hide hi
        have BK := hide hb
        clear hr hi hb K8 I8 B8
        by_cases hlt : k < N
        · have ck : wr.cell? ⟨g8, k, none⟩ = some (.int .i64 (M k)) := by
            have := RK.out.at k hlt
            rw [if_neg (by omega)] at this
            exact this
          obtain ⟨x, hx⟩ : ∃ x, M k = x := ⟨_, rfl⟩
          obtain ⟨v, hv⟩ : ∃ v, shownC F c x = v := ⟨_, rfl⟩
          rw [hx] at ck
          have KC := hide (colours c a F V hV x v hv)
          have HX := hide (And.intro hx hv)
          clear hx hv
          go_wp2_with (first | (refine wpList_load_mid rfl 34 (.tmp 76) rfl z 278 rfl V _ IK.out.vce Tryd.underlying34 rfl IV.out ?_))
          refine (KC.out wr).mono ?_
          rintro e w11 ⟨rfl, b11⟩
          have R11 := hide (RK.out.next b11)
          have I11 := hide (IK.out.next b11)
          have B11 := hide (bnext BK.out b11)
          have cj := R11.out.at k hlt
          have zj := R11.out.frozen k
          rw [if_neg (by omega)] at cj
          clear b11 RK IK BK KC ck
          go_wp2_with fail
          go_roundw
          case rel =>
            refine ⟨k + 1, by omega, by go_num, ?_, ?_, B11.out.setCell (p := ⟨g8, k, none⟩) HG8.out _⟩
            · refine RowN.ext (R11.out.set k v) fun j _ => ?_
              by_cases e : j = k
              · rw [if_pos e, if_pos (by omega), e, HX.out.1, HX.out.2]
              · rw [if_neg e]
                by_cases q : j < k
                · rw [if_pos q, if_pos (by omega)]
                · rw [if_neg q, if_neg (by omega)]
            · exact I11.out.keep (heap_setCell_other _ _ _ _ (types_apart I11.out.1 R11.out (by decide)))
          case measure => simp [intOf]; omega
        · obtain rfl : k = N := by omega
          go_wp2_with fail
          go_ret3
          refine ⟨g8, HG8.out, by rw [HOV.out.1, HOV.out.2]; rfl, RK.out.ext fun j hj => by rw [if_pos hj]; first | rw [HWH.out.1, HWH.out.2, HMM.out] | rw [HMM.out], BK.out⟩
  · have KM := hide (maps s f G hG p q hp hq)
    have cb := I3.out.first 0 _ rfl
    clear hp hq h7
    go_wp2_with (first | (refine wpList_load_mid rfl 39 (.tmp 31) rfl z 1 rfl G _ I3.out.regs Tryd.underlying39 rfl IG.out ?_))
    refine (KM.out w3).mono ?_
    rintro e w4 ⟨rfl, b4⟩
    have I4 := hide (I3.out.next b4)
    have B4 := hide (bnext B3.out b4)
    clear b4 I3 B3 KM cb G3 HG2
    have cb : w4.cell? ⟨z, 0, none⟩ = some (.pointer (some ⟨b, 0, none⟩)) := I4.out.first 0 _ rfl
    have cX : w4.cell? ⟨z, 792, none⟩ = some (.int .i64 X) := I4.out.x
    have cY : w4.cell? ⟨z, 793, none⟩ = some (.int .i64 Y) := I4.out.y
    have cN : w4.cell? ⟨z, 795, none⟩ = some (.int .i64 (N : Int)) := I4.out.n
    obtain ⟨W, hW⟩ : ∃ x, R15.wideOf p = x := ⟨_, rfl⟩
    obtain ⟨H, hH⟩ : ∃ x, R15.highOf2 q = x := ⟨_, rfl⟩
    rw [hW, hH]
    have HWH := hide (And.intro hW hH)
    clear hW hH
    go_wp2_with fail
    refine (T17.line_is b m wr rd st lo bu w4 (HM.out.next B4.out) (fun j => T17.pixelG (wordAt m) W H X Y j 0) HW.out W H X Y 0 N hN0 hN1 (fun _ => rfl)).mono ?_
    rintro e w5 ⟨gk, hgk, rfl, r5, b5⟩
    have G5 := hide (show RowN w5 gk N (backOf true (wordAt m) W H X Y) from r5)
    have I5 := hide (I4.out.next b5)
    have B5 := hide (bnext B4.out b5)
    have HB5 := hide B5.out.size
    clear r5 b5 hgk I4 B4 cb cX cY cN
    have K6 := hide (ons s f G hG 6 x6 h6)
    have IG := hide (show (Tryd.prog.info? 39).map (·.size) = some G.length by rw [LG.out]; kernel_rfl)
    have R8 := hide (I5.out.next ((Below.refl _ w5).alloc (Nat.le_refl _) (.cells #[.slice none 0 0, .slice none 0 0] 58)))
    go_wp2_with (first | (refine wpList_load_mid rfl 39 (.tmp 48) rfl z 1 rfl G _ R8.out.regs Tryd.underlying39 rfl IG.out ?_))
    refine under_calls fun w6 hw6 => ?_
    have n6 : Below w5.heap.size w5 w6 := by rw [hw6]; exact (Below.refl _ w5).alloc (Nat.le_refl _) _
    have P6 := hide (show w6.heap[w5.heap.size]? = some (.cells #[.slice none 0 0, .slice none 0 0] 58 (0, 0)) by rw [hw6]; exact heap_alloc_new _ _)
    have I6 := hide (I5.out.next n6)
    have G6 := hide (G5.out.next n6)
    have B6 := hide (bnext B5.out n6)
    have hzp := n6.size
    clear hw6 n6 R8 I5 G5 B5
    obtain ⟨zp, ezp⟩ : ∃ z, w5.heap.size = z := ⟨_, rfl⟩
    have HP := hide (show w.heap.size ≤ zp by rw [← ezp]; exact HB5.out)
    rw [ezp] at P6 ⊢
    clear ezp hzp HB5
    refine (K6.out w6).mono ?_
    rintro e w7 ⟨rfl, b7⟩
    have P7 := hide ((b7.block _ (lt_of_block P6.out)).trans P6.out)
    have I7 := hide (I6.out.next b7)
    have G7 := hide (G6.out.next b7)
    have B7 := hide (bnext B6.out b7)
    clear b7 P6 I6 G6 B6 K6 IG h6
    cases x6
    · have p0 := (cell_of_row w7 zp 0 _ _ _ P7.out).trans rfl
      have p1 := (cell_of_row w7 zp 1 _ _ _ P7.out).trans rfl
      go_wp2_with fail
      refine (mix_is (some ⟨gk, 0, none⟩) none none N N 0 0 0 0 0 _ (fun _ => 0) (fun _ => false) w7 (hide G7.out.ints) (hide (intsAt_none _ _ _)) (hide (flagsAt_none _ _ _)) (by omega) (by omega) (by omega) (hide fun j hj => absurd hj (Nat.not_lt_zero _)) rfl).mono ?_
      rintro e w8 ⟨g8, hg8, rfl, r8, b8⟩
      have G8 := hide (show RowN w8 g8 N (numOf true false (wordAt m) W H X Y T L N) from r8.ext fun j hj => by
        unfold numOf mixOf sprOf
        rw [if_neg (fun h => absurd h.1 (Nat.not_lt_zero _)), if_neg (fun h => h.2.1 rfl)])
      have I8 := hide (I7.out.next b8)
      have HG8 := hide (Nat.le_trans B7.out.size hg8)
      have B8 := hide (bnext B7.out b8)
      have HOV := hide (show overOf false (wordAt m) T L = false ∧ hitOf false (wordAt m) T L N = false from ⟨rfl, rfl⟩)
      clear r8 b8 hg8 p0 p1 P7 I7 G7 B7 HP
      obtain ⟨M, hM⟩ : ∃ M, numOf true false (wordAt m) W H X Y T L N = M := ⟨_, rfl⟩
      rw [hM] at G8
      have HMM := hide hM
      clear hM
      have K8 := hide (show RowN w8 g8 N (fun j => if j < 0 then shownC F c (M j) else M j) from G8.out.ext fun j _ => by rw [if_neg (by omega)])
      have IV := hide (show (Tryd.prog.info? 34).map (·.size) = some V.length by rw [LV.out]; kernel_rfl)
      clear G8
      go_wp2_with fail
      go_loopw [69] (fun si wr => ∃ k : Nat, k ≤ N ∧ si = .int .i64 (k : Int) ∧ RowN wr g8 N (fun j => if j < k then shownC F c (M j) else M j) ∧ HasI 43 wr z [.pointer (some ⟨b, 0, none⟩)] G TL V X Y L (N : Int) ∧ Below w.heap.size w wr) (fun si _ => N - (intOf si).toNat)
      case atStart => exact ⟨0, Nat.zero_le _, rfl, K8.out, I8.out, B8.out⟩
      case round =>
        obtain ⟨k, hk, rfl, hr, hi, hb⟩ := hrel
        have RK := hide hr
        have IK := hide hi
        have BK := hide hb
        clear hr hi hb K8 I8 B8
        by_cases hlt : k < N
        · have ck : wr.cell? ⟨g8, k, none⟩ = some (.int .i64 (M k)) := by
            have := RK.out.at k hlt
            rw [if_neg (by omega)] at this
            exact this
          obtain ⟨x, hx⟩ : ∃ x, M k = x := ⟨_, rfl⟩
          obtain ⟨v, hv⟩ : ∃ v, shownC F c x = v := ⟨_, rfl⟩
          rw [hx] at ck
          have KC := hide (colours c a F V hV x v hv)
          have HX := hide (And.intro hx hv)
          clear hx hv
          go_wp2_with (first | (refine wpList_load_mid rfl 34 (.tmp 76) rfl z 278 rfl V _ IK.out.vce Tryd.underlying34 rfl IV.out ?_))
          refine (KC.out wr).mono ?_
          rintro e w11 ⟨rfl, b11⟩
          have R11 := hide (RK.out.next b11)
          have I11 := hide (IK.out.next b11)
          have B11 := hide (bnext BK.out b11)
          have cj := R11.out.at k hlt
          have zj := R11.out.frozen k
          rw [if_neg (by omega)] at cj
          clear b11 RK IK BK KC ck
          go_wp2_with fail
          go_roundw
          case rel =>
            refine ⟨k + 1, by omega, by go_num, ?_, ?_, B11.out.setCell (p := ⟨g8, k, none⟩) HG8.out _⟩
            · refine RowN.ext (R11.out.set k v) fun j _ => ?_
              by_cases e : j = k
              · rw [if_pos e, if_pos (by omega), e, HX.out.1, HX.out.2]
              · rw [if_neg e]
                by_cases q : j < k
                · rw [if_pos q, if_pos (by omega)]
                · rw [if_neg q, if_neg (by omega)]
            · exact I11.out.keep (heap_setCell_other _ _ _ _ (types_apart I11.out.1 R11.out (by decide)))
          case measure => simp [intOf]; omega
        · obtain rfl : k = N := by omega
          go_wp2_with fail
          go_ret3
          refine ⟨g8, HG8.out, by rw [HOV.out.1, HOV.out.2]; rfl, RK.out.ext fun j hj => by rw [if_pos hj]; first | rw [HWH.out.1, HWH.out.2, HMM.out] | rw [HMM.out], BK.out⟩
    · have KS := hide (sline_is b m wr rd st lo bu w7 (HM.out.next B7.out) (hide (HH.out.next B7.out)) HW T L (N : Int) N rfl hN0 hN1)
      rw [← hT.out] at KS
      have IT := hide (show (Tryd.prog.info? 30).map (·.size) = some TL.length by rw [LT.out]; kernel_rfl)
      have cb : w7.cell? ⟨z, 0, none⟩ = some (.pointer (some ⟨b, 0, none⟩)) := I7.out.first 0 _ rfl
      have cL : w7.cell? ⟨z, 794, none⟩ = some (.int .i64 L) := I7.out.l
      have cN : w7.cell? ⟨z, 795, none⟩ = some (.int .i64 (N : Int)) := I7.out.n
      go_wp2_with (first | (refine wpList_load_mid rfl 30 (.tmp 54) rfl z 22 rfl TL _ I7.out.table Tryd.underlying30 rfl IT.out ?_))
      refine KS.out.mono ?_
      rintro e w8 ⟨cC, fC, _, rfl, s8, b8⟩
      have S8 := hide s8
      have P8 := hide ((b8.block _ (lt_of_block P7.out)).trans P7.out)
      have I8 := hide (I7.out.next b8)
      have G8 := hide (G7.out.next b8)
      have B8 := hide (bnext B7.out b8)
      clear s8 b8 P7 I7 G7 B7 KS IT cb cL cN
      obtain ⟨R, hR⟩ : ∃ R, runT (wordAt m) T L 64 = R := ⟨_, rfl⟩
      have HRR := hide hR
      rw [hR] at S8 ⊢
      clear hR
      obtain ⟨ov, hov⟩ : ∃ v, R.2.2 = v := ⟨_, rfl⟩
      obtain ⟨ht, hht⟩ : ∃ v, anyHit N R.1 = v := ⟨_, rfl⟩
      rw [hov, hht]
      have HOV := hide (show overOf true (wordAt m) T L = ov ∧ hitOf true (wordAt m) T L N = ht by unfold overOf hitOf; rw [HRR.out, hov, hht]; exact ⟨rfl, rfl⟩)
      clear hov hht
      go_wp2_with (first
        | (refine wpList_store_row rfl 58 (.tmp 8) (.tmp 61) rfl zp _ rfl rfl 58 _ P8.out (by kernel_rfl) rfl (by kernel_rfl) ?_
           refine under_list fun w9 hw9 => ?_
           have P9 := hide (show w9.heap[zp]? = some (.cells #[.slice (some ⟨cC, 0, none⟩) N N, .slice (some ⟨fC, 0, none⟩) N N] 58 (0, 0)) by rw [hw9]; exact setRow_heap _ _ _ _ _ _ P8.out)
           have O9 := hide (show ∀ j, j ≠ zp → w9.heap[j]? = w8.heap[j]? from fun j hj => by rw [hw9]; exact setRow_other _ _ _ _ hj)
           have B9 := hide (show Below w.heap.size w w9 by rw [hw9]; exact below_setRow B8.out HP.out _)
           have p0 := (cell_of_row w9 zp 0 _ _ _ P9.out).trans rfl
           have p1 := (cell_of_row w9 zp 1 _ _ _ P9.out).trans rfl
           clear hw9))
      have I9 := hide (I8.out.keep (O9.out z (types_apart I8.out.1 P8.out (by decide))))
      have G9 := hide (show RowN w9 gk N _ from (O9.out gk (types_apart G8.out P8.out (by decide))).trans G8.out)
      have S9 := hide (show Shown w9 cC fC N R.1 from ⟨(O9.out cC (types_apart S8.out.1 P8.out (by decide))).trans S8.out.1, (O9.out fC (types_apart S8.out.2 P8.out (by decide))).trans S8.out.2⟩)
      have HCO := hide (show ∀ j, j < N → -9223372036854775808 ≤ (R.1 j).1 ∧ (R.1 j).1 ≤ 1099511627776 from fun j _ => by
        have k := runT_col (wordAt m) T L 64 j
        rw [HRR.out] at k
        omega)
      refine (mix_is (some ⟨gk, 0, none⟩) (some ⟨cC, 0, none⟩) (some ⟨fC, 0, none⟩) N N N N N N N _ (fun j => (R.1 j).1) (fun j => (R.1 j).2.1) w9 (hide G9.out.ints) (hide fun j hj => ⟨cC, 0, rfl, S9.out.lc, by rw [Nat.zero_add]; exact S9.out.cj j hj⟩) (hide fun j hj => ⟨fC, 0, rfl, S9.out.lf, by rw [Nat.zero_add]; exact S9.out.fj j hj⟩) (by omega) (by omega) (by omega) HCO (by omega)).mono ?_
      rintro e w10 ⟨g8, hg8, rfl, r8, b8⟩
      have I8 := hide (I9.out.next b8)
      have G8 := hide (show RowN w10 g8 N (numOf true true (wordAt m) W H X Y T L N) from r8.ext fun j hj => by
        unfold numOf sprOf
        rw [HRR.out]
        rfl)
      have HG8 := hide (Nat.le_trans B9.out.size hg8)
      have B8 := hide (bnext B9.out b8)
      clear r8 b8 hg8 p0 p1 P8 P9 O9 I9 G9 S8 S9 B9 HP HCO HRR
      obtain ⟨w8, hw8⟩ : ∃ u, u = w10 := ⟨_, rfl⟩
      rw [← hw8] at I8 G8 B8 ⊢
      clear hw8
      obtain ⟨M, hM⟩ : ∃ M, numOf true true (wordAt m) W H X Y T L N = M := ⟨_, rfl⟩
      rw [hM] at G8
      have HMM := hide hM
      clear hM
      have K8 := hide (show RowN w8 g8 N (fun j => if j < 0 then shownC F c (M j) else M j) from G8.out.ext fun j _ => by rw [if_neg (by omega)])
      have IV := hide (show (Tryd.prog.info? 34).map (·.size) = some V.length by rw [LV.out]; kernel_rfl)
      clear G8
      go_wp2_with fail
      go_loopw [69] (fun si wr => ∃ k : Nat, k ≤ N ∧ si = .int .i64 (k : Int) ∧ RowN wr g8 N (fun j => if j < k then shownC F c (M j) else M j) ∧ HasI 43 wr z [.pointer (some ⟨b, 0, none⟩)] G TL V X Y L (N : Int) ∧ Below w.heap.size w wr) (fun si _ => N - (intOf si).toNat)
      case atStart => exact ⟨0, Nat.zero_le _, rfl, K8.out, I8.out, B8.out⟩
      case round =>
        obtain ⟨k, hk, rfl, hr, hi, hb⟩ := hrel
        have RK := hide hr
        have IK := hide hi
        have BK := hide hb
        clear hr hi hb K8 I8 B8
        by_cases hlt : k < N
        · have ck : wr.cell? ⟨g8, k, none⟩ = some (.int .i64 (M k)) := by
            have := RK.out.at k hlt
            rw [if_neg (by omega)] at this
            exact this
          obtain ⟨x, hx⟩ : ∃ x, M k = x := ⟨_, rfl⟩
          obtain ⟨v, hv⟩ : ∃ v, shownC F c x = v := ⟨_, rfl⟩
          rw [hx] at ck
          have KC := hide (colours c a F V hV x v hv)
          have HX := hide (And.intro hx hv)
          clear hx hv
          go_wp2_with (first | (refine wpList_load_mid rfl 34 (.tmp 76) rfl z 278 rfl V _ IK.out.vce Tryd.underlying34 rfl IV.out ?_))
          refine (KC.out wr).mono ?_
          rintro e w11 ⟨rfl, b11⟩
          have R11 := hide (RK.out.next b11)
          have I11 := hide (IK.out.next b11)
          have B11 := hide (bnext BK.out b11)
          have cj := R11.out.at k hlt
          have zj := R11.out.frozen k
          rw [if_neg (by omega)] at cj
          clear b11 RK IK BK KC ck
          go_wp2_with fail
          go_roundw
          case rel =>
            refine ⟨k + 1, by omega, by go_num, ?_, ?_, B11.out.setCell (p := ⟨g8, k, none⟩) HG8.out _⟩
            · refine RowN.ext (R11.out.set k v) fun j _ => ?_
              by_cases e : j = k
              · rw [if_pos e, if_pos (by omega), e, HX.out.1, HX.out.2]
              · rw [if_neg e]
                by_cases q : j < k
                · rw [if_pos q, if_pos (by omega)]
                · rw [if_neg q, if_neg (by omega)]
            · exact I11.out.keep (heap_setCell_other _ _ _ _ (types_apart I11.out.1 R11.out (by decide)))
          case measure => simp [intOf]; omega
        · obtain rfl : k = N := by omega
          go_wp2_with fail
          go_ret3
          refine ⟨g8, HG8.out, by rw [HOV.out.1, HOV.out.2]; rfl, RK.out.ext fun j hj => by rw [if_pos hj]; first | rw [HWH.out.1, HWH.out.2, HMM.out] | rw [HMM.out], BK.out⟩
end Go.Proofs.YtnhjhmfiapjenaaDoor
