/- The document's own answer for layer 19: the contract of Draw. -/
import Derived.Test.YtnhjhmfiapjenaaDoorLaws19
import Derived.Test.YtnhjhmfiapjenaaDoorRMix19
import Derived.Test.YtnhjhmfiapjenaaDoorRLin18
import Derived.Test.YtnhjhmfiapjenaaDoorRef17
import Derived.Test.YtnhjhmfiapjenaaDoorRef12
import Derived.Test.YtnhjhmfiapjenaaDoorRMap15
namespace Go.Proofs.YtnhjhmfiapjenaaDoor
open Go.RowKit
set_option linter.unusedVariables false

theorem zero_J : Tryd.t48.zero = some (.agg zeroJ) := isZeroJ_eq (by kernel_rfl)
def placeJ (i : Nat) : Option (Nat × Nat) := #[(0, 21), (21, 256), (277, 514), (791, 1), (792, 1), (793, 1), (794, 1)][i]?
set_option maxRecDepth 100000 in
theorem built_J (parts : List (Nat × Value)) : Tryd.prog.built 48 parts = Instr.fill placeJ zeroJ parts := by
  have h1 : Tryd.prog.info? 48 = some Tryd.t48 := by kernel_rfl
  unfold Program.built
  simp only [h1, Tryd.underlying48, zero_J]
  rfl
theorem run_inputJ (s : Int) (f : Nat → Int) (T : Nat → Int) (c a : Int) (F : Nat → Int) (X Y L N : Int) (w : World) :
    (Instr.build 48 #[(0, .agg (R15.rowG s f)), (1, .agg (tabL T).toArray), (2, .agg (V12.rowV c a F)), (3, .int .i64 X), (4, .int .i64 Y), (5, .int .i64 L), (6, .int .i64 N)]).run Tryd.prog w = .ok (.agg (inL [] (gL s f) (tabL T) (vL c a F) X Y L N).toArray) w := by
  refine run_build w _ _ _ ?_
  rw [← gL_row, ← vL_row, built_J]
  unfold zeroJ
  rw [fill_G zG_length zT_length zV_length rfl (gL_length _ _), fill_T (gL_length _ _) zT_length zV_length rfl (tabL_length _), fill_V (gL_length _ _) (tabL_length _) zV_length rfl (vL_length _ _ _),
    fill_X (gL_length _ _) (tabL_length _) (vL_length _ _ _) rfl, fill_Y (gL_length _ _) (tabL_length _) (vL_length _ _ _) rfl, fill_L (gL_length _ _) (tabL_length _) (vL_length _ _ _) rfl, fill_N (gL_length _ _) (tabL_length _) (vL_length _ _ _) rfl]
  rfl
/-- Block g begins with N numbers. -/
def OwnN (w : World) (g N cap : Nat) (F : Nat → Int) : Prop := ∃ cur : Array Value, w.heap[g]? = some (.cells cur 3 (0, 0)) ∧ ∀ j, j < N → cur[j]? = some (.int .i64 (F j))
theorem OwnN.next {w : World} {g N cap : Nat} {F : Nat → Int} (h : OwnN w g N cap F) {w' : World} (k : Below w.heap.size w w') : OwnN w' g N cap F := by
  obtain ⟨cur, h1, h2⟩ := h
  exact ⟨cur, (k.block g (lt_of_block h1)).trans h1, h2⟩
theorem OwnN.at {w : World} {g N cap : Nat} {F : Nat → Int} (h : OwnN w g N cap F) (j : Nat) (hj : j < N) : w.cell? ⟨g, j, none⟩ = some (.int .i64 (F j)) := by
  obtain ⟨cur, h1, h2⟩ := h
  rw [cell_of_row w g j _ _ _ h1]
  exact h2 j hj
theorem OwnN.frozen {w : World} {g N cap : Nat} {F : Nat → Int} (h : OwnN w g N cap F) (j : Nat) : w.frozen? ⟨g, j, none⟩ = false := by
  obtain ⟨cur, h1, h2⟩ := h
  exact frozen_of_row w g j _ _ h1
theorem OwnN.ints {w : World} {g N cap : Nat} {F : Nat → Int} (h : OwnN w g N cap F) : IntsAt w (some ⟨g, 0, none⟩) N F := fun j hj => by
  obtain ⟨cur, h1, h2⟩ := h
  exact ⟨g, 0, rfl, lt_of_block h1, by rw [Nat.zero_add, cell_of_row w g j _ _ _ h1]; exact h2 j hj⟩
theorem OwnN.set {w : World} {g N cap : Nat} {F : Nat → Int} (h : OwnN w g N cap F) (x : Nat) (hx : x < N) (v : Int) {G : Nat → Int} (e : ∀ j, j < N → (if j = x then v else F j) = G j) : OwnN (w.setCell ⟨g, x, none⟩ (.int .i64 v)) g N cap G := by
  obtain ⟨cur, h1, h2⟩ := h
  refine ⟨_, heap_setCell_same w g x _ _ (.int .i64 v) h1, fun j hj => ?_⟩
  rw [← e j hj, Array.getElem?_setIfInBounds]
  by_cases q : x = j
  · subst q
    have hl : x < cur.size := by
      rcases Nat.lt_or_ge x cur.size with k | k
      · exact k
      · have := h2 x hx
        rw [Array.getElem?_eq_none k] at this
        cases this
    rw [if_pos rfl, if_pos hl, if_pos rfl]
  · rw [if_neg q, if_neg (fun h => q h.symm)]
    exact h2 j hj
theorem OwnN.apart {w : World} {g N cap : Nat} {F : Nat → Int} (h : OwnN w g N cap F) {b : Nat} {c : Array Value} {t : TypeId} {p : Nat × Nat} (hb : w.heap[b]? = some (.cells c t p)) (n : t ≠ 3) : b ≠ g := by
  obtain ⟨cur, h1, h2⟩ := h
  exact types_apart hb h1 n
theorem own_of {w : World} {B N : Nat} {v : Value} {M : Nat → Int} (h : w.ownsRow B 3 1 v N (rowN M N)) (hN : 1 ≤ N) : ∃ g cap, v = .slice (some ⟨g, 0, none⟩) N cap ∧ B ≤ g ∧ N ≤ cap ∧ OwnN w g N cap M := by
  obtain ⟨_, ⟨_, h0⟩ | ⟨g, cap, cur, rfl, hBg, hg, h1, h2, h3, h4⟩⟩ := h
  · omega
  · refine ⟨g, cap, rfl, hBg, h1, cur, hg, fun j hj => ?_⟩
    rw [← Array.getElem?_toList]
    have e := rowN_at M N j hj
    rw [← h4, List.getElem?_take] at e
    split at e
    · exact e
    · cases e
theorem rmaps (s : Int) (f : Nat → Int) (G : List Value) (hG : Hid (G = gL s f)) (p q : Nat) (hp : R15.pairOf (f 9) 4 = p) (hq : bitOf (f 9) 6 = (q : Int)) (w : World) : Calls Tryd.prog 23 #[.agg G.toArray] w fun e w' => e = .returned (.tuple #[.int .i64 (R15.wideOf p), .int .i64 (R15.highOf2 q)]) ∧ Below w.heap.size w w' := by
  rw [hG.out, gL_row]
  exact R15.rmap_any s f p q hp hq w
theorem rcolours (c a : Int) (F : Nat → Int) (V : List Value) (hV : Hid (V = vL c a F)) (k v : Int) (hv : shownC F c k = v) (w : World) : Calls Tryd.prog 27 #[.agg V.toArray, .int .i64 k] w fun e w' => e = .returned (.int .i64 v) ∧ Below w.heap.size w w' := by
  rw [hV.out, vL_row, ← hv]
  exact V12.rcolour_any c a k F w (k % 512).toNat (by omega)
def rdR (z g N cap k : Nat) (V : List Value) (x v : Int) (i : Nat) (u : Value) (w : World) : Prop :=
  match i with
  | 0 => u = .slice (some ⟨g, 0, none⟩) N cap
  | 1 => u = .int .i64 (k : Int)
  | 2 => u = .pointer (some ⟨z, 277, none⟩)
  | 3 => u = .agg V.toArray
  | 4 => u = .slice (some ⟨g, 0, none⟩) N cap
  | 5 => u = .int .i64 (k : Int)
  | 6 => u = .pointer (some ⟨g, k, none⟩)
  | 7 => u = .int .i64 x
  | 8 => u = .int .i64 v
  | _ => u = .pointer (some ⟨g, k, none⟩)
theorem rdR_next {z g N cap k : Nat} {V : List Value} {x v : Int} (i : Nat) (u : Value) (w w' : World) (h : rdR z g N cap k V x v i u w) (_ : Below w.heap.size w w') : rdR z g N cap k V x v i u w' := by
  unfold rdR at h ⊢
  split at h
  all_goals exact h
theorem rdraw_no (b d : Nat) (m : Nat → Int) (po rd st lo bu : Int) (w : World) (h : HasR w b d m po rd st lo bu) (A : Array Value) (G TL V : List Value) (s : Int) (f : Nat → Int) (T : Nat → Int) (c a : Int) (F : Nat → Int) (X Y L : Int) (hG : Hid (G = gL s f)) (hT : Hid (TL = tabL T)) (hV : Hid (V = vL c a F)) (n : Int) (hA : Hid (A = (inL [] G TL V X Y L n).toArray)) (hn : n < 1 ∨ 512 < n) :
    Calls Tryd.prog 10 #[.pointer (some ⟨b, 0, none⟩), .agg A] w fun e w' => e = .returned (.tuple #[.slice none 0 0, .bool false, .bool false]) ∧ Below w.heap.size w w' := by
  clear h
  have LG := hide (show G.length = 21 by rw [hG.out]; exact gL_length _ _)
  have LT := hide (show TL.length = 256 by rw [hT.out]; exact tabL_length _)
  have LV := hide (show V.length = 514 by rw [hV.out]; exact vL_length _ _ _)
  set_option maxRecDepth 20000 in
  go_enter Tryd.func10, Tryd.ntmps10
  have A0 := hide (show HasI 48 (w.alloc (.cells A 48)) w.heap.size [] G TL V X Y L n from ⟨by rw [hA.out]; exact heap_alloc_new _ _, LG.out, LT.out, LV.out⟩)
  have cN : (w.alloc (.cells A 48)).cell? ⟨w.heap.size, 794, none⟩ = some (.int .i64 n) := A0.out.n
  have B0 := hide ((Below.refl _ w).alloc (Nat.le_refl _) (.cells A 48))
  rcases hn with hn | hn
  · have hd : decide (n < 1) = true := decide_eq_true hn
    go_wp2_with fail
    go_ret3
    exact ⟨rfl, B0.out⟩
  · have hd : decide (n < 1) = false := decide_eq_false (by omega)
    have he : decide (512 < n) = true := decide_eq_true hn
    go_wp2_with fail
    go_ret3
    exact ⟨rfl, B0.out⟩
set_option maxHeartbeats 4000000 in
theorem rdraw_is (b d : Nat) (m : Nat → Int) (po rd st lo bu : Int) (w : World) (h : HasR w b d m po rd st lo bu) (A : Array Value) (G TL V : List Value) (s : Int) (f : Nat → Int) (T : Nat → Int) (c a : Int) (F : Nat → Int) (X Y L : Int) (hG : Hid (G = gL s f)) (hT : Hid (TL = tabL T)) (hV : Hid (V = vL c a F)) (N : Nat) (hA : Hid (A = (inL [] G TL V X Y L (N : Int)).toArray)) (HW : Hid (Words (wordAt m))) (hN0 : 1 ≤ N) (hN1 : N ≤ 512) (p q : Nat) (hp : R15.pairOf (f 9) 4 = p) (hq : bitOf (f 9) 6 = (q : Int)) (cc : Int) (hcc : f 5 = cc) (hc0 : 0 ≤ cc) (hc1 : cc < 65536) (x7 x6 : Bool) (h7 : (bitOf cc 7 == 1) = x7) (h6 : (bitOf cc 6 == 1) = x6) :
    Calls Tryd.prog 10 #[.pointer (some ⟨b, 0, none⟩), .agg A] w fun e w' => ∃ g cap, e = .returned (.tuple #[.slice (some ⟨g, 0, none⟩) N cap, .bool (overOf x6 (wordAt m) T L), .bool (hitOf x6 (wordAt m) T L N)]) ∧ IntsAt w' (some ⟨g, 0, none⟩) N (fun j => shownC F c (numOf x7 x6 (wordAt m) (R15.wideOf p) (R15.highOf2 q) X Y T L N j)) ∧ Below w.heap.size w w' := by
  have HM := hide h
  clear h
  have LG := hide (show G.length = 21 by rw [hG.out]; exact gL_length _ _)
  have LT := hide (show TL.length = 256 by rw [hT.out]; exact tabL_length _)
  have LV := hide (show V.length = 514 by rw [hV.out]; exact vL_length _ _ _)
  set_option maxRecDepth 20000 in
  go_enter Tryd.func10, Tryd.ntmps10
  have A0 := hide (show HasI 48 (w.alloc (.cells A 48)) w.heap.size [] G TL V X Y L (N : Int) from ⟨by rw [hA.out]; exact heap_alloc_new _ _, LG.out, LT.out, LV.out⟩)
  have cN : (w.alloc (.cells A 48)).cell? ⟨w.heap.size, 794, none⟩ = some (.int .i64 (N : Int)) := A0.out.n
  have B0 := hide ((Below.refl _ w).alloc (Nat.le_refl _) (.cells A 48))
  have c5 : (w.alloc (.cells A 48)).cell? ⟨w.heap.size, 6, none⟩ = some (.int .i64 cc) := by
    have k := A0.out.regs 6 (.int .i64 cc) (by rw [hG.out, ← hcc]; unfold gL; rw [Array.getElem?_toList]; exact R15.rowG_at s f 5 (by decide))
    simpa using k
  have hd1 : decide ((N : Int) < 1) = false := decide_eq_false (by omega)
  have hd2 : decide ((512 : Int) < N) = false := decide_eq_false (by omega)
  have hmk := make_rowN N (by omega)
  have e7 : (cc / 128 % 2 == 1) = x7 := by
    rw [← h7, show bitOf cc 7 = cc / 128 % 2 by show cc % 65536 / 128 % 2 = _; omega]
  have e6 : (cc / 64 % 2 == 1) = x6 := by
    rw [← h6, show bitOf cc 6 = cc / 64 % 2 by show cc % 65536 / 64 % 2 = _; omega]
  clear h7 h6
  go_upto_region 5 with fail
  refine under_name fun w2 hw2 => ?_
  obtain ⟨q0, q1, _, BB⟩ := two_named hw2
  have I2 := hide (A0.out.next (show Below (w.alloc (.cells A 48)).heap.size (w.alloc (.cells A 48)) w2 by rw [hw2]; exact (Below.refl _ _).alloc (Nat.le_refl _) _))
  have G2 := hide (show RowN w2 (w.heap.size + 1) N (fun _ => 0) from q1)
  have B2 := hide BB
  clear hw2 q0 q1 BB A0 B0 cN c5 hmk hcc
  obtain ⟨z, hz⟩ : ∃ z, w.heap.size = z := ⟨_, rfl⟩
  obtain ⟨gk, hgk⟩ : ∃ z, w.heap.size + 1 = z := ⟨_, rfl⟩
  have HGK := hide (show w.heap.size ≤ gk by omega)
  rw [hgk] at G2 ⊢
  rw [hz] at I2 ⊢
  clear hz hgk
  cases x7
  · have G5 := hide (show RowN w2 gk N (backOf false (wordAt m) (R15.wideOf p) (R15.highOf2 q) X Y) from G2.out.ext fun j _ => rfl)
    have I5 := I2
    have B5 := B2
    obtain ⟨w5, hw5⟩ : ∃ u, u = w2 := ⟨_, rfl⟩
    rw [← hw5] at G5 I5 B5 ⊢
    clear hw5 G2 I2 B2 hp hq
    have IV := hide (show (Tryd.prog.info? 46).map (·.size) = some V.length by rw [LV.out]; kernel_rfl)
    cases x6
    · set_option maxRecDepth 20000 in
      go_wp2_with fail
      refine (rmix_is (some ⟨gk, 0, none⟩) none none N N 0 0 0 0 0 _ (fun _ => 0) (fun _ => false) w5 (hide G5.out.ints) (hide (intsAt_none _ _ _)) (hide (flagsAt_none _ _ _)) (by omega) (by omega) (by omega) (hide fun j hj => absurd hj (Nat.not_lt_zero _)) rfl).mono ?_
      rintro e w8 ⟨v8, rfl, r8, b8⟩
      have HOV := hide (show overOf false (wordAt m) T L = false ∧ hitOf false (wordAt m) T L N = false from ⟨rfl, rfl⟩)
      obtain ⟨g8, cap, rfl, lg8, hcap, o8⟩ := own_of r8 hN0
      obtain ⟨M, hM⟩ : ∃ M, numOf false false (wordAt m) (R15.wideOf p) (R15.highOf2 q) X Y T L N = M := ⟨_, rfl⟩
      have HMM := hide hM
      have G8 := hide (show OwnN w8 g8 N cap (fun j => if j < 0 then shownC F c (M j) else M j) by
        obtain ⟨cur, h1, h2⟩ := o8
        refine ⟨cur, h1, fun j hj => ?_⟩
        show cur[j]? = some (.int .i64 (if j < 0 then shownC F c (M j) else M j))
        rw [if_neg (by omega), ← hM, h2 j hj]
        congr 2
        unfold numOf mixOf sprOf; rw [if_neg (fun h => absurd h.1 (Nat.not_lt_zero _)), if_neg (fun h => h.2.1 rfl)])
      have HG8 := hide (Nat.le_trans B5.out.size lg8)
      have I8 := hide (I5.out.next b8)
      have B8 := hide (bnext B5.out b8)
      clear r8 b8 lg8 o8 hM I5 G5 B5
      set_option maxRecDepth 20000 in
      go_wp2_with fail
      go_loopw [17] (fun si wr => ∃ k : Nat, k ≤ N ∧ si = .int .i64 (k : Int) ∧ OwnN wr g8 N cap (fun j => if j < k then shownC F c (M j) else M j) ∧ HasI 48 wr z [] G TL V X Y L (N : Int) ∧ Below w.heap.size w wr) (fun si _ => N - (intOf si).toNat)
      case atStart => exact ⟨0, Nat.zero_le _, rfl, G8.out, I8.out, B8.out⟩
      case round =>
        obtain ⟨k, hk, rfl, hr, hi, hb⟩ := hrel
        have RK := hide hr
        have IK := hide hi
        have BK := hide hb
        clear hr hi hb G8 I8 B8
        by_cases hlt : k < N
        · obtain ⟨x, hx⟩ : ∃ x, M k = x := ⟨_, rfl⟩
          obtain ⟨v, hv⟩ : ∃ v, shownC F c x = v := ⟨_, rfl⟩
          have KC := hide (rcolours c a F V hV x v hv)
          have HX := hide (And.intro hx hv)
          have CK := hide (show ∀ u, Below wr.heap.size wr u → u.cell? ⟨g8, k, none⟩ = some (.int .i64 x) from fun u hu => by
            have q := (RK.out.next hu).at k hlt
            rw [if_neg (by omega), hx] at q
            exact q)
          clear hx hv
          set_option maxRecDepth 20000 in
          go_wp2_with fail
          refine wp_region_facts_last [_, _, _, _, _, _, _, _, _, _] _ rfl (rdR z g8 N cap k V x v) _ (fun vals => by simp only [putAll, Act.put, List.setIfInBounds_toArray, List.set_cons_succ, List.set_cons_zero, Nat.reduceAdd]; rfl) (by kernel_rfl) (by kernel_rfl) (by kernel_rfl) (by kernel_rfl) rdR_next ?_ ?_
          · refine steps_cons (fun vals u hb hf => ?_) (steps_cons (fun vals u hb hf => ?_) (steps_cons (fun vals u hb hf => ?_) (steps_cons (fun vals u hb hf => ?_) (steps_cons (fun vals u hb hf => ?_) (steps_cons (fun vals u hb hf => ?_) (steps_cons (fun vals u hb hf => ?_) (steps_cons (fun vals u hb hf => ?_) (steps_cons (fun vals u hb hf => ?_) (steps_cons (fun vals u hb hf => ?_) steps_nil)))))))))
            · go_wp2_with fail
              exact stepPost_mk _ rfl rfl (Below.refl _ _)
            · go_wp2_with fail
              exact stepPost_mk _ rfl rfl (Below.refl _ _)
            · go_wp2_with fail
              exact stepPost_mk _ rfl rfl (Below.refl _ _)
            · obtain ⟨(h2 : vals 2 = .pointer (some ⟨z, 277, none⟩)), _⟩ := hf
              simp only [h2]
              clear h2
              have IU := hide (IK.out.next hb)
              go_wp2_with (first | (refine wpList_load_mid rfl 46 (.tmp 91) rfl z 277 rfl V _ (by simpa using IU.out.vce) Tryd.underlying46 rfl IV.out ?_))
              exact stepPost_mk _ rfl rfl (Below.refl _ _)
            · go_wp2_with fail
              exact stepPost_mk _ rfl rfl (Below.refl _ _)
            · go_wp2_with fail
              exact stepPost_mk _ rfl rfl (Below.refl _ _)
            · obtain ⟨(h4 : vals 4 = .slice (some ⟨g8, 0, none⟩) N cap), (h5 : vals 5 = .int .i64 (k : Int)), _⟩ := hf
              simp only [h4, h5]
              clear h4 h5
              go_wp2_with fail
              exact stepPost_mk _ rfl rfl (Below.refl _ _)
            · obtain ⟨(h6 : vals 6 = .pointer (some ⟨g8, k, none⟩)), _⟩ := hf
              simp only [h6]
              clear h6
              have ck := CK.out u hb
              go_wp2_with fail
              exact stepPost_mk _ rfl rfl (Below.refl _ _)
            · obtain ⟨(h3 : vals 3 = .agg V.toArray), (h7 : vals 7 = .int .i64 x), _⟩ := hf
              simp only [h3, h7]
              clear h3 h7
              go_wp2_with (first | (go_at_call 27; refine (KC.out u).mono ?_; rintro e u2 ⟨rfl, b2⟩))
              exact stepPost_mk _ rfl rfl b2
            · obtain ⟨(h0 : vals 0 = .slice (some ⟨g8, 0, none⟩) N cap), (h1 : vals 1 = .int .i64 (k : Int)), _⟩ := hf
              simp only [h0, h1]
              clear h0 h1
              go_wp2_with fail
              exact stepPost_mk _ rfl rfl (Below.refl _ _)
          intro vals u hb hf
          obtain ⟨_, _, _, _, _, _, _, _, (h8 : vals 8 = .int .i64 v), (h9 : vals 9 = .pointer (some ⟨g8, k, none⟩)), _⟩ := hf
          simp only [h8, h9]
          clear h8 h9
          have R11 := hide (RK.out.next hb)
          have I11 := hide (IK.out.next hb)
          have B11 := hide (bnext BK.out hb)
          have cj := CK.out u hb
          have zj := R11.out.frozen k
          clear hb RK IK BK KC CK
          set_option maxRecDepth 20000 in
          go_wp2_with fail
          go_roundw
          case rel =>
            refine ⟨k + 1, by omega, by go_num, ?_, ?_, B11.out.setCell (p := ⟨g8, k, none⟩) HG8.out _⟩
            · refine R11.out.set k hlt v fun j _ => ?_
              by_cases e : j = k
              · rw [if_pos e, if_pos (by omega), e, HX.out.1, HX.out.2]
              · rw [if_neg e]
                by_cases q : j < k
                · rw [if_pos q, if_pos (by omega)]
                · rw [if_neg q, if_neg (by omega)]
            · exact I11.out.keep (heap_setCell_other _ _ _ _ (R11.out.apart I11.out.1 (by decide)))
          case measure => simp [intOf]; omega
        · obtain rfl : k = N := by omega
          set_option maxRecDepth 20000 in
          go_wp2_with fail
          go_ret3
          exact ⟨g8, cap, by rw [HOV.out.1, HOV.out.2]; rfl, RK.out.ints.ext fun j hj => by rw [if_pos hj]; first | rw [HWH.out.1, HWH.out.2, HMM.out] | rw [HMM.out], BK.out⟩
    · have KS := hide (rline_is b d m po rd st lo bu w5 (HM.out.next B5.out) T L N hN0 hN1)
      rw [← hT.out] at KS
      have IT := hide (show (Tryd.prog.info? 30).map (·.size) = some TL.length by rw [LT.out]; kernel_rfl)
      have cL : w5.cell? ⟨z, 793, none⟩ = some (.int .i64 L) := by simpa using I5.out.l
      have cN : w5.cell? ⟨z, 794, none⟩ = some (.int .i64 (N : Int)) := by simpa using I5.out.n
      have RT := hide (show w5.rangeAt z 21 TL by simpa using I5.out.table)
      set_option maxRecDepth 20000 in
      go_wp2_with (first | (refine wpList_load_mid rfl 30 (.tmp 68) rfl z 21 rfl TL _ RT.out Tryd.underlying30 rfl IT.out ?_))
      refine KS.out.mono ?_
      rintro e w7 ⟨cC, fC, rfl, s7, b7⟩
      have S7 := hide s7
      have I6 := hide (I5.out.next b7)
      have G6 := hide (G5.out.next b7)
      have B6 := hide (bnext B5.out b7)
      clear s7 b7 I5 G5 B5 KS IT cL cN RT
      obtain ⟨R, hR⟩ : ∃ R, runT (wordAt m) T L 64 = R := ⟨_, rfl⟩
      have HRR := hide hR
      rw [hR] at S7 ⊢
      clear hR
      obtain ⟨ov, hov⟩ : ∃ v, R.2.2 = v := ⟨_, rfl⟩
      obtain ⟨ht, hht⟩ : ∃ v, anyHit N R.1 = v := ⟨_, rfl⟩
      rw [hov, hht]
      have HOV := hide (show overOf true (wordAt m) T L = ov ∧ hitOf true (wordAt m) T L N = ht by unfold overOf hitOf; rw [HRR.out, hov, hht]; exact ⟨rfl, rfl⟩)
      clear hov hht
      have HCO := hide (show ∀ j, j < N → -9223372036854775808 ≤ (R.1 j).1 ∧ (R.1 j).1 ≤ 1099511627776 from fun j _ => by
        have k := runT_col (wordAt m) T L 64 j
        rw [HRR.out] at k
        omega)
      set_option maxRecDepth 20000 in
      go_wp2_with fail
      refine (rmix_is (some ⟨gk, 0, none⟩) (some ⟨cC, 0, none⟩) (some ⟨fC, 0, none⟩) N N N N N N N _ (fun j => (R.1 j).1) (fun j => (R.1 j).2.1) w7 (hide G6.out.ints) (hide fun j hj => ⟨cC, 0, rfl, S7.out.lc, by rw [Nat.zero_add]; exact S7.out.cj j hj⟩) (hide fun j hj => ⟨fC, 0, rfl, S7.out.lf, by rw [Nat.zero_add]; exact S7.out.fj j hj⟩) (by omega) (by omega) (by omega) HCO (by omega)).mono ?_
      rintro e w8 ⟨v8, rfl, r8, b8⟩
      have I5 := I6
      have G5 := G6
      have B5 := B6
      clear S7 HCO I6 G6 B6
      obtain ⟨g8, cap, rfl, lg8, hcap, o8⟩ := own_of r8 hN0
      obtain ⟨M, hM⟩ : ∃ M, numOf false true (wordAt m) (R15.wideOf p) (R15.highOf2 q) X Y T L N = M := ⟨_, rfl⟩
      have HMM := hide hM
      have G8 := hide (show OwnN w8 g8 N cap (fun j => if j < 0 then shownC F c (M j) else M j) by
        obtain ⟨cur, h1, h2⟩ := o8
        refine ⟨cur, h1, fun j hj => ?_⟩
        show cur[j]? = some (.int .i64 (if j < 0 then shownC F c (M j) else M j))
        rw [if_neg (by omega), ← hM, h2 j hj]
        congr 2
        unfold numOf sprOf; rw [HRR.out]; rfl)
      have HG8 := hide (Nat.le_trans B5.out.size lg8)
      have I8 := hide (I5.out.next b8)
      have B8 := hide (bnext B5.out b8)
      clear r8 b8 lg8 o8 hM I5 G5 B5
      set_option maxRecDepth 20000 in
      go_wp2_with fail
      go_loopw [17] (fun si wr => ∃ k : Nat, k ≤ N ∧ si = .int .i64 (k : Int) ∧ OwnN wr g8 N cap (fun j => if j < k then shownC F c (M j) else M j) ∧ HasI 48 wr z [] G TL V X Y L (N : Int) ∧ Below w.heap.size w wr) (fun si _ => N - (intOf si).toNat)
      case atStart => exact ⟨0, Nat.zero_le _, rfl, G8.out, I8.out, B8.out⟩
      case round =>
        obtain ⟨k, hk, rfl, hr, hi, hb⟩ := hrel
        have RK := hide hr
        have IK := hide hi
        have BK := hide hb
        clear hr hi hb G8 I8 B8
        by_cases hlt : k < N
        · obtain ⟨x, hx⟩ : ∃ x, M k = x := ⟨_, rfl⟩
          obtain ⟨v, hv⟩ : ∃ v, shownC F c x = v := ⟨_, rfl⟩
          have KC := hide (rcolours c a F V hV x v hv)
          have HX := hide (And.intro hx hv)
          have CK := hide (show ∀ u, Below wr.heap.size wr u → u.cell? ⟨g8, k, none⟩ = some (.int .i64 x) from fun u hu => by
            have q := (RK.out.next hu).at k hlt
            rw [if_neg (by omega), hx] at q
            exact q)
          clear hx hv
          set_option maxRecDepth 20000 in
          go_wp2_with fail
          refine wp_region_facts_last [_, _, _, _, _, _, _, _, _, _] _ rfl (rdR z g8 N cap k V x v) _ (fun vals => by simp only [putAll, Act.put, List.setIfInBounds_toArray, List.set_cons_succ, List.set_cons_zero, Nat.reduceAdd]; rfl) (by kernel_rfl) (by kernel_rfl) (by kernel_rfl) (by kernel_rfl) rdR_next ?_ ?_
          · refine steps_cons (fun vals u hb hf => ?_) (steps_cons (fun vals u hb hf => ?_) (steps_cons (fun vals u hb hf => ?_) (steps_cons (fun vals u hb hf => ?_) (steps_cons (fun vals u hb hf => ?_) (steps_cons (fun vals u hb hf => ?_) (steps_cons (fun vals u hb hf => ?_) (steps_cons (fun vals u hb hf => ?_) (steps_cons (fun vals u hb hf => ?_) (steps_cons (fun vals u hb hf => ?_) steps_nil)))))))))
            · go_wp2_with fail
              exact stepPost_mk _ rfl rfl (Below.refl _ _)
            · go_wp2_with fail
              exact stepPost_mk _ rfl rfl (Below.refl _ _)
            · go_wp2_with fail
              exact stepPost_mk _ rfl rfl (Below.refl _ _)
            · obtain ⟨(h2 : vals 2 = .pointer (some ⟨z, 277, none⟩)), _⟩ := hf
              simp only [h2]
              clear h2
              have IU := hide (IK.out.next hb)
              go_wp2_with (first | (refine wpList_load_mid rfl 46 (.tmp 91) rfl z 277 rfl V _ (by simpa using IU.out.vce) Tryd.underlying46 rfl IV.out ?_))
              exact stepPost_mk _ rfl rfl (Below.refl _ _)
            · go_wp2_with fail
              exact stepPost_mk _ rfl rfl (Below.refl _ _)
            · go_wp2_with fail
              exact stepPost_mk _ rfl rfl (Below.refl _ _)
            · obtain ⟨(h4 : vals 4 = .slice (some ⟨g8, 0, none⟩) N cap), (h5 : vals 5 = .int .i64 (k : Int)), _⟩ := hf
              simp only [h4, h5]
              clear h4 h5
              go_wp2_with fail
              exact stepPost_mk _ rfl rfl (Below.refl _ _)
            · obtain ⟨(h6 : vals 6 = .pointer (some ⟨g8, k, none⟩)), _⟩ := hf
              simp only [h6]
              clear h6
              have ck := CK.out u hb
              go_wp2_with fail
              exact stepPost_mk _ rfl rfl (Below.refl _ _)
            · obtain ⟨(h3 : vals 3 = .agg V.toArray), (h7 : vals 7 = .int .i64 x), _⟩ := hf
              simp only [h3, h7]
              clear h3 h7
              go_wp2_with (first | (go_at_call 27; refine (KC.out u).mono ?_; rintro e u2 ⟨rfl, b2⟩))
              exact stepPost_mk _ rfl rfl b2
            · obtain ⟨(h0 : vals 0 = .slice (some ⟨g8, 0, none⟩) N cap), (h1 : vals 1 = .int .i64 (k : Int)), _⟩ := hf
              simp only [h0, h1]
              clear h0 h1
              go_wp2_with fail
              exact stepPost_mk _ rfl rfl (Below.refl _ _)
          intro vals u hb hf
          obtain ⟨_, _, _, _, _, _, _, _, (h8 : vals 8 = .int .i64 v), (h9 : vals 9 = .pointer (some ⟨g8, k, none⟩)), _⟩ := hf
          simp only [h8, h9]
          clear h8 h9
          have R11 := hide (RK.out.next hb)
          have I11 := hide (IK.out.next hb)
          have B11 := hide (bnext BK.out hb)
          have cj := CK.out u hb
          have zj := R11.out.frozen k
          clear hb RK IK BK KC CK
          set_option maxRecDepth 20000 in
          go_wp2_with fail
          go_roundw
          case rel =>
            refine ⟨k + 1, by omega, by go_num, ?_, ?_, B11.out.setCell (p := ⟨g8, k, none⟩) HG8.out _⟩
            · refine R11.out.set k hlt v fun j _ => ?_
              by_cases e : j = k
              · rw [if_pos e, if_pos (by omega), e, HX.out.1, HX.out.2]
              · rw [if_neg e]
                by_cases q : j < k
                · rw [if_pos q, if_pos (by omega)]
                · rw [if_neg q, if_neg (by omega)]
            · exact I11.out.keep (heap_setCell_other _ _ _ _ (R11.out.apart I11.out.1 (by decide)))
          case measure => simp [intOf]; omega
        · obtain rfl : k = N := by omega
          set_option maxRecDepth 20000 in
          go_wp2_with fail
          go_ret3
          exact ⟨g8, cap, by rw [HOV.out.1, HOV.out.2]; rfl, RK.out.ints.ext fun j hj => by rw [if_pos hj]; first | rw [HWH.out.1, HWH.out.2, HMM.out] | rw [HMM.out], BK.out⟩
  · have KM := hide (rmaps s f G hG p q hp hq)
    have IG := hide (show (Tryd.prog.info? 45).map (·.size) = some G.length by rw [LG.out]; kernel_rfl)
    have RG := hide (show w2.rangeAt z 0 G by simpa using I2.out.regs)
    clear hp hq
    set_option maxRecDepth 20000 in
    go_wp2_with (first | (refine wpList_load_mid rfl 45 (.tmp 38) rfl z 0 rfl G _ RG.out Tryd.underlying45 rfl IG.out ?_))
    refine (KM.out w2).mono ?_
    rintro e w3 ⟨rfl, b3⟩
    have G3 := hide (show RowN w3 gk N (fun j => if j < 0 then backOf true (wordAt m) (R15.wideOf p) (R15.highOf2 q) X Y j else 0) from (G2.out.next b3).ext fun j _ => by rw [if_neg (by omega)])
    have I3 := hide (I2.out.next b3)
    have B3 := hide (bnext B2.out b3)
    clear b3 G2 I2 B2 KM IG RG
    obtain ⟨W, hW⟩ : ∃ x, R15.wideOf p = x := ⟨_, rfl⟩
    obtain ⟨H, hH⟩ : ∃ x, R15.highOf2 q = x := ⟨_, rfl⟩
    rw [hW, hH] at G3 ⊢
    have HWH := hide (And.intro hW hH)
    clear hW hH
    set_option maxRecDepth 20000 in
    go_wp2_with fail
    go_loopw [11] (fun si wr => ∃ k : Nat, k ≤ N ∧ si = .int .i64 (k : Int) ∧ RowN wr gk N (fun j => if j < k then backOf true (wordAt m) W H X Y j else 0) ∧ HasI 48 wr z [] G TL V X Y L (N : Int) ∧ Below w.heap.size w wr) (fun si _ => N - (intOf si).toNat)
    case atStart => exact ⟨0, Nat.zero_le _, rfl, G3.out, I3.out, B3.out⟩
    case round =>
      obtain ⟨k, hk, rfl, hr, hi, hb⟩ := hrel
      have RK := hide hr
      have IK := hide hi
      have BK := hide hb
      clear hr hi hb G3 I3 B3
      have cN : wr.cell? ⟨z, 794, none⟩ = some (.int .i64 (N : Int)) := by simpa using IK.out.n
      by_cases hlt : k < N
      · have cX : wr.cell? ⟨z, 791, none⟩ = some (.int .i64 X) := by simpa using IK.out.x
        have cY : wr.cell? ⟨z, 792, none⟩ = some (.int .i64 Y) := by simpa using IK.out.y
        obtain ⟨v, hv⟩ : ∃ v, T17.pixelG (wordAt m) W H X Y (k : Int) 0 = v := ⟨_, rfl⟩
        have HV := hide hv
        have KP := hide (T17.rpixel_is b d m po rd st lo bu wr (HM.out.next BK.out) HW.out W H X Y (k : Int) 0 v hv)
        clear hv
        set_option maxRecDepth 20000 in
        go_wp2_with fail
        refine KP.out.mono ?_
        rintro e w4 ⟨rfl, b4⟩
        have R4 := hide (RK.out.next b4)
        have I4 := hide (IK.out.next b4)
        have B4 := hide (bnext BK.out b4)
        have cj := R4.out.at k hlt
        have zj := R4.out.frozen k
        rw [if_neg (by omega)] at cj
        clear b4 RK IK BK KP cX cY cN
        set_option maxRecDepth 20000 in
        go_wp2_with fail
        go_roundw
        case rel =>
          refine ⟨k + 1, by omega, by go_num, ?_, ?_, B4.out.setCell (p := ⟨gk, k, none⟩) HGK.out _⟩
          · refine RowN.ext (R4.out.set k v) fun j _ => ?_
            by_cases e : j = k
            · rw [if_pos e, if_pos (by omega), e, ← HV.out]; rfl
            · rw [if_neg e]
              by_cases q : j < k
              · rw [if_pos q, if_pos (by omega)]
              · rw [if_neg q, if_neg (by omega)]
          · exact I4.out.keep (heap_setCell_other _ _ _ _ (types_apart I4.out.1 R4.out (by decide)))
        case measure => simp [intOf]; omega
      · obtain rfl : N = k := by omega
        have G5 := hide (show RowN wr gk N (backOf true (wordAt m) W H X Y) from RK.out.ext fun j hj => by rw [if_pos hj])
        obtain ⟨w5, hw5⟩ : ∃ u, u = wr := ⟨_, rfl⟩
        have I5 := IK
        have B5 := BK
        rw [← hw5] at G5 I5 B5 cN ⊢
        clear RK IK BK hw5 hlt hk
        have IV := hide (show (Tryd.prog.info? 46).map (·.size) = some V.length by rw [LV.out]; kernel_rfl)
        cases x6
        · set_option maxRecDepth 20000 in
          go_wp2_with fail
          refine (rmix_is (some ⟨gk, 0, none⟩) none none N N 0 0 0 0 0 _ (fun _ => 0) (fun _ => false) w5 (hide G5.out.ints) (hide (intsAt_none _ _ _)) (hide (flagsAt_none _ _ _)) (by omega) (by omega) (by omega) (hide fun j hj => absurd hj (Nat.not_lt_zero _)) rfl).mono ?_
          rintro e w8 ⟨v8, rfl, r8, b8⟩
          have HOV := hide (show overOf false (wordAt m) T L = false ∧ hitOf false (wordAt m) T L N = false from ⟨rfl, rfl⟩)
          obtain ⟨g8, cap, rfl, lg8, hcap, o8⟩ := own_of r8 hN0
          obtain ⟨M, hM⟩ : ∃ M, numOf true false (wordAt m) W H X Y T L N = M := ⟨_, rfl⟩
          have HMM := hide hM
          have G8 := hide (show OwnN w8 g8 N cap (fun j => if j < 0 then shownC F c (M j) else M j) by
            obtain ⟨cur, h1, h2⟩ := o8
            refine ⟨cur, h1, fun j hj => ?_⟩
            show cur[j]? = some (.int .i64 (if j < 0 then shownC F c (M j) else M j))
            rw [if_neg (by omega), ← hM, h2 j hj]
            congr 2
            unfold numOf mixOf sprOf; rw [if_neg (fun h => absurd h.1 (Nat.not_lt_zero _)), if_neg (fun h => h.2.1 rfl)])
          have HG8 := hide (Nat.le_trans B5.out.size lg8)
          have I8 := hide (I5.out.next b8)
          have B8 := hide (bnext B5.out b8)
          clear r8 b8 lg8 o8 hM I5 G5 B5
          set_option maxRecDepth 20000 in
          go_wp2_with fail
          go_loopw [17] (fun si wr => ∃ k : Nat, k ≤ N ∧ si = .int .i64 (k : Int) ∧ OwnN wr g8 N cap (fun j => if j < k then shownC F c (M j) else M j) ∧ HasI 48 wr z [] G TL V X Y L (N : Int) ∧ Below w.heap.size w wr) (fun si _ => N - (intOf si).toNat)
          case atStart => exact ⟨0, Nat.zero_le _, rfl, G8.out, I8.out, B8.out⟩
          case round =>
            obtain ⟨k, hk, rfl, hr, hi, hb⟩ := hrel
            have RK := hide hr
            have IK := hide hi
            have BK := hide hb
            clear hr hi hb G8 I8 B8
            by_cases hlt : k < N
            · obtain ⟨x, hx⟩ : ∃ x, M k = x := ⟨_, rfl⟩
              obtain ⟨v, hv⟩ : ∃ v, shownC F c x = v := ⟨_, rfl⟩
              have KC := hide (rcolours c a F V hV x v hv)
              have HX := hide (And.intro hx hv)
              have CK := hide (show ∀ u, Below wr.heap.size wr u → u.cell? ⟨g8, k, none⟩ = some (.int .i64 x) from fun u hu => by
                have q := (RK.out.next hu).at k hlt
                rw [if_neg (by omega), hx] at q
                exact q)
              clear hx hv
              set_option maxRecDepth 20000 in
              go_wp2_with fail
              refine wp_region_facts_last [_, _, _, _, _, _, _, _, _, _] _ rfl (rdR z g8 N cap k V x v) _ (fun vals => by simp only [putAll, Act.put, List.setIfInBounds_toArray, List.set_cons_succ, List.set_cons_zero, Nat.reduceAdd]; rfl) (by kernel_rfl) (by kernel_rfl) (by kernel_rfl) (by kernel_rfl) rdR_next ?_ ?_
              · refine steps_cons (fun vals u hb hf => ?_) (steps_cons (fun vals u hb hf => ?_) (steps_cons (fun vals u hb hf => ?_) (steps_cons (fun vals u hb hf => ?_) (steps_cons (fun vals u hb hf => ?_) (steps_cons (fun vals u hb hf => ?_) (steps_cons (fun vals u hb hf => ?_) (steps_cons (fun vals u hb hf => ?_) (steps_cons (fun vals u hb hf => ?_) (steps_cons (fun vals u hb hf => ?_) steps_nil)))))))))
                · go_wp2_with fail
                  exact stepPost_mk _ rfl rfl (Below.refl _ _)
                · go_wp2_with fail
                  exact stepPost_mk _ rfl rfl (Below.refl _ _)
                · go_wp2_with fail
                  exact stepPost_mk _ rfl rfl (Below.refl _ _)
                · obtain ⟨(h2 : vals 2 = .pointer (some ⟨z, 277, none⟩)), _⟩ := hf
                  simp only [h2]
                  clear h2
                  have IU := hide (IK.out.next hb)
                  go_wp2_with (first | (refine wpList_load_mid rfl 46 (.tmp 91) rfl z 277 rfl V _ (by simpa using IU.out.vce) Tryd.underlying46 rfl IV.out ?_))
                  exact stepPost_mk _ rfl rfl (Below.refl _ _)
                · go_wp2_with fail
                  exact stepPost_mk _ rfl rfl (Below.refl _ _)
                · go_wp2_with fail
                  exact stepPost_mk _ rfl rfl (Below.refl _ _)
                · obtain ⟨(h4 : vals 4 = .slice (some ⟨g8, 0, none⟩) N cap), (h5 : vals 5 = .int .i64 (k : Int)), _⟩ := hf
                  simp only [h4, h5]
                  clear h4 h5
                  go_wp2_with fail
                  exact stepPost_mk _ rfl rfl (Below.refl _ _)
                · obtain ⟨(h6 : vals 6 = .pointer (some ⟨g8, k, none⟩)), _⟩ := hf
                  simp only [h6]
                  clear h6
                  have ck := CK.out u hb
                  go_wp2_with fail
                  exact stepPost_mk _ rfl rfl (Below.refl _ _)
                · obtain ⟨(h3 : vals 3 = .agg V.toArray), (h7 : vals 7 = .int .i64 x), _⟩ := hf
                  simp only [h3, h7]
                  clear h3 h7
                  go_wp2_with (first | (go_at_call 27; refine (KC.out u).mono ?_; rintro e u2 ⟨rfl, b2⟩))
                  exact stepPost_mk _ rfl rfl b2
                · obtain ⟨(h0 : vals 0 = .slice (some ⟨g8, 0, none⟩) N cap), (h1 : vals 1 = .int .i64 (k : Int)), _⟩ := hf
                  simp only [h0, h1]
                  clear h0 h1
                  go_wp2_with fail
                  exact stepPost_mk _ rfl rfl (Below.refl _ _)
              intro vals u hb hf
              obtain ⟨_, _, _, _, _, _, _, _, (h8 : vals 8 = .int .i64 v), (h9 : vals 9 = .pointer (some ⟨g8, k, none⟩)), _⟩ := hf
              simp only [h8, h9]
              clear h8 h9
              have R11 := hide (RK.out.next hb)
              have I11 := hide (IK.out.next hb)
              have B11 := hide (bnext BK.out hb)
              have cj := CK.out u hb
              have zj := R11.out.frozen k
              clear hb RK IK BK KC CK
              set_option maxRecDepth 20000 in
              go_wp2_with fail
              go_roundw
              case rel =>
                refine ⟨k + 1, by omega, by go_num, ?_, ?_, B11.out.setCell (p := ⟨g8, k, none⟩) HG8.out _⟩
                · refine R11.out.set k hlt v fun j _ => ?_
                  by_cases e : j = k
                  · rw [if_pos e, if_pos (by omega), e, HX.out.1, HX.out.2]
                  · rw [if_neg e]
                    by_cases q : j < k
                    · rw [if_pos q, if_pos (by omega)]
                    · rw [if_neg q, if_neg (by omega)]
                · exact I11.out.keep (heap_setCell_other _ _ _ _ (R11.out.apart I11.out.1 (by decide)))
              case measure => simp [intOf]; omega
            · obtain rfl : k = N := by omega
              set_option maxRecDepth 20000 in
              go_wp2_with fail
              go_ret3
              exact ⟨g8, cap, by rw [HOV.out.1, HOV.out.2]; rfl, RK.out.ints.ext fun j hj => by rw [if_pos hj]; first | rw [HWH.out.1, HWH.out.2, HMM.out] | rw [HMM.out], BK.out⟩
        · have KS := hide (rline_is b d m po rd st lo bu w5 (HM.out.next B5.out) T L N hN0 hN1)
          rw [← hT.out] at KS
          have IT := hide (show (Tryd.prog.info? 30).map (·.size) = some TL.length by rw [LT.out]; kernel_rfl)
          have cL : w5.cell? ⟨z, 793, none⟩ = some (.int .i64 L) := by simpa using I5.out.l
          have cN : w5.cell? ⟨z, 794, none⟩ = some (.int .i64 (N : Int)) := by simpa using I5.out.n
          have RT := hide (show w5.rangeAt z 21 TL by simpa using I5.out.table)
          set_option maxRecDepth 20000 in
          go_wp2_with (first | (refine wpList_load_mid rfl 30 (.tmp 68) rfl z 21 rfl TL _ RT.out Tryd.underlying30 rfl IT.out ?_))
          refine KS.out.mono ?_
          rintro e w7 ⟨cC, fC, rfl, s7, b7⟩
          have S7 := hide s7
          have I6 := hide (I5.out.next b7)
          have G6 := hide (G5.out.next b7)
          have B6 := hide (bnext B5.out b7)
          clear s7 b7 I5 G5 B5 KS IT cL cN RT
          obtain ⟨R, hR⟩ : ∃ R, runT (wordAt m) T L 64 = R := ⟨_, rfl⟩
          have HRR := hide hR
          rw [hR] at S7 ⊢
          clear hR
          obtain ⟨ov, hov⟩ : ∃ v, R.2.2 = v := ⟨_, rfl⟩
          obtain ⟨ht, hht⟩ : ∃ v, anyHit N R.1 = v := ⟨_, rfl⟩
          rw [hov, hht]
          have HOV := hide (show overOf true (wordAt m) T L = ov ∧ hitOf true (wordAt m) T L N = ht by unfold overOf hitOf; rw [HRR.out, hov, hht]; exact ⟨rfl, rfl⟩)
          clear hov hht
          have HCO := hide (show ∀ j, j < N → -9223372036854775808 ≤ (R.1 j).1 ∧ (R.1 j).1 ≤ 1099511627776 from fun j _ => by
            have k := runT_col (wordAt m) T L 64 j
            rw [HRR.out] at k
            omega)
          set_option maxRecDepth 20000 in
          go_wp2_with fail
          refine (rmix_is (some ⟨gk, 0, none⟩) (some ⟨cC, 0, none⟩) (some ⟨fC, 0, none⟩) N N N N N N N _ (fun j => (R.1 j).1) (fun j => (R.1 j).2.1) w7 (hide G6.out.ints) (hide fun j hj => ⟨cC, 0, rfl, S7.out.lc, by rw [Nat.zero_add]; exact S7.out.cj j hj⟩) (hide fun j hj => ⟨fC, 0, rfl, S7.out.lf, by rw [Nat.zero_add]; exact S7.out.fj j hj⟩) (by omega) (by omega) (by omega) HCO (by omega)).mono ?_
          rintro e w8 ⟨v8, rfl, r8, b8⟩
          have I5 := I6
          have G5 := G6
          have B5 := B6
          clear S7 HCO I6 G6 B6
          obtain ⟨g8, cap, rfl, lg8, hcap, o8⟩ := own_of r8 hN0
          obtain ⟨M, hM⟩ : ∃ M, numOf true true (wordAt m) W H X Y T L N = M := ⟨_, rfl⟩
          have HMM := hide hM
          have G8 := hide (show OwnN w8 g8 N cap (fun j => if j < 0 then shownC F c (M j) else M j) by
            obtain ⟨cur, h1, h2⟩ := o8
            refine ⟨cur, h1, fun j hj => ?_⟩
            show cur[j]? = some (.int .i64 (if j < 0 then shownC F c (M j) else M j))
            rw [if_neg (by omega), ← hM, h2 j hj]
            congr 2
            unfold numOf sprOf; rw [HRR.out]; rfl)
          have HG8 := hide (Nat.le_trans B5.out.size lg8)
          have I8 := hide (I5.out.next b8)
          have B8 := hide (bnext B5.out b8)
          clear r8 b8 lg8 o8 hM I5 G5 B5
          set_option maxRecDepth 20000 in
          go_wp2_with fail
          go_loopw [17] (fun si wr => ∃ k : Nat, k ≤ N ∧ si = .int .i64 (k : Int) ∧ OwnN wr g8 N cap (fun j => if j < k then shownC F c (M j) else M j) ∧ HasI 48 wr z [] G TL V X Y L (N : Int) ∧ Below w.heap.size w wr) (fun si _ => N - (intOf si).toNat)
          case atStart => exact ⟨0, Nat.zero_le _, rfl, G8.out, I8.out, B8.out⟩
          case round =>
            obtain ⟨k, hk, rfl, hr, hi, hb⟩ := hrel
            have RK := hide hr
            have IK := hide hi
            have BK := hide hb
            clear hr hi hb G8 I8 B8
            by_cases hlt : k < N
            · obtain ⟨x, hx⟩ : ∃ x, M k = x := ⟨_, rfl⟩
              obtain ⟨v, hv⟩ : ∃ v, shownC F c x = v := ⟨_, rfl⟩
              have KC := hide (rcolours c a F V hV x v hv)
              have HX := hide (And.intro hx hv)
              have CK := hide (show ∀ u, Below wr.heap.size wr u → u.cell? ⟨g8, k, none⟩ = some (.int .i64 x) from fun u hu => by
                have q := (RK.out.next hu).at k hlt
                rw [if_neg (by omega), hx] at q
                exact q)
              clear hx hv
              set_option maxRecDepth 20000 in
              go_wp2_with fail
              refine wp_region_facts_last [_, _, _, _, _, _, _, _, _, _] _ rfl (rdR z g8 N cap k V x v) _ (fun vals => by simp only [putAll, Act.put, List.setIfInBounds_toArray, List.set_cons_succ, List.set_cons_zero, Nat.reduceAdd]; rfl) (by kernel_rfl) (by kernel_rfl) (by kernel_rfl) (by kernel_rfl) rdR_next ?_ ?_
              · refine steps_cons (fun vals u hb hf => ?_) (steps_cons (fun vals u hb hf => ?_) (steps_cons (fun vals u hb hf => ?_) (steps_cons (fun vals u hb hf => ?_) (steps_cons (fun vals u hb hf => ?_) (steps_cons (fun vals u hb hf => ?_) (steps_cons (fun vals u hb hf => ?_) (steps_cons (fun vals u hb hf => ?_) (steps_cons (fun vals u hb hf => ?_) (steps_cons (fun vals u hb hf => ?_) steps_nil)))))))))
                · go_wp2_with fail
                  exact stepPost_mk _ rfl rfl (Below.refl _ _)
                · go_wp2_with fail
                  exact stepPost_mk _ rfl rfl (Below.refl _ _)
                · go_wp2_with fail
                  exact stepPost_mk _ rfl rfl (Below.refl _ _)
                · obtain ⟨(h2 : vals 2 = .pointer (some ⟨z, 277, none⟩)), _⟩ := hf
                  simp only [h2]
                  clear h2
                  have IU := hide (IK.out.next hb)
                  go_wp2_with (first | (refine wpList_load_mid rfl 46 (.tmp 91) rfl z 277 rfl V _ (by simpa using IU.out.vce) Tryd.underlying46 rfl IV.out ?_))
                  exact stepPost_mk _ rfl rfl (Below.refl _ _)
                · go_wp2_with fail
                  exact stepPost_mk _ rfl rfl (Below.refl _ _)
                · go_wp2_with fail
                  exact stepPost_mk _ rfl rfl (Below.refl _ _)
                · obtain ⟨(h4 : vals 4 = .slice (some ⟨g8, 0, none⟩) N cap), (h5 : vals 5 = .int .i64 (k : Int)), _⟩ := hf
                  simp only [h4, h5]
                  clear h4 h5
                  go_wp2_with fail
                  exact stepPost_mk _ rfl rfl (Below.refl _ _)
                · obtain ⟨(h6 : vals 6 = .pointer (some ⟨g8, k, none⟩)), _⟩ := hf
                  simp only [h6]
                  clear h6
                  have ck := CK.out u hb
                  go_wp2_with fail
                  exact stepPost_mk _ rfl rfl (Below.refl _ _)
                · obtain ⟨(h3 : vals 3 = .agg V.toArray), (h7 : vals 7 = .int .i64 x), _⟩ := hf
                  simp only [h3, h7]
                  clear h3 h7
                  go_wp2_with (first | (go_at_call 27; refine (KC.out u).mono ?_; rintro e u2 ⟨rfl, b2⟩))
                  exact stepPost_mk _ rfl rfl b2
                · obtain ⟨(h0 : vals 0 = .slice (some ⟨g8, 0, none⟩) N cap), (h1 : vals 1 = .int .i64 (k : Int)), _⟩ := hf
                  simp only [h0, h1]
                  clear h0 h1
                  go_wp2_with fail
                  exact stepPost_mk _ rfl rfl (Below.refl _ _)
              intro vals u hb hf
              obtain ⟨_, _, _, _, _, _, _, _, (h8 : vals 8 = .int .i64 v), (h9 : vals 9 = .pointer (some ⟨g8, k, none⟩)), _⟩ := hf
              simp only [h8, h9]
              clear h8 h9
              have R11 := hide (RK.out.next hb)
              have I11 := hide (IK.out.next hb)
              have B11 := hide (bnext BK.out hb)
              have cj := CK.out u hb
              have zj := R11.out.frozen k
              clear hb RK IK BK KC CK
              set_option maxRecDepth 20000 in
              go_wp2_with fail
              go_roundw
              case rel =>
                refine ⟨k + 1, by omega, by go_num, ?_, ?_, B11.out.setCell (p := ⟨g8, k, none⟩) HG8.out _⟩
                · refine R11.out.set k hlt v fun j _ => ?_
                  by_cases e : j = k
                  · rw [if_pos e, if_pos (by omega), e, HX.out.1, HX.out.2]
                  · rw [if_neg e]
                    by_cases q : j < k
                    · rw [if_pos q, if_pos (by omega)]
                    · rw [if_neg q, if_neg (by omega)]
                · exact I11.out.keep (heap_setCell_other _ _ _ _ (R11.out.apart I11.out.1 (by decide)))
              case measure => simp [intOf]; omega
            · obtain rfl : k = N := by omega
              set_option maxRecDepth 20000 in
              go_wp2_with fail
              go_ret3
              exact ⟨g8, cap, by rw [HOV.out.1, HOV.out.2]; rfl, RK.out.ints.ext fun j hj => by rw [if_pos hj]; first | rw [HWH.out.1, HWH.out.2, HMM.out] | rw [HMM.out], BK.out⟩
end Go.Proofs.YtnhjhmfiapjenaaDoor
