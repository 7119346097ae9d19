/- RegsOther: the law's walk, where the port is another one, or 0 -/
import Derived.Test.YtbgbedkmggefpaaDoorLaw15
namespace Go.Proofs.YtbgbedkmggefpaaDoor
open Go.RowKit
set_option linter.unusedVariables false

set_option maxHeartbeats 1000000 in
theorem other_no (c : Int) (s b n x : Int) (f : Nat → Int) (w : World) (cs : List Value) (R : Hid (∀ w b s, HasG 24 w b s f → w.rangeAt b 1 cs)) (E : Hid (∀ w, (binOp .eql 22 (.agg cs.toArray) (.agg cs.toArray)).run Tryd.prog w = .ok (.bool true) w)) (I : Hid ((Tryd.prog.info? 22).map (·.size) = some cs.length)) (BU : Hid (∀ w, (Instr.build 24 #[(0, .int .i64 n), (1, .agg cs.toArray)]).run Tryd.prog w = .ok (.agg (rowG n f)) w)) (hn : bits .and .i64 b 7 = n - 20) (n0 : 20 ≤ n) (n1 : n < 28) (hx : bits .and .i64 b 31 = x) (h0 : (c == 0) = false) (h2 : (c == 2) = false) (h3 : (c == 3) = false) (C1 : Hid (∀ w, Calls Tryd.prog 7 #[.agg (rowG s f), .int .i64 c, .int .i64 b] w fun e w' => e = .returned (.tuple #[.agg (rowG s f), .int .i64 0]) ∧ Below w.heap.size w w')) (C2 : Hid (∀ w, Calls Tryd.prog 7 #[.agg (rowG n f), .int .i64 2, .int .i64 b] w fun e w' => e = .returned (.tuple #[.agg (rowG n f), .int .i64 0]) ∧ Below w.heap.size w w')) (C3 : Hid (∀ w, Calls Tryd.prog 7 #[.agg (rowG n f), .int .i64 3, .int .i64 b] w fun e w' => e = .returned (.tuple #[.agg (rowG n f), .int .i64 0]) ∧ Below w.heap.size w w')) (C0 : Hid (∀ w, Calls Tryd.prog 7 #[.agg (rowG s f), .int .i64 0, .int .i64 b] w fun e w' => e = .returned (.tuple #[.agg (rowG x f), .int .i64 0]) ∧ Below w.heap.size w w')) : Calls Tryd.prog 6 #[.agg (rowG s f), .int .i64 c, .int .i64 b] w fun e w' => e = .returned (.bool true) ∧ Below w.heap.size w w' := by
  have V3 := hide (hasG_new 24 w s f)
  have B := hide ((Below.refl _ w).alloc (Nat.le_refl _) (.cells (rowG s f) 24))
  have hc : 20 + (n - 20) = n := by omega
  go_enter Tryd.func6, Tryd.ntmps6
  go_wp2_with (first | (refine wpList_load_row rfl 24 (.tmp 3) rfl w.heap.size rfl 24 _ (0, 0) _ V3.out Tryd.underlying24 rfl (info_G _ _) ?_))
  refine under_calls fun w0 hw0 => ?_
  rw [← hw0] at V3 B
  clear hw0
  refine (C1.out _).mono ?_
  rintro e w1 ⟨rfl, bw⟩
  replace V3 := hide (V3.out.next bw); replace B := hide (bnext B.out bw)
  clear bw C1
  go_wp2_with (first
    | (refine wpList_store_row rfl 24 (.tmp 7) (.tmp 31) rfl w1.heap.size _ rfl rfl 24 _ (heap_alloc_new w1 (.cells #[.int .i64 0, .int .i64 0, .int .i64 0, .int .i64 0, .int .i64 0, .int .i64 0, .int .i64 0, .int .i64 0, .int .i64 0, .int .i64 0, .int .i64 0, .int .i64 0, .int .i64 0, .int .i64 0, .int .i64 0, .int .i64 0, .int .i64 0, .int .i64 0, .int .i64 0, .int .i64 0, .int .i64 0] 24)) (info_G _ _) (by rw [rowG_size]; rfl) (rowG_one _ _) ?_; refine under_list fun u1 hu => ?_; have bw : Below w1.heap.size w1 u1 := (by rw [hu]; exact below_setRow ((Below.refl _ w1).alloc (Nat.le_refl _) _) (Nat.le_refl _) _); have V7 := hide (show HasG 24 u1 w1.heap.size s f by rw [hu]; exact setRow_heap _ _ _ _ _ _ (heap_alloc_new _ _)); replace V3 := hide (V3.out.next bw); replace B := hide (bnext B.out bw); have R3 := hide (R.out _ _ _ V3.out); clear hu bw)
    | (refine wpList_load_mid rfl 22 (.tmp 36) rfl w.heap.size 1 rfl cs _ R3.out Tryd.underlying22 rfl I.out ?_)
    | (refine wpList_built rfl 24 _ rfl #[(0, .int .i64 n), (1, .agg cs.toArray)] (by simp [Act.eval, Act.put]) (rowG n f) BU.out ?_)
    | (refine wpList_store_row rfl 24 (.tmp 9) (.tmp 38) rfl u1.heap.size _ rfl rfl 24 _ (heap_alloc_new u1 (.cells #[.int .i64 0, .int .i64 0, .int .i64 0, .int .i64 0, .int .i64 0, .int .i64 0, .int .i64 0, .int .i64 0, .int .i64 0, .int .i64 0, .int .i64 0, .int .i64 0, .int .i64 0, .int .i64 0, .int .i64 0, .int .i64 0, .int .i64 0, .int .i64 0, .int .i64 0, .int .i64 0, .int .i64 0] 24)) (info_G _ _) (by rw [rowG_size]; rfl) (rowG_one _ _) ?_; refine under_list fun u2 hu => ?_; have bw : Below u1.heap.size u1 u2 := (by rw [hu]; exact below_setRow ((Below.refl _ u1).alloc (Nat.le_refl _) _) (Nat.le_refl _) _); have V9 := hide (show HasG 24 u2 u1.heap.size n f by rw [hu]; exact setRow_heap _ _ _ _ _ _ (heap_alloc_new _ _)); replace V3 := hide (V3.out.next bw); replace B := hide (bnext B.out bw); replace V7 := hide (V7.out.next bw); clear hu bw)
    | (refine wpList_load_row rfl 24 (.tmp 9) rfl u1.heap.size rfl 24 _ (0, 0) _ V9.out Tryd.underlying24 rfl (info_G _ _) ?_))
  refine (C2.out _).mono ?_
  rintro e w2 ⟨rfl, bw⟩
  replace V3 := hide (V3.out.next bw); replace B := hide (bnext B.out bw); replace V7 := hide (V7.out.next bw); replace V9 := hide (V9.out.next bw)
  clear bw C2 R3
  go_wp2_with (first
    | (refine wpList_store_row rfl 24 (.tmp 10) (.tmp 43) rfl w2.heap.size _ rfl rfl 24 _ (heap_alloc_new w2 (.cells #[.int .i64 0, .int .i64 0, .int .i64 0, .int .i64 0, .int .i64 0, .int .i64 0, .int .i64 0, .int .i64 0, .int .i64 0, .int .i64 0, .int .i64 0, .int .i64 0, .int .i64 0, .int .i64 0, .int .i64 0, .int .i64 0, .int .i64 0, .int .i64 0, .int .i64 0, .int .i64 0, .int .i64 0] 24)) (info_G _ _) (by rw [rowG_size]; rfl) (rowG_one _ _) ?_; refine under_list fun u3 hu => ?_; have bw : Below w2.heap.size w2 u3 := (by rw [hu]; exact below_setRow ((Below.refl _ w2).alloc (Nat.le_refl _) _) (Nat.le_refl _) _); have V10 := hide (show HasG 24 u3 w2.heap.size n f by rw [hu]; exact setRow_heap _ _ _ _ _ _ (heap_alloc_new _ _)); replace V3 := hide (V3.out.next bw); replace B := hide (bnext B.out bw); replace V7 := hide (V7.out.next bw); replace V9 := hide (V9.out.next bw); clear hu bw)
    | (refine wpList_load_row rfl 24 (.tmp 9) rfl u1.heap.size rfl 24 _ (0, 0) _ V9.out Tryd.underlying24 rfl (info_G _ _) ?_))
  refine (C3.out _).mono ?_
  rintro e w3 ⟨rfl, bw⟩
  replace V3 := hide (V3.out.next bw); replace B := hide (bnext B.out bw); replace V7 := hide (V7.out.next bw); replace V9 := hide (V9.out.next bw); replace V10 := hide (V10.out.next bw)
  clear bw C3
  go_wp2_with (first
    | (refine wpList_store_row rfl 24 (.tmp 12) (.tmp 49) rfl w3.heap.size _ rfl rfl 24 _ (heap_alloc_new w3 (.cells #[.int .i64 0, .int .i64 0, .int .i64 0, .int .i64 0, .int .i64 0, .int .i64 0, .int .i64 0, .int .i64 0, .int .i64 0, .int .i64 0, .int .i64 0, .int .i64 0, .int .i64 0, .int .i64 0, .int .i64 0, .int .i64 0, .int .i64 0, .int .i64 0, .int .i64 0, .int .i64 0, .int .i64 0] 24)) (info_G _ _) (by rw [rowG_size]; rfl) (rowG_one _ _) ?_; refine under_list fun u4 hu => ?_; have bw : Below w3.heap.size w3 u4 := (by rw [hu]; exact below_setRow ((Below.refl _ w3).alloc (Nat.le_refl _) _) (Nat.le_refl _) _); have V12 := hide (show HasG 24 u4 w3.heap.size n f by rw [hu]; exact setRow_heap _ _ _ _ _ _ (heap_alloc_new _ _)); replace V3 := hide (V3.out.next bw); replace B := hide (bnext B.out bw); replace V7 := hide (V7.out.next bw); replace V9 := hide (V9.out.next bw); replace V10 := hide (V10.out.next bw); clear hu bw)
    | (refine wpList_load_row rfl 24 (.tmp 3) rfl w.heap.size rfl 24 _ (0, 0) _ V3.out Tryd.underlying24 rfl (info_G _ _) ?_))
  refine (C0.out _).mono ?_
  rintro e w4 ⟨rfl, bw⟩
  replace V3 := hide (V3.out.next bw); replace B := hide (bnext B.out bw); replace V7 := hide (V7.out.next bw); replace V9 := hide (V9.out.next bw); replace V10 := hide (V10.out.next bw); replace V12 := hide (V12.out.next bw)
  clear bw C0
  have e1 := eqG_self s f
  have e2 := eqG_self n f
  have e3 := E.out
  go_wp2_with (first
    | (refine wpList_store_row rfl 24 (.tmp 14) (.tmp 55) rfl w4.heap.size _ rfl rfl 24 _ (heap_alloc_new w4 (.cells #[.int .i64 0, .int .i64 0, .int .i64 0, .int .i64 0, .int .i64 0, .int .i64 0, .int .i64 0, .int .i64 0, .int .i64 0, .int .i64 0, .int .i64 0, .int .i64 0, .int .i64 0, .int .i64 0, .int .i64 0, .int .i64 0, .int .i64 0, .int .i64 0, .int .i64 0, .int .i64 0, .int .i64 0] 24)) (info_G _ _) (by rw [rowG_size]; rfl) (rowG_one _ _) ?_; refine under_list fun u5 hu => ?_; have bw : Below w4.heap.size w4 u5 := (by rw [hu]; exact below_setRow ((Below.refl _ w4).alloc (Nat.le_refl _) _) (Nat.le_refl _) _); have V14 := hide (show HasG 24 u5 w4.heap.size x f by rw [hu]; exact setRow_heap _ _ _ _ _ _ (heap_alloc_new _ _)); replace V3 := hide (V3.out.next bw); replace B := hide (bnext B.out bw); replace V7 := hide (V7.out.next bw); replace V9 := hide (V9.out.next bw); replace V10 := hide (V10.out.next bw); replace V12 := hide (V12.out.next bw); have R3 := hide (R.out _ _ _ V3.out); have R14 := hide (R.out _ _ _ V14.out); have c14 := V14.out.c0; clear hu bw)
    | (refine wpList_load_row rfl 24 (.tmp 3) rfl w.heap.size rfl 24 _ (0, 0) _ V3.out Tryd.underlying24 rfl (info_G _ _) ?_)
    | (refine wpList_load_row rfl 24 (.tmp 7) rfl w1.heap.size rfl 24 _ (0, 0) _ V7.out Tryd.underlying24 rfl (info_G _ _) ?_)
    | (refine wpList_load_want rfl 24 (.tmp 10) rfl w2.heap.size rfl 24 _ (0, 0) _ V10.out Tryd.underlying24 rfl (info_G _ _) ?_)
    | (refine wpList_load_want rfl 24 (.tmp 9) rfl u1.heap.size rfl 24 _ (0, 0) _ V9.out Tryd.underlying24 rfl (info_G _ _) ?_)
    | (refine wpList_load_want rfl 24 (.tmp 12) rfl w3.heap.size rfl 24 _ (0, 0) _ V12.out Tryd.underlying24 rfl (info_G _ _) ?_)
    | (refine wpList_mid_want rfl 22 (.tmp 90) rfl w4.heap.size 1 rfl cs _ R14.out Tryd.underlying22 rfl I.out ?_)
    | (refine wpList_mid_want rfl 22 (.tmp 92) rfl w.heap.size 1 rfl cs _ R3.out Tryd.underlying22 rfl I.out ?_))
  go_ret
  exact ⟨rfl, B.out⟩
set_option maxHeartbeats 1000000 in
theorem other_0 (c : Int) (hc1 : c = 1) (s b n x : Int) (f : Nat → Int) (w : World) (cs : List Value) (R : Hid (∀ w b s, HasG 24 w b s f → w.rangeAt b 1 cs)) (E : Hid (∀ w, (binOp .eql 22 (.agg cs.toArray) (.agg cs.toArray)).run Tryd.prog w = .ok (.bool true) w)) (I : Hid ((Tryd.prog.info? 22).map (·.size) = some cs.length)) (BU : Hid (∀ w, (Instr.build 24 #[(0, .int .i64 n), (1, .agg cs.toArray)]).run Tryd.prog w = .ok (.agg (rowG n f)) w)) (hn : bits .and .i64 b 7 = n - 20) (n0 : 20 ≤ n) (n1 : n < 28) (hx : bits .and .i64 b 31 = x) (C1 : Hid (∀ w, Calls Tryd.prog 7 #[.agg (rowG s f), .int .i64 c, .int .i64 b] w fun e w' => e = .returned (.tuple #[.agg (rowG s f), .int .i64 0]) ∧ Below w.heap.size w w')) (C2 : Hid (∀ w, Calls Tryd.prog 7 #[.agg (rowG n f), .int .i64 2, .int .i64 b] w fun e w' => e = .returned (.tuple #[.agg (rowG n f), .int .i64 0]) ∧ Below w.heap.size w w')) (C3 : Hid (∀ w, Calls Tryd.prog 7 #[.agg (rowG n f), .int .i64 3, .int .i64 b] w fun e w' => e = .returned (.tuple #[.agg (rowG n f), .int .i64 0]) ∧ Below w.heap.size w w')) (C0 : Hid (∀ w, Calls Tryd.prog 7 #[.agg (rowG s f), .int .i64 0, .int .i64 b] w fun e w' => e = .returned (.tuple #[.agg (rowG x f), .int .i64 0]) ∧ Below w.heap.size w w')) : Calls Tryd.prog 6 #[.agg (rowG s f), .int .i64 0, .int .i64 b] w fun e w' => e = .returned (.bool true) ∧ Below w.heap.size w w' := by
  subst hc1
  have V3 := hide (hasG_new 24 w s f)
  have B := hide ((Below.refl _ w).alloc (Nat.le_refl _) (.cells (rowG s f) 24))
  have hc : 20 + (n - 20) = n := by omega
  go_enter Tryd.func6, Tryd.ntmps6
  go_wp2_with (first | (refine wpList_load_row rfl 24 (.tmp 3) rfl w.heap.size rfl 24 _ (0, 0) _ V3.out Tryd.underlying24 rfl (info_G _ _) ?_))
  refine under_calls fun w0 hw0 => ?_
  rw [← hw0] at V3 B
  clear hw0
  refine (C1.out _).mono ?_
  rintro e w1 ⟨rfl, bw⟩
  replace V3 := hide (V3.out.next bw); replace B := hide (bnext B.out bw)
  clear bw C1
  go_wp2_with (first
    | (refine wpList_store_row rfl 24 (.tmp 7) (.tmp 31) rfl w1.heap.size _ rfl rfl 24 _ (heap_alloc_new w1 (.cells #[.int .i64 0, .int .i64 0, .int .i64 0, .int .i64 0, .int .i64 0, .int .i64 0, .int .i64 0, .int .i64 0, .int .i64 0, .int .i64 0, .int .i64 0, .int .i64 0, .int .i64 0, .int .i64 0, .int .i64 0, .int .i64 0, .int .i64 0, .int .i64 0, .int .i64 0, .int .i64 0, .int .i64 0] 24)) (info_G _ _) (by rw [rowG_size]; rfl) (rowG_one _ _) ?_; refine under_list fun u1 hu => ?_; have bw : Below w1.heap.size w1 u1 := (by rw [hu]; exact below_setRow ((Below.refl _ w1).alloc (Nat.le_refl _) _) (Nat.le_refl _) _); have V7 := hide (show HasG 24 u1 w1.heap.size s f by rw [hu]; exact setRow_heap _ _ _ _ _ _ (heap_alloc_new _ _)); replace V3 := hide (V3.out.next bw); replace B := hide (bnext B.out bw); have R3 := hide (R.out _ _ _ V3.out); clear hu bw)
    | (refine wpList_load_mid rfl 22 (.tmp 36) rfl w.heap.size 1 rfl cs _ R3.out Tryd.underlying22 rfl I.out ?_)
    | (refine wpList_built rfl 24 _ rfl #[(0, .int .i64 n), (1, .agg cs.toArray)] (by simp [Act.eval, Act.put]) (rowG n f) BU.out ?_)
    | (refine wpList_store_row rfl 24 (.tmp 9) (.tmp 38) rfl u1.heap.size _ rfl rfl 24 _ (heap_alloc_new u1 (.cells #[.int .i64 0, .int .i64 0, .int .i64 0, .int .i64 0, .int .i64 0, .int .i64 0, .int .i64 0, .int .i64 0, .int .i64 0, .int .i64 0, .int .i64 0, .int .i64 0, .int .i64 0, .int .i64 0, .int .i64 0, .int .i64 0, .int .i64 0, .int .i64 0, .int .i64 0, .int .i64 0, .int .i64 0] 24)) (info_G _ _) (by rw [rowG_size]; rfl) (rowG_one _ _) ?_; refine under_list fun u2 hu => ?_; have bw : Below u1.heap.size u1 u2 := (by rw [hu]; exact below_setRow ((Below.refl _ u1).alloc (Nat.le_refl _) _) (Nat.le_refl _) _); have V9 := hide (show HasG 24 u2 u1.heap.size n f by rw [hu]; exact setRow_heap _ _ _ _ _ _ (heap_alloc_new _ _)); replace V3 := hide (V3.out.next bw); replace B := hide (bnext B.out bw); replace V7 := hide (V7.out.next bw); clear hu bw)
    | (refine wpList_load_row rfl 24 (.tmp 9) rfl u1.heap.size rfl 24 _ (0, 0) _ V9.out Tryd.underlying24 rfl (info_G _ _) ?_))
  refine (C2.out _).mono ?_
  rintro e w2 ⟨rfl, bw⟩
  replace V3 := hide (V3.out.next bw); replace B := hide (bnext B.out bw); replace V7 := hide (V7.out.next bw); replace V9 := hide (V9.out.next bw)
  clear bw C2 R3
  go_wp2_with (first
    | (refine wpList_store_row rfl 24 (.tmp 10) (.tmp 43) rfl w2.heap.size _ rfl rfl 24 _ (heap_alloc_new w2 (.cells #[.int .i64 0, .int .i64 0, .int .i64 0, .int .i64 0, .int .i64 0, .int .i64 0, .int .i64 0, .int .i64 0, .int .i64 0, .int .i64 0, .int .i64 0, .int .i64 0, .int .i64 0, .int .i64 0, .int .i64 0, .int .i64 0, .int .i64 0, .int .i64 0, .int .i64 0, .int .i64 0, .int .i64 0] 24)) (info_G _ _) (by rw [rowG_size]; rfl) (rowG_one _ _) ?_; refine under_list fun u3 hu => ?_; have bw : Below w2.heap.size w2 u3 := (by rw [hu]; exact below_setRow ((Below.refl _ w2).alloc (Nat.le_refl _) _) (Nat.le_refl _) _); have V10 := hide (show HasG 24 u3 w2.heap.size n f by rw [hu]; exact setRow_heap _ _ _ _ _ _ (heap_alloc_new _ _)); replace V3 := hide (V3.out.next bw); replace B := hide (bnext B.out bw); replace V7 := hide (V7.out.next bw); replace V9 := hide (V9.out.next bw); clear hu bw)
    | (refine wpList_load_row rfl 24 (.tmp 9) rfl u1.heap.size rfl 24 _ (0, 0) _ V9.out Tryd.underlying24 rfl (info_G _ _) ?_))
  refine (C3.out _).mono ?_
  rintro e w3 ⟨rfl, bw⟩
  replace V3 := hide (V3.out.next bw); replace B := hide (bnext B.out bw); replace V7 := hide (V7.out.next bw); replace V9 := hide (V9.out.next bw); replace V10 := hide (V10.out.next bw)
  clear bw C3
  go_wp2_with (first
    | (refine wpList_store_row rfl 24 (.tmp 12) (.tmp 49) rfl w3.heap.size _ rfl rfl 24 _ (heap_alloc_new w3 (.cells #[.int .i64 0, .int .i64 0, .int .i64 0, .int .i64 0, .int .i64 0, .int .i64 0, .int .i64 0, .int .i64 0, .int .i64 0, .int .i64 0, .int .i64 0, .int .i64 0, .int .i64 0, .int .i64 0, .int .i64 0, .int .i64 0, .int .i64 0, .int .i64 0, .int .i64 0, .int .i64 0, .int .i64 0] 24)) (info_G _ _) (by rw [rowG_size]; rfl) (rowG_one _ _) ?_; refine under_list fun u4 hu => ?_; have bw : Below w3.heap.size w3 u4 := (by rw [hu]; exact below_setRow ((Below.refl _ w3).alloc (Nat.le_refl _) _) (Nat.le_refl _) _); have V12 := hide (show HasG 24 u4 w3.heap.size n f by rw [hu]; exact setRow_heap _ _ _ _ _ _ (heap_alloc_new _ _)); replace V3 := hide (V3.out.next bw); replace B := hide (bnext B.out bw); replace V7 := hide (V7.out.next bw); replace V9 := hide (V9.out.next bw); replace V10 := hide (V10.out.next bw); clear hu bw)
    | (refine wpList_load_row rfl 24 (.tmp 3) rfl w.heap.size rfl 24 _ (0, 0) _ V3.out Tryd.underlying24 rfl (info_G _ _) ?_))
  refine (C0.out _).mono ?_
  rintro e w4 ⟨rfl, bw⟩
  replace V3 := hide (V3.out.next bw); replace B := hide (bnext B.out bw); replace V7 := hide (V7.out.next bw); replace V9 := hide (V9.out.next bw); replace V10 := hide (V10.out.next bw); replace V12 := hide (V12.out.next bw)
  clear bw C0
  have e1 := eqG_self s f
  have e2 := eqG_self n f
  have e3 := E.out
  go_wp2_with (first
    | (refine wpList_store_row rfl 24 (.tmp 14) (.tmp 55) rfl w4.heap.size _ rfl rfl 24 _ (heap_alloc_new w4 (.cells #[.int .i64 0, .int .i64 0, .int .i64 0, .int .i64 0, .int .i64 0, .int .i64 0, .int .i64 0, .int .i64 0, .int .i64 0, .int .i64 0, .int .i64 0, .int .i64 0, .int .i64 0, .int .i64 0, .int .i64 0, .int .i64 0, .int .i64 0, .int .i64 0, .int .i64 0, .int .i64 0, .int .i64 0] 24)) (info_G _ _) (by rw [rowG_size]; rfl) (rowG_one _ _) ?_; refine under_list fun u5 hu => ?_; have bw : Below w4.heap.size w4 u5 := (by rw [hu]; exact below_setRow ((Below.refl _ w4).alloc (Nat.le_refl _) _) (Nat.le_refl _) _); have V14 := hide (show HasG 24 u5 w4.heap.size x f by rw [hu]; exact setRow_heap _ _ _ _ _ _ (heap_alloc_new _ _)); replace V3 := hide (V3.out.next bw); replace B := hide (bnext B.out bw); replace V7 := hide (V7.out.next bw); replace V9 := hide (V9.out.next bw); replace V10 := hide (V10.out.next bw); replace V12 := hide (V12.out.next bw); have R3 := hide (R.out _ _ _ V3.out); have R14 := hide (R.out _ _ _ V14.out); have c14 := V14.out.c0; clear hu bw)
    | (refine wpList_load_row rfl 24 (.tmp 3) rfl w.heap.size rfl 24 _ (0, 0) _ V3.out Tryd.underlying24 rfl (info_G _ _) ?_)
    | (refine wpList_load_row rfl 24 (.tmp 7) rfl w1.heap.size rfl 24 _ (0, 0) _ V7.out Tryd.underlying24 rfl (info_G _ _) ?_)
    | (refine wpList_load_want rfl 24 (.tmp 10) rfl w2.heap.size rfl 24 _ (0, 0) _ V10.out Tryd.underlying24 rfl (info_G _ _) ?_)
    | (refine wpList_load_want rfl 24 (.tmp 9) rfl u1.heap.size rfl 24 _ (0, 0) _ V9.out Tryd.underlying24 rfl (info_G _ _) ?_)
    | (refine wpList_load_want rfl 24 (.tmp 12) rfl w3.heap.size rfl 24 _ (0, 0) _ V12.out Tryd.underlying24 rfl (info_G _ _) ?_)
    | (refine wpList_mid_want rfl 22 (.tmp 90) rfl w4.heap.size 1 rfl cs _ R14.out Tryd.underlying22 rfl I.out ?_)
    | (refine wpList_mid_want rfl 22 (.tmp 92) rfl w.heap.size 1 rfl cs _ R3.out Tryd.underlying22 rfl I.out ?_))
  go_ret
  exact ⟨rfl, B.out⟩
end Go.Proofs.YtbgbedkmggefpaaDoor
