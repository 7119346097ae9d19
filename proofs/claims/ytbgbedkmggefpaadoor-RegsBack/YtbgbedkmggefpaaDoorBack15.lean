/- RegsBack: the law's walk, a register under a letter. -/
import Derived.Test.YtbgbedkmggefpaaDoorLaw15
import Derived.Test.YtbgbedkmggefpaaDoorFresh15
namespace Go.Proofs.YtbgbedkmggefpaaDoor
open Go.RowKit
set_option linter.unusedVariables false

theorem want_index (j : Nat) (hj : j < 20) (w : World) : (Instr.index 22 (.agg #[.int .i64 1, .int .i64 2, .int .i64 4, .int .i64 0, .int .i64 0, .int .i64 5, .int .i64 0, .int .i64 0, .int .i64 0, .int .i64 0, .int .i64 0, .int .i64 0, .int .i64 0, .int .i64 0, .int .i64 0, .int .i64 0, .int .i64 0, .int .i64 0, .int .i64 6, .int .i64 7]) (.int .i64 (j : Int))).run Tryd.prog w = .ok (.int .i64 (bringsOf (j : Int) 3)) w := by
  rcases j with _ | _ | _ | _ | _ | _ | _ | _ | _ | _ | _ | _ | _ | _ | _ | _ | _ | _ | _ | _ | j
  all_goals first | omega | kernel_rfl
theorem hasMask_row {w u : World} {g : Nat} {cs : Array Value} (h : HasMask w) (hu : u = w.setRow g cs) (hg : ¬ g = 0) : HasMask u := by
  obtain ⟨t, fr, e⟩ := h
  subst hu
  exact ⟨t, fr, (setRow_other w g 0 cs (fun k => hg k.symm)).trans e⟩
theorem back_no (i : Nat) (hi : i < 20) (h0 : ((i : Int) == 0) = false) (h2 : ((i : Int) == 2) = false) (a v t m y cc : Int) (F1 F2 G1 G2 : Nat → Int) (w : World) (hM : HasMask w) (ht : Int.tmod a 20 = t) (t0 : -20 < t) (t1 : t < 20) (hk : Int.tmod (t + 20) 20 = (i : Int)) (hy : bits .and .i64 v m = y) (m0 : 0 ≤ m) (m1 : m ≤ 65535) (f2 : F2 i = y) (g2 : G2 i = m) (C0 : Hid (∀ w, Calls Tryd.prog 7 #[.agg (rowG 0 (fun _ => 0)), .int .i64 0, .int .i64 (i : Int)] w fun e w' => e = .returned (.tuple #[.agg (rowG (i : Int) (fun _ => 0)), .int .i64 0]) ∧ Below w.heap.size w w')) (C1 : Hid (∀ w, HasMask w → Calls Tryd.prog 7 #[.agg (rowG (i : Int) (fun _ => 0)), .int .i64 2, .int .i64 v] w fun e w' => e = .returned (.tuple #[.agg (rowG (i : Int) F1), .int .i64 0]) ∧ Below w.heap.size w w')) (C2 : Hid (∀ w, HasMask w → Calls Tryd.prog 7 #[.agg (rowG (i : Int) F1), .int .i64 3, .int .i64 (v / 256)] w fun e w' => e = .returned (.tuple #[.agg (rowG (i : Int) F2), .int .i64 cc]) ∧ Below w.heap.size w w')) (D1 : Hid (∀ w, HasMask w → Calls Tryd.prog 7 #[.agg (rowG (i : Int) (fun _ => 0)), .int .i64 2, .int .i64 255] w fun e w' => e = .returned (.tuple #[.agg (rowG (i : Int) G1), .int .i64 0]) ∧ Below w.heap.size w w')) (D2 : Hid (∀ w, HasMask w → Calls Tryd.prog 7 #[.agg (rowG (i : Int) G1), .int .i64 3, .int .i64 255] w fun e w' => e = .returned (.tuple #[.agg (rowG (i : Int) G2), .int .i64 cc]) ∧ Below w.heap.size w w')) (CI : ∀ w, (Instr.index 22 (.agg #[.int .i64 1, .int .i64 2, .int .i64 4, .int .i64 0, .int .i64 0, .int .i64 5, .int .i64 0, .int .i64 0, .int .i64 0, .int .i64 0, .int .i64 0, .int .i64 0, .int .i64 0, .int .i64 0, .int .i64 0, .int .i64 0, .int .i64 0, .int .i64 0, .int .i64 6, .int .i64 7]) (.int .i64 (i : Int))).run Tryd.prog w = .ok (.int .i64 cc) w) : Calls Tryd.prog 5 #[.int .i64 a, .int .i64 v] w fun e w' => e = .returned (.bool true) ∧ Below w.heap.size w w' := by
  have B := hide (Below.refl w.heap.size w)
  have M := hide hM
  have hp := hM.pos
  clear hM
  go_enter Tryd.func5, Tryd.ntmps5
  go_wp2_with fail
  refine (fresh_any _).mono ?_
  rintro e w0 ⟨rfl, bw⟩
  replace B := hide (bnext B.out bw); replace M := hide (M.out.next bw)
  clear bw
  go_wp2_with fail
  refine (C0.out _).mono ?_
  rintro e w1 ⟨rfl, bw⟩
  have l1 := bw.size
  replace B := hide (bnext B.out bw); replace M := hide (M.out.next bw)
  have p1 : w.heap.size ≤ w1.heap.size := B.out.size
  clear bw C0
  go_wp2_with (first
    | (refine wpList_store_row rfl 24 (.tmp 5) (.tmp 20) rfl w1.heap.size _ rfl rfl 24 _ (heap_alloc_new w1 (.cells #[.int .i64 0, .int .i64 0, .int .i64 0, .int .i64 0, .int .i64 0, .int .i64 0, .int .i64 0, .int .i64 0, .int .i64 0, .int .i64 0, .int .i64 0, .int .i64 0, .int .i64 0, .int .i64 0, .int .i64 0, .int .i64 0, .int .i64 0, .int .i64 0, .int .i64 0, .int .i64 0, .int .i64 0] 24)) (info_G _ _) (by rw [rowG_size]; rfl) (rowG_one _ _) ?_; refine under_list fun u1 hu => ?_; have bw : Below w1.heap.size w1 u1 := (by rw [hu]; exact below_setRow ((Below.refl _ w1).alloc (Nat.le_refl _) _) (Nat.le_refl _) _); have V5 := hide (show HasG 24 u1 w1.heap.size (i : Int) (fun _ => 0) by rw [hu]; exact setRow_heap _ _ _ _ _ _ (heap_alloc_new _ _)); replace B := hide (bnext B.out bw); replace M := hide (M.out.next bw); clear hu bw)
    | (refine wpList_load_row rfl 24 (.tmp 5) rfl w1.heap.size rfl 24 _ (0, 0) _ V5.out Tryd.underlying24 rfl (info_G _ _) ?_))
  obtain ⟨g5, h5⟩ : ∃ g, g = w1.heap.size := ⟨_, rfl⟩
  rw [← h5] at V5 p1 ⊢
  clear h5
  refine (C1.out _ M.out).mono ?_
  rintro e w2 ⟨rfl, bw⟩
  replace B := hide (bnext B.out bw); replace M := hide (M.out.next bw)
  replace V5 := hide (V5.out.next bw)
  clear bw C1
  go_wp2_with (first
    | (refine wpList_store_row rfl 24 (.tmp 5) (.tmp 26) rfl g5 _ rfl rfl 24 _ V5.out (info_G _ _) (by rw [rowG_size, rowG_size]) (rowG_one _ _) ?_; refine under_list fun u2 hu => ?_; replace B := hide (show Below w.heap.size w u2 by rw [hu]; exact below_setRow B.out p1 _); replace M := hide (hasMask_row M.out hu (by omega)); skip; replace V5 := hide (show HasG 24 u2 g5 (i : Int) F1 by rw [hu]; exact setRow_heap _ _ _ _ _ _ V5.out); clear hu)
    | (refine wpList_load_row rfl 24 (.tmp 5) rfl g5 rfl 24 _ (0, 0) _ V5.out Tryd.underlying24 rfl (info_G _ _) ?_))
  refine (C2.out _ M.out).mono ?_
  rintro e w3 ⟨rfl, bw⟩
  replace B := hide (bnext B.out bw); replace M := hide (M.out.next bw)
  replace V5 := hide (V5.out.next bw)
  clear bw C2
  have HB := hide (built_sel (i : Int))
  go_wp2_with (first
    | (refine wpList_store_row rfl 24 (.tmp 5) (.tmp 33) rfl g5 _ rfl rfl 24 _ V5.out (info_G _ _) (by rw [rowG_size, rowG_size]) (rowG_one _ _) ?_; refine under_list fun u3 hu => ?_; replace B := hide (show Below w.heap.size w u3 by rw [hu]; exact below_setRow B.out p1 _); replace M := hide (hasMask_row M.out hu (by omega)); skip; replace V5 := hide (show HasG 24 u3 g5 (i : Int) F2 by rw [hu]; exact setRow_heap _ _ _ _ _ _ V5.out); clear hu)
    | (refine wpList_built rfl 24 _ rfl #[(0, .int .i64 (i : Int))] (by simp [Act.eval, Act.put]) (rowG (i : Int) (fun _ => 0)) HB.out ?_))
  refine (D1.out _ M.out).mono ?_
  rintro e w4 ⟨rfl, bw⟩
  replace B := hide (bnext B.out bw); replace M := hide (M.out.next bw)
  replace V5 := hide (V5.out.next bw)
  have p4 : w.heap.size ≤ w4.heap.size := B.out.size
  have q4 := V5.out.lt
  clear bw D1 HB
  go_wp2_with (first
    | (refine wpList_store_row rfl 24 (.tmp 9) (.tmp 39) rfl w4.heap.size _ rfl rfl 24 _ (heap_alloc_new w4 (.cells #[.int .i64 0, .int .i64 0, .int .i64 0, .int .i64 0, .int .i64 0, .int .i64 0, .int .i64 0, .int .i64 0, .int .i64 0, .int .i64 0, .int .i64 0, .int .i64 0, .int .i64 0, .int .i64 0, .int .i64 0, .int .i64 0, .int .i64 0, .int .i64 0, .int .i64 0, .int .i64 0, .int .i64 0] 24)) (info_G _ _) (by rw [rowG_size]; rfl) (rowG_one _ _) ?_; refine under_list fun u4 hu => ?_; have bw : Below w4.heap.size w4 u4 := (by rw [hu]; exact below_setRow ((Below.refl _ w4).alloc (Nat.le_refl _) _) (Nat.le_refl _) _); have V9 := hide (show HasG 24 u4 w4.heap.size (i : Int) G1 by rw [hu]; exact setRow_heap _ _ _ _ _ _ (heap_alloc_new _ _)); replace B := hide (bnext B.out bw); replace M := hide (M.out.next bw); replace V5 := hide (V5.out.next bw); clear hu bw)
    | (refine wpList_load_row rfl 24 (.tmp 9) rfl w4.heap.size rfl 24 _ (0, 0) _ V9.out Tryd.underlying24 rfl (info_G _ _) ?_))
  obtain ⟨g9, h9⟩ : ∃ g, g = w4.heap.size := ⟨_, rfl⟩
  rw [← h9] at V9 p4 q4 ⊢
  clear h9
  refine (D2.out _ M.out).mono ?_
  rintro e w5 ⟨rfl, bw⟩
  replace B := hide (bnext B.out bw); replace M := hide (M.out.next bw)
  replace V5 := hide (V5.out.next bw)
  replace V9 := hide (V9.out.next bw)
  clear bw D2
  go_wp2_with (first
    | (refine wpList_store_row rfl 24 (.tmp 9) (.tmp 44) rfl g9 _ rfl rfl 24 _ V9.out (info_G _ _) (by rw [rowG_size, rowG_size]) (rowG_one _ _) ?_; refine under_list fun u5 hu => ?_; replace B := hide (show Below w.heap.size w u5 by rw [hu]; exact below_setRow B.out p4 _); replace M := hide (hasMask_row M.out hu (by omega)); replace V5 := hide (show HasG 24 u5 g5 (i : Int) F2 by rw [hu]; exact V5.out.row _ (Nat.ne_of_lt q4)); replace V9 := hide (show HasG 24 u5 g9 (i : Int) G2 by rw [hu]; exact setRow_heap _ _ _ _ _ _ V9.out); clear hu))
  have k5 := kept_cell V5.out.c0 V5.out.lt
  have c5 : u5.cell? ⟨g5, 1 + i, none⟩ = some (.int .i64 y) := by rw [← f2]; exact V5.out.at i hi
  have c9 : u5.cell? ⟨g9, 1 + i, none⟩ = some (.int .i64 m) := by rw [← g2]; exact V9.out.at i hi
  have k6 := kept_cell c5 V5.out.lt
  have k9 := kept_cell c9 V9.out.lt
  clear c5 c9 CI ht hk
  haveI := kept_some u5
  refine wp_region_kept (by kernel_rfl) (by kernel_rfl) ?_
  repeat (go_big_quiet_step (fail))
  refine wpQuiet_nil ?_
  rintro _ ⟨wk, rfl⟩
  clear k5 k6 k9
  go_wp2_with fail
  go_ret
  exact ⟨rfl, bnext B.out wk.below⟩
theorem back_0 (a v t m y cc : Int) (F1 F2 G1 G2 : Nat → Int) (w : World) (hM : HasMask w) (ht : Int.tmod a 20 = t) (t0 : -20 < t) (t1 : t < 20) (hk : Int.tmod (t + 20) 20 = 0) (hy : bits .and .i64 v m = y) (m0 : 0 ≤ m) (m1 : m ≤ 65535) (f2 : F2 0 = y) (g2 : G2 0 = m) (C0 : Hid (∀ w, Calls Tryd.prog 7 #[.agg (rowG 0 (fun _ => 0)), .int .i64 0, .int .i64 0] w fun e w' => e = .returned (.tuple #[.agg (rowG 0 (fun _ => 0)), .int .i64 0]) ∧ Below w.heap.size w w')) (C1 : Hid (∀ w, HasMask w → Calls Tryd.prog 7 #[.agg (rowG 0 (fun _ => 0)), .int .i64 2, .int .i64 v] w fun e w' => e = .returned (.tuple #[.agg (rowG 0 F1), .int .i64 1]) ∧ Below w.heap.size w w')) (C2 : Hid (∀ w, HasMask w → Calls Tryd.prog 7 #[.agg (rowG 0 F1), .int .i64 3, .int .i64 (v / 256)] w fun e w' => e = .returned (.tuple #[.agg (rowG 0 F2), .int .i64 cc]) ∧ Below w.heap.size w w')) (D1 : Hid (∀ w, HasMask w → Calls Tryd.prog 7 #[.agg (rowG 0 (fun _ => 0)), .int .i64 2, .int .i64 255] w fun e w' => e = .returned (.tuple #[.agg (rowG 0 G1), .int .i64 1]) ∧ Below w.heap.size w w')) (D2 : Hid (∀ w, HasMask w → Calls Tryd.prog 7 #[.agg (rowG 0 G1), .int .i64 3, .int .i64 255] w fun e w' => e = .returned (.tuple #[.agg (rowG 0 G2), .int .i64 cc]) ∧ Below w.heap.size w w')) (CI : ∀ w, (Instr.index 22 (.agg #[.int .i64 1, .int .i64 2, .int .i64 4, .int .i64 0, .int .i64 0, .int .i64 5, .int .i64 0, .int .i64 0, .int .i64 0, .int .i64 0, .int .i64 0, .int .i64 0, .int .i64 0, .int .i64 0, .int .i64 0, .int .i64 0, .int .i64 0, .int .i64 0, .int .i64 6, .int .i64 7]) (.int .i64 0)).run Tryd.prog w = .ok (.int .i64 cc) w) : Calls Tryd.prog 5 #[.int .i64 a, .int .i64 v] w fun e w' => e = .returned (.bool true) ∧ Below w.heap.size w w' := by
  have B := hide (Below.refl w.heap.size w)
  have M := hide hM
  have hp := hM.pos
  clear hM
  go_enter Tryd.func5, Tryd.ntmps5
  go_wp2_with fail
  refine (fresh_any _).mono ?_
  rintro e w0 ⟨rfl, bw⟩
  replace B := hide (bnext B.out bw); replace M := hide (M.out.next bw)
  clear bw
  go_wp2_with fail
  refine (C0.out _).mono ?_
  rintro e w1 ⟨rfl, bw⟩
  have l1 := bw.size
  replace B := hide (bnext B.out bw); replace M := hide (M.out.next bw)
  have p1 : w.heap.size ≤ w1.heap.size := B.out.size
  clear bw C0
  go_wp2_with (first
    | (refine wpList_store_row rfl 24 (.tmp 5) (.tmp 20) rfl w1.heap.size _ rfl rfl 24 _ (heap_alloc_new w1 (.cells #[.int .i64 0, .int .i64 0, .int .i64 0, .int .i64 0, .int .i64 0, .int .i64 0, .int .i64 0, .int .i64 0, .int .i64 0, .int .i64 0, .int .i64 0, .int .i64 0, .int .i64 0, .int .i64 0, .int .i64 0, .int .i64 0, .int .i64 0, .int .i64 0, .int .i64 0, .int .i64 0, .int .i64 0] 24)) (info_G _ _) (by rw [rowG_size]; rfl) (rowG_one _ _) ?_; refine under_list fun u1 hu => ?_; have bw : Below w1.heap.size w1 u1 := (by rw [hu]; exact below_setRow ((Below.refl _ w1).alloc (Nat.le_refl _) _) (Nat.le_refl _) _); have V5 := hide (show HasG 24 u1 w1.heap.size 0 (fun _ => 0) by rw [hu]; exact setRow_heap _ _ _ _ _ _ (heap_alloc_new _ _)); replace B := hide (bnext B.out bw); replace M := hide (M.out.next bw); clear hu bw)
    | (refine wpList_load_row rfl 24 (.tmp 5) rfl w1.heap.size rfl 24 _ (0, 0) _ V5.out Tryd.underlying24 rfl (info_G _ _) ?_))
  obtain ⟨g5, h5⟩ : ∃ g, g = w1.heap.size := ⟨_, rfl⟩
  rw [← h5] at V5 p1 ⊢
  clear h5
  refine (C1.out _ M.out).mono ?_
  rintro e w2 ⟨rfl, bw⟩
  replace B := hide (bnext B.out bw); replace M := hide (M.out.next bw)
  replace V5 := hide (V5.out.next bw)
  clear bw C1
  go_wp2_with (first
    | (refine wpList_store_row rfl 24 (.tmp 5) (.tmp 26) rfl g5 _ rfl rfl 24 _ V5.out (info_G _ _) (by rw [rowG_size, rowG_size]) (rowG_one _ _) ?_; refine under_list fun u2 hu => ?_; replace B := hide (show Below w.heap.size w u2 by rw [hu]; exact below_setRow B.out p1 _); replace M := hide (hasMask_row M.out hu (by omega)); skip; replace V5 := hide (show HasG 24 u2 g5 0 F1 by rw [hu]; exact setRow_heap _ _ _ _ _ _ V5.out); clear hu)
    | (refine wpList_load_row rfl 24 (.tmp 5) rfl g5 rfl 24 _ (0, 0) _ V5.out Tryd.underlying24 rfl (info_G _ _) ?_))
  refine (C2.out _ M.out).mono ?_
  rintro e w3 ⟨rfl, bw⟩
  replace B := hide (bnext B.out bw); replace M := hide (M.out.next bw)
  replace V5 := hide (V5.out.next bw)
  clear bw C2
  have HB := hide (built_sel 0)
  go_wp2_with (first
    | (refine wpList_store_row rfl 24 (.tmp 5) (.tmp 33) rfl g5 _ rfl rfl 24 _ V5.out (info_G _ _) (by rw [rowG_size, rowG_size]) (rowG_one _ _) ?_; refine under_list fun u3 hu => ?_; replace B := hide (show Below w.heap.size w u3 by rw [hu]; exact below_setRow B.out p1 _); replace M := hide (hasMask_row M.out hu (by omega)); skip; replace V5 := hide (show HasG 24 u3 g5 0 F2 by rw [hu]; exact setRow_heap _ _ _ _ _ _ V5.out); clear hu)
    | (refine wpList_built rfl 24 _ rfl #[(0, .int .i64 0)] (by simp [Act.eval, Act.put]) (rowG 0 (fun _ => 0)) HB.out ?_))
  refine (D1.out _ M.out).mono ?_
  rintro e w4 ⟨rfl, bw⟩
  replace B := hide (bnext B.out bw); replace M := hide (M.out.next bw)
  replace V5 := hide (V5.out.next bw)
  have p4 : w.heap.size ≤ w4.heap.size := B.out.size
  have q4 := V5.out.lt
  clear bw D1 HB
  go_wp2_with (first
    | (refine wpList_store_row rfl 24 (.tmp 9) (.tmp 39) rfl w4.heap.size _ rfl rfl 24 _ (heap_alloc_new w4 (.cells #[.int .i64 0, .int .i64 0, .int .i64 0, .int .i64 0, .int .i64 0, .int .i64 0, .int .i64 0, .int .i64 0, .int .i64 0, .int .i64 0, .int .i64 0, .int .i64 0, .int .i64 0, .int .i64 0, .int .i64 0, .int .i64 0, .int .i64 0, .int .i64 0, .int .i64 0, .int .i64 0, .int .i64 0] 24)) (info_G _ _) (by rw [rowG_size]; rfl) (rowG_one _ _) ?_; refine under_list fun u4 hu => ?_; have bw : Below w4.heap.size w4 u4 := (by rw [hu]; exact below_setRow ((Below.refl _ w4).alloc (Nat.le_refl _) _) (Nat.le_refl _) _); have V9 := hide (show HasG 24 u4 w4.heap.size 0 G1 by rw [hu]; exact setRow_heap _ _ _ _ _ _ (heap_alloc_new _ _)); replace B := hide (bnext B.out bw); replace M := hide (M.out.next bw); replace V5 := hide (V5.out.next bw); clear hu bw)
    | (refine wpList_load_row rfl 24 (.tmp 9) rfl w4.heap.size rfl 24 _ (0, 0) _ V9.out Tryd.underlying24 rfl (info_G _ _) ?_))
  obtain ⟨g9, h9⟩ : ∃ g, g = w4.heap.size := ⟨_, rfl⟩
  rw [← h9] at V9 p4 q4 ⊢
  clear h9
  refine (D2.out _ M.out).mono ?_
  rintro e w5 ⟨rfl, bw⟩
  replace B := hide (bnext B.out bw); replace M := hide (M.out.next bw)
  replace V5 := hide (V5.out.next bw)
  replace V9 := hide (V9.out.next bw)
  clear bw D2
  go_wp2_with (first
    | (refine wpList_store_row rfl 24 (.tmp 9) (.tmp 44) rfl g9 _ rfl rfl 24 _ V9.out (info_G _ _) (by rw [rowG_size, rowG_size]) (rowG_one _ _) ?_; refine under_list fun u5 hu => ?_; replace B := hide (show Below w.heap.size w u5 by rw [hu]; exact below_setRow B.out p4 _); replace M := hide (hasMask_row M.out hu (by omega)); replace V5 := hide (show HasG 24 u5 g5 0 F2 by rw [hu]; exact V5.out.row _ (Nat.ne_of_lt q4)); replace V9 := hide (show HasG 24 u5 g9 0 G2 by rw [hu]; exact setRow_heap _ _ _ _ _ _ V9.out); clear hu))
  have k5 := kept_cell V5.out.c0 V5.out.lt
  have c5 : u5.cell? ⟨g5, 1, none⟩ = some (.int .i64 y) := by rw [← f2]; exact V5.out.at 0 (by decide)
  have c9 : u5.cell? ⟨g9, 1, none⟩ = some (.int .i64 m) := by rw [← g2]; exact V9.out.at 0 (by decide)
  have k6 := kept_cell c5 V5.out.lt
  have k9 := kept_cell c9 V9.out.lt
  clear c5 c9 CI ht hk
  haveI := kept_some u5
  refine wp_region_kept (by kernel_rfl) (by kernel_rfl) ?_
  repeat (go_big_quiet_step (fail))
  refine wpQuiet_nil ?_
  rintro _ ⟨wk, rfl⟩
  clear k5 k6 k9
  go_wp2_with fail
  go_ret
  exact ⟨rfl, bnext B.out wk.below⟩
theorem back_2 (a v t m y cc : Int) (F1 F2 G1 G2 : Nat → Int) (w : World) (hM : HasMask w) (ht : Int.tmod a 20 = t) (t0 : -20 < t) (t1 : t < 20) (hk : Int.tmod (t + 20) 20 = 2) (hy : bits .and .i64 v m = y) (m0 : 0 ≤ m) (m1 : m ≤ 65535) (f2 : F2 2 = y) (g2 : G2 2 = m) (C0 : Hid (∀ w, Calls Tryd.prog 7 #[.agg (rowG 0 (fun _ => 0)), .int .i64 0, .int .i64 2] w fun e w' => e = .returned (.tuple #[.agg (rowG 2 (fun _ => 0)), .int .i64 0]) ∧ Below w.heap.size w w')) (C1 : Hid (∀ w, HasMask w → Calls Tryd.prog 7 #[.agg (rowG 2 (fun _ => 0)), .int .i64 2, .int .i64 v] w fun e w' => e = .returned (.tuple #[.agg (rowG 2 F1), .int .i64 3]) ∧ Below w.heap.size w w')) (C2 : Hid (∀ w, HasMask w → Calls Tryd.prog 7 #[.agg (rowG 2 F1), .int .i64 3, .int .i64 (v / 256)] w fun e w' => e = .returned (.tuple #[.agg (rowG 2 F2), .int .i64 cc]) ∧ Below w.heap.size w w')) (D1 : Hid (∀ w, HasMask w → Calls Tryd.prog 7 #[.agg (rowG 2 (fun _ => 0)), .int .i64 2, .int .i64 255] w fun e w' => e = .returned (.tuple #[.agg (rowG 2 G1), .int .i64 3]) ∧ Below w.heap.size w w')) (D2 : Hid (∀ w, HasMask w → Calls Tryd.prog 7 #[.agg (rowG 2 G1), .int .i64 3, .int .i64 255] w fun e w' => e = .returned (.tuple #[.agg (rowG 2 G2), .int .i64 cc]) ∧ Below w.heap.size w w')) (CI : ∀ w, (Instr.index 22 (.agg #[.int .i64 1, .int .i64 2, .int .i64 4, .int .i64 0, .int .i64 0, .int .i64 5, .int .i64 0, .int .i64 0, .int .i64 0, .int .i64 0, .int .i64 0, .int .i64 0, .int .i64 0, .int .i64 0, .int .i64 0, .int .i64 0, .int .i64 0, .int .i64 0, .int .i64 6, .int .i64 7]) (.int .i64 2)).run Tryd.prog w = .ok (.int .i64 cc) w) : Calls Tryd.prog 5 #[.int .i64 a, .int .i64 v] w fun e w' => e = .returned (.bool true) ∧ Below w.heap.size w w' := by
  have B := hide (Below.refl w.heap.size w)
  have M := hide hM
  have hp := hM.pos
  clear hM
  go_enter Tryd.func5, Tryd.ntmps5
  go_wp2_with fail
  refine (fresh_any _).mono ?_
  rintro e w0 ⟨rfl, bw⟩
  replace B := hide (bnext B.out bw); replace M := hide (M.out.next bw)
  clear bw
  go_wp2_with fail
  refine (C0.out _).mono ?_
  rintro e w1 ⟨rfl, bw⟩
  have l1 := bw.size
  replace B := hide (bnext B.out bw); replace M := hide (M.out.next bw)
  have p1 : w.heap.size ≤ w1.heap.size := B.out.size
  clear bw C0
  go_wp2_with (first
    | (refine wpList_store_row rfl 24 (.tmp 5) (.tmp 20) rfl w1.heap.size _ rfl rfl 24 _ (heap_alloc_new w1 (.cells #[.int .i64 0, .int .i64 0, .int .i64 0, .int .i64 0, .int .i64 0, .int .i64 0, .int .i64 0, .int .i64 0, .int .i64 0, .int .i64 0, .int .i64 0, .int .i64 0, .int .i64 0, .int .i64 0, .int .i64 0, .int .i64 0, .int .i64 0, .int .i64 0, .int .i64 0, .int .i64 0, .int .i64 0] 24)) (info_G _ _) (by rw [rowG_size]; rfl) (rowG_one _ _) ?_; refine under_list fun u1 hu => ?_; have bw : Below w1.heap.size w1 u1 := (by rw [hu]; exact below_setRow ((Below.refl _ w1).alloc (Nat.le_refl _) _) (Nat.le_refl _) _); have V5 := hide (show HasG 24 u1 w1.heap.size 2 (fun _ => 0) by rw [hu]; exact setRow_heap _ _ _ _ _ _ (heap_alloc_new _ _)); replace B := hide (bnext B.out bw); replace M := hide (M.out.next bw); clear hu bw)
    | (refine wpList_load_row rfl 24 (.tmp 5) rfl w1.heap.size rfl 24 _ (0, 0) _ V5.out Tryd.underlying24 rfl (info_G _ _) ?_))
  obtain ⟨g5, h5⟩ : ∃ g, g = w1.heap.size := ⟨_, rfl⟩
  rw [← h5] at V5 p1 ⊢
  clear h5
  refine (C1.out _ M.out).mono ?_
  rintro e w2 ⟨rfl, bw⟩
  replace B := hide (bnext B.out bw); replace M := hide (M.out.next bw)
  replace V5 := hide (V5.out.next bw)
  clear bw C1
  go_wp2_with (first
    | (refine wpList_store_row rfl 24 (.tmp 5) (.tmp 26) rfl g5 _ rfl rfl 24 _ V5.out (info_G _ _) (by rw [rowG_size, rowG_size]) (rowG_one _ _) ?_; refine under_list fun u2 hu => ?_; replace B := hide (show Below w.heap.size w u2 by rw [hu]; exact below_setRow B.out p1 _); replace M := hide (hasMask_row M.out hu (by omega)); skip; replace V5 := hide (show HasG 24 u2 g5 2 F1 by rw [hu]; exact setRow_heap _ _ _ _ _ _ V5.out); clear hu)
    | (refine wpList_load_row rfl 24 (.tmp 5) rfl g5 rfl 24 _ (0, 0) _ V5.out Tryd.underlying24 rfl (info_G _ _) ?_))
  refine (C2.out _ M.out).mono ?_
  rintro e w3 ⟨rfl, bw⟩
  replace B := hide (bnext B.out bw); replace M := hide (M.out.next bw)
  replace V5 := hide (V5.out.next bw)
  clear bw C2
  have HB := hide (built_sel 2)
  go_wp2_with (first
    | (refine wpList_store_row rfl 24 (.tmp 5) (.tmp 33) rfl g5 _ rfl rfl 24 _ V5.out (info_G _ _) (by rw [rowG_size, rowG_size]) (rowG_one _ _) ?_; refine under_list fun u3 hu => ?_; replace B := hide (show Below w.heap.size w u3 by rw [hu]; exact below_setRow B.out p1 _); replace M := hide (hasMask_row M.out hu (by omega)); skip; replace V5 := hide (show HasG 24 u3 g5 2 F2 by rw [hu]; exact setRow_heap _ _ _ _ _ _ V5.out); clear hu)
    | (refine wpList_built rfl 24 _ rfl #[(0, .int .i64 2)] (by simp [Act.eval, Act.put]) (rowG 2 (fun _ => 0)) HB.out ?_))
  refine (D1.out _ M.out).mono ?_
  rintro e w4 ⟨rfl, bw⟩
  replace B := hide (bnext B.out bw); replace M := hide (M.out.next bw)
  replace V5 := hide (V5.out.next bw)
  have p4 : w.heap.size ≤ w4.heap.size := B.out.size
  have q4 := V5.out.lt
  clear bw D1 HB
  go_wp2_with (first
    | (refine wpList_store_row rfl 24 (.tmp 9) (.tmp 39) rfl w4.heap.size _ rfl rfl 24 _ (heap_alloc_new w4 (.cells #[.int .i64 0, .int .i64 0, .int .i64 0, .int .i64 0, .int .i64 0, .int .i64 0, .int .i64 0, .int .i64 0, .int .i64 0, .int .i64 0, .int .i64 0, .int .i64 0, .int .i64 0, .int .i64 0, .int .i64 0, .int .i64 0, .int .i64 0, .int .i64 0, .int .i64 0, .int .i64 0, .int .i64 0] 24)) (info_G _ _) (by rw [rowG_size]; rfl) (rowG_one _ _) ?_; refine under_list fun u4 hu => ?_; have bw : Below w4.heap.size w4 u4 := (by rw [hu]; exact below_setRow ((Below.refl _ w4).alloc (Nat.le_refl _) _) (Nat.le_refl _) _); have V9 := hide (show HasG 24 u4 w4.heap.size 2 G1 by rw [hu]; exact setRow_heap _ _ _ _ _ _ (heap_alloc_new _ _)); replace B := hide (bnext B.out bw); replace M := hide (M.out.next bw); replace V5 := hide (V5.out.next bw); clear hu bw)
    | (refine wpList_load_row rfl 24 (.tmp 9) rfl w4.heap.size rfl 24 _ (0, 0) _ V9.out Tryd.underlying24 rfl (info_G _ _) ?_))
  obtain ⟨g9, h9⟩ : ∃ g, g = w4.heap.size := ⟨_, rfl⟩
  rw [← h9] at V9 p4 q4 ⊢
  clear h9
  refine (D2.out _ M.out).mono ?_
  rintro e w5 ⟨rfl, bw⟩
  replace B := hide (bnext B.out bw); replace M := hide (M.out.next bw)
  replace V5 := hide (V5.out.next bw)
  replace V9 := hide (V9.out.next bw)
  clear bw D2
  go_wp2_with (first
    | (refine wpList_store_row rfl 24 (.tmp 9) (.tmp 44) rfl g9 _ rfl rfl 24 _ V9.out (info_G _ _) (by rw [rowG_size, rowG_size]) (rowG_one _ _) ?_; refine under_list fun u5 hu => ?_; replace B := hide (show Below w.heap.size w u5 by rw [hu]; exact below_setRow B.out p4 _); replace M := hide (hasMask_row M.out hu (by omega)); replace V5 := hide (show HasG 24 u5 g5 2 F2 by rw [hu]; exact V5.out.row _ (Nat.ne_of_lt q4)); replace V9 := hide (show HasG 24 u5 g9 2 G2 by rw [hu]; exact setRow_heap _ _ _ _ _ _ V9.out); clear hu))
  have k5 := kept_cell V5.out.c0 V5.out.lt
  have c5 : u5.cell? ⟨g5, 3, none⟩ = some (.int .i64 y) := by rw [← f2]; exact V5.out.at 2 (by decide)
  have c9 : u5.cell? ⟨g9, 3, none⟩ = some (.int .i64 m) := by rw [← g2]; exact V9.out.at 2 (by decide)
  have k6 := kept_cell c5 V5.out.lt
  have k9 := kept_cell c9 V9.out.lt
  clear c5 c9 CI ht hk
  haveI := kept_some u5
  refine wp_region_kept (by kernel_rfl) (by kernel_rfl) ?_
  repeat (go_big_quiet_step (fail))
  refine wpQuiet_nil ?_
  rintro _ ⟨wk, rfl⟩
  clear k5 k6 k9
  go_wp2_with fail
  go_ret
  exact ⟨rfl, bnext B.out wk.below⟩
end Go.Proofs.YtbgbedkmggefpaaDoor
