/- The walk of the law VceGrey of layer 12. -/
import Derived.Test.YtlphndfkjmellaaDoes12
namespace Go.Proofs.Ytlphndfkjmellaa
open Go.RowKit
set_option linter.unusedVariables false

theorem built_1 (c : Int) : zeroC.setIfInBounds 0 (.int .i64 c) = rowV c 0 (fun _ => 0) := by rw [zero_V, rowV_set0]
theorem grey_all (a b p q x y : Int) (w : World) (ea : bits .and .i64 a 511 = p) (eb : bits .and .i64 b 511 = q) (p0 : 0 ≤ p) (p1 : p < 512) (q0 : 0 ≤ q) (q1 : q < 512) (G G2 : Int → Int) (g1 : G 1 = x) (g2 : G 2 = y) (g3 : G2 3 = 511) (g0 : G2 0 = 0) (x0 : 0 ≤ x) (x1 : x ≤ 511) (y0 : 0 ≤ y) (y1 : y ≤ 511) (x7 : x % 73 = 0) (y7 : y % 73 = 0) (C1 : Hid (∀ k w, Calls Try.prog 9 #[.agg (rowV 128 0 (upd (upd (fun _ => 0) 1 p) 2 q)), .int .i64 k] w fun e w' => e = .returned (.int .i64 (G k)) ∧ Below w.heap.size w w')) (C2 : Hid (∀ k w, Calls Try.prog 9 #[.agg (rowV 128 0 (upd (upd (upd (fun _ => 0) 1 p) 2 q) 3 511)), .int .i64 k] w fun e w' => e = .returned (.int .i64 (G2 k)) ∧ Below w.heap.size w w')) (h1 : p / 64 ≤ q / 64) (h2 : p / 8 % 8 ≤ q / 8 % 8) (h3 : p % 8 ≤ q % 8) (hxy : x ≤ y) : Calls Try.prog 4 #[.int .i64 a, .int .i64 b] w fun e w' => e = .returned (.bool true) ∧ Below w.heap.size w w' := by
  have N0 := hide (show HasV 25 (w.alloc (.cells zeroC 25)) w.heap.size 0 0 (fun _ => 0) by rw [zero_V]; exact hasV_new 25 w 0 0 (fun _ => 0))
  have hb := built_1 128
  have u1 := and_7 (p / 8)
  have u2 := and_7 (q / 8)
  have u3 := and_7 p
  have u4 := and_7 q
  have V1 := (show HasV 25 ((w.alloc (.cells zeroC 25)).setRow w.heap.size (rowV 128 0 (fun _ => 0))) w.heap.size 128 0 (fun _ => 0) from setRow_heap _ _ _ _ _ _ N0.out)
  have c3 := show ((w.alloc (.cells zeroC 25)).setRow w.heap.size (rowV 128 0 (fun _ => 0))).cell? ⟨w.heap.size, 3, none⟩ = some (.int .i64 0) from V1.at 1 (by decide)
  have c4 := show (((w.alloc (.cells zeroC 25)).setRow w.heap.size (rowV 128 0 (fun _ => 0))).setCell ⟨w.heap.size, 3, none⟩ (.int .i64 p)).cell? ⟨w.heap.size, 4, none⟩ = some (.int .i64 0) from (V1.set 1 p).at 2 (by decide)
  have z3 := V1.frozen 3
  have z4 := V1.frozen 4
  have V2 := hide (show HasV 25 ((((w.alloc (.cells zeroC 25)).setRow w.heap.size (rowV 128 0 (fun _ => 0))).setCell ⟨w.heap.size, 3, none⟩ (.int .i64 p)).setCell ⟨w.heap.size, 4, none⟩ (.int .i64 q)) w.heap.size 128 0 (upd (upd (fun _ => 0) 1 p) 2 q) from (V1.set 1 p).set 2 q)
  have B2 := hide (show Below w.heap.size w ((((w.alloc (.cells zeroC 25)).setRow w.heap.size (rowV 128 0 (fun _ => 0))).setCell ⟨w.heap.size, 3, none⟩ (.int .i64 p)).setCell ⟨w.heap.size, 4, none⟩ (.int .i64 q)) from ((below_setRow ((Below.refl _ w).alloc (Nat.le_refl _) _) (Nat.le_refl _) _).setCell (Nat.le_refl _) _).setCell (Nat.le_refl _) _)
  clear V1
  try have hzz := zero_same w (Try.zeroValue25 w)
  go_enter Try.func4, Try.ntmps4
  go_wp2_with (first
    | (refine wpList_store_row rfl 25 (.tmp 5) (.tmp 13) rfl w.heap.size _ rfl rfl 25 _ N0.out (info_V _ _ _) (by rw [rowV_size, rowV_size]) (rowV_one _ _ _) ?_))
  obtain ⟨wb, hwb⟩ : ∃ wb, wb = ((((w.alloc (.cells zeroC 25)).setRow w.heap.size (rowV 128 0 (fun _ => 0))).setCell ⟨w.heap.size, 3, none⟩ (.int .i64 p)).setCell ⟨w.heap.size, 4, none⟩ (.int .i64 q)) := ⟨_, rfl⟩
  rw [← hwb] at V2 B2 ⊢
  clear hwb c3 c4 z3 z4 hb N0
  generalize (upd (upd (fun _ => 0) 1 p) 2 q) = F at *
  haveI := kept_some wb
  refine wp_region_kept (by kernel_rfl) (by kernel_rfl) ?_
  repeat (first
    | (refine wpQuiet_row rfl 25 (.tmp 5) rfl w.heap.size rfl 25 _ (0, 0) _ (fun w' ⟨x, hx⟩ => by rw [hx]; exact (x.block _ V2.out.lt).trans V2.out) Try.underlying25 rfl (info_V _ _ _) ?_; simp only [Act.put, List.setIfInBounds_toArray, List.set_cons_succ, List.set_cons_zero])
    | go_big_quiet_step ((go_at_call 9; exact kept_call (C1.out _ _))))
  refine wpQuiet_nil ?_
  rintro _ ⟨wk, rfl⟩
  have V3 := V2.out.next wk.below
  have c5 := show wk.val.cell? ⟨w.heap.size, 5, none⟩ = some (.int .i64 (F 3)) from V3.at 3 (by decide)
  have z5 := V3.frozen 5
  have V4 := hide (show HasV 25 (wk.val.setCell ⟨w.heap.size, 5, none⟩ (.int .i64 511)) w.heap.size 128 0 (upd F 3 511) from V3.set 3 511)
  have B4 := hide ((bnext B2.out wk.below).setCell (p := ⟨w.heap.size, 5, none⟩) (Nat.le_refl _) (.int .i64 511))
  clear V2 B2 V3 C1
  generalize wk.val = w4 at *
  go_wp2_with (first
    | (refine wpList_load_want rfl 25 (.tmp 5) rfl w.heap.size rfl 25 _ (0, 0) _ V4.out Try.underlying25 rfl (info_V _ _ _) ?_))
  refine (C2.out _ _).mono ?_
  rintro e w5 ⟨rfl, b5⟩
  have V5 := hide (V4.out.next b5)
  have B5 := hide (bnext B4.out b5)
  clear b5 V4 B4 c5 z5
  go_wp2_with (first
    | (refine wpList_load_want rfl 25 (.tmp 5) rfl w.heap.size rfl 25 _ (0, 0) _ V5.out Try.underlying25 rfl (info_V _ _ _) ?_))
  refine (C2.out _ _).mono ?_
  rintro e w6 ⟨rfl, b6⟩
  have B6 := hide (bnext B5.out b6)
  clear b6 V5 B5 C2
  set_option maxRecDepth 20000 in go_wp2_with fail
  go_ret
  exact ⟨rfl, B6.out⟩
theorem grey_not1 (a b p q x y : Int) (w : World) (ea : bits .and .i64 a 511 = p) (eb : bits .and .i64 b 511 = q) (p0 : 0 ≤ p) (p1 : p < 512) (q0 : 0 ≤ q) (q1 : q < 512) (G G2 : Int → Int) (g1 : G 1 = x) (g2 : G 2 = y) (g3 : G2 3 = 511) (g0 : G2 0 = 0) (x0 : 0 ≤ x) (x1 : x ≤ 511) (y0 : 0 ≤ y) (y1 : y ≤ 511) (x7 : x % 73 = 0) (y7 : y % 73 = 0) (C1 : Hid (∀ k w, Calls Try.prog 9 #[.agg (rowV 128 0 (upd (upd (fun _ => 0) 1 p) 2 q)), .int .i64 k] w fun e w' => e = .returned (.int .i64 (G k)) ∧ Below w.heap.size w w')) (C2 : Hid (∀ k w, Calls Try.prog 9 #[.agg (rowV 128 0 (upd (upd (upd (fun _ => 0) 1 p) 2 q) 3 511)), .int .i64 k] w fun e w' => e = .returned (.int .i64 (G2 k)) ∧ Below w.heap.size w w')) (h1 : q / 64 < p / 64) : Calls Try.prog 4 #[.int .i64 a, .int .i64 b] w fun e w' => e = .returned (.bool true) ∧ Below w.heap.size w w' := by
  have N0 := hide (show HasV 25 (w.alloc (.cells zeroC 25)) w.heap.size 0 0 (fun _ => 0) by rw [zero_V]; exact hasV_new 25 w 0 0 (fun _ => 0))
  have hb := built_1 128
  have u1 := and_7 (p / 8)
  have u2 := and_7 (q / 8)
  have u3 := and_7 p
  have u4 := and_7 q
  have V1 := (show HasV 25 ((w.alloc (.cells zeroC 25)).setRow w.heap.size (rowV 128 0 (fun _ => 0))) w.heap.size 128 0 (fun _ => 0) from setRow_heap _ _ _ _ _ _ N0.out)
  have c3 := show ((w.alloc (.cells zeroC 25)).setRow w.heap.size (rowV 128 0 (fun _ => 0))).cell? ⟨w.heap.size, 3, none⟩ = some (.int .i64 0) from V1.at 1 (by decide)
  have c4 := show (((w.alloc (.cells zeroC 25)).setRow w.heap.size (rowV 128 0 (fun _ => 0))).setCell ⟨w.heap.size, 3, none⟩ (.int .i64 p)).cell? ⟨w.heap.size, 4, none⟩ = some (.int .i64 0) from (V1.set 1 p).at 2 (by decide)
  have z3 := V1.frozen 3
  have z4 := V1.frozen 4
  have V2 := hide (show HasV 25 ((((w.alloc (.cells zeroC 25)).setRow w.heap.size (rowV 128 0 (fun _ => 0))).setCell ⟨w.heap.size, 3, none⟩ (.int .i64 p)).setCell ⟨w.heap.size, 4, none⟩ (.int .i64 q)) w.heap.size 128 0 (upd (upd (fun _ => 0) 1 p) 2 q) from (V1.set 1 p).set 2 q)
  have B2 := hide (show Below w.heap.size w ((((w.alloc (.cells zeroC 25)).setRow w.heap.size (rowV 128 0 (fun _ => 0))).setCell ⟨w.heap.size, 3, none⟩ (.int .i64 p)).setCell ⟨w.heap.size, 4, none⟩ (.int .i64 q)) from ((below_setRow ((Below.refl _ w).alloc (Nat.le_refl _) _) (Nat.le_refl _) _).setCell (Nat.le_refl _) _).setCell (Nat.le_refl _) _)
  clear V1
  try have hzz := zero_same w (Try.zeroValue25 w)
  go_enter Try.func4, Try.ntmps4
  go_wp2_with (first
    | (refine wpList_store_row rfl 25 (.tmp 5) (.tmp 13) rfl w.heap.size _ rfl rfl 25 _ N0.out (info_V _ _ _) (by rw [rowV_size, rowV_size]) (rowV_one _ _ _) ?_))
  obtain ⟨wb, hwb⟩ : ∃ wb, wb = ((((w.alloc (.cells zeroC 25)).setRow w.heap.size (rowV 128 0 (fun _ => 0))).setCell ⟨w.heap.size, 3, none⟩ (.int .i64 p)).setCell ⟨w.heap.size, 4, none⟩ (.int .i64 q)) := ⟨_, rfl⟩
  rw [← hwb] at V2 B2 ⊢
  clear hwb c3 c4 z3 z4 hb N0
  generalize (upd (upd (fun _ => 0) 1 p) 2 q) = F at *
  haveI := kept_some wb
  refine wp_region_kept (by kernel_rfl) (by kernel_rfl) ?_
  repeat (first
    | (refine wpQuiet_row rfl 25 (.tmp 5) rfl w.heap.size rfl 25 _ (0, 0) _ (fun w' ⟨x, hx⟩ => by rw [hx]; exact (x.block _ V2.out.lt).trans V2.out) Try.underlying25 rfl (info_V _ _ _) ?_; simp only [Act.put, List.setIfInBounds_toArray, List.set_cons_succ, List.set_cons_zero])
    | go_big_quiet_step ((go_at_call 9; exact kept_call (C1.out _ _))))
  refine wpQuiet_nil ?_
  rintro _ ⟨wk, rfl⟩
  have V3 := V2.out.next wk.below
  have c5 := show wk.val.cell? ⟨w.heap.size, 5, none⟩ = some (.int .i64 (F 3)) from V3.at 3 (by decide)
  have z5 := V3.frozen 5
  have V4 := hide (show HasV 25 (wk.val.setCell ⟨w.heap.size, 5, none⟩ (.int .i64 511)) w.heap.size 128 0 (upd F 3 511) from V3.set 3 511)
  have B4 := hide ((bnext B2.out wk.below).setCell (p := ⟨w.heap.size, 5, none⟩) (Nat.le_refl _) (.int .i64 511))
  clear V2 B2 V3 C1
  generalize wk.val = w4 at *
  go_wp2_with (first
    | (refine wpList_load_want rfl 25 (.tmp 5) rfl w.heap.size rfl 25 _ (0, 0) _ V4.out Try.underlying25 rfl (info_V _ _ _) ?_))
  refine (C2.out _ _).mono ?_
  rintro e w5 ⟨rfl, b5⟩
  have V5 := hide (V4.out.next b5)
  have B5 := hide (bnext B4.out b5)
  clear b5 V4 B4 c5 z5
  go_wp2_with (first
    | (refine wpList_load_want rfl 25 (.tmp 5) rfl w.heap.size rfl 25 _ (0, 0) _ V5.out Try.underlying25 rfl (info_V _ _ _) ?_))
  refine (C2.out _ _).mono ?_
  rintro e w6 ⟨rfl, b6⟩
  have B6 := hide (bnext B5.out b6)
  clear b6 V5 B5 C2
  set_option maxRecDepth 20000 in go_wp2_with fail
  go_ret
  exact ⟨rfl, B6.out⟩
theorem grey_not2 (a b p q x y : Int) (w : World) (ea : bits .and .i64 a 511 = p) (eb : bits .and .i64 b 511 = q) (p0 : 0 ≤ p) (p1 : p < 512) (q0 : 0 ≤ q) (q1 : q < 512) (G G2 : Int → Int) (g1 : G 1 = x) (g2 : G 2 = y) (g3 : G2 3 = 511) (g0 : G2 0 = 0) (x0 : 0 ≤ x) (x1 : x ≤ 511) (y0 : 0 ≤ y) (y1 : y ≤ 511) (x7 : x % 73 = 0) (y7 : y % 73 = 0) (C1 : Hid (∀ k w, Calls Try.prog 9 #[.agg (rowV 128 0 (upd (upd (fun _ => 0) 1 p) 2 q)), .int .i64 k] w fun e w' => e = .returned (.int .i64 (G k)) ∧ Below w.heap.size w w')) (C2 : Hid (∀ k w, Calls Try.prog 9 #[.agg (rowV 128 0 (upd (upd (upd (fun _ => 0) 1 p) 2 q) 3 511)), .int .i64 k] w fun e w' => e = .returned (.int .i64 (G2 k)) ∧ Below w.heap.size w w')) (h1 : p / 64 ≤ q / 64) (h2 : q / 8 % 8 < p / 8 % 8) : Calls Try.prog 4 #[.int .i64 a, .int .i64 b] w fun e w' => e = .returned (.bool true) ∧ Below w.heap.size w w' := by
  have N0 := hide (show HasV 25 (w.alloc (.cells zeroC 25)) w.heap.size 0 0 (fun _ => 0) by rw [zero_V]; exact hasV_new 25 w 0 0 (fun _ => 0))
  have hb := built_1 128
  have u1 := and_7 (p / 8)
  have u2 := and_7 (q / 8)
  have u3 := and_7 p
  have u4 := and_7 q
  have V1 := (show HasV 25 ((w.alloc (.cells zeroC 25)).setRow w.heap.size (rowV 128 0 (fun _ => 0))) w.heap.size 128 0 (fun _ => 0) from setRow_heap _ _ _ _ _ _ N0.out)
  have c3 := show ((w.alloc (.cells zeroC 25)).setRow w.heap.size (rowV 128 0 (fun _ => 0))).cell? ⟨w.heap.size, 3, none⟩ = some (.int .i64 0) from V1.at 1 (by decide)
  have c4 := show (((w.alloc (.cells zeroC 25)).setRow w.heap.size (rowV 128 0 (fun _ => 0))).setCell ⟨w.heap.size, 3, none⟩ (.int .i64 p)).cell? ⟨w.heap.size, 4, none⟩ = some (.int .i64 0) from (V1.set 1 p).at 2 (by decide)
  have z3 := V1.frozen 3
  have z4 := V1.frozen 4
  have V2 := hide (show HasV 25 ((((w.alloc (.cells zeroC 25)).setRow w.heap.size (rowV 128 0 (fun _ => 0))).setCell ⟨w.heap.size, 3, none⟩ (.int .i64 p)).setCell ⟨w.heap.size, 4, none⟩ (.int .i64 q)) w.heap.size 128 0 (upd (upd (fun _ => 0) 1 p) 2 q) from (V1.set 1 p).set 2 q)
  have B2 := hide (show Below w.heap.size w ((((w.alloc (.cells zeroC 25)).setRow w.heap.size (rowV 128 0 (fun _ => 0))).setCell ⟨w.heap.size, 3, none⟩ (.int .i64 p)).setCell ⟨w.heap.size, 4, none⟩ (.int .i64 q)) from ((below_setRow ((Below.refl _ w).alloc (Nat.le_refl _) _) (Nat.le_refl _) _).setCell (Nat.le_refl _) _).setCell (Nat.le_refl _) _)
  clear V1
  try have hzz := zero_same w (Try.zeroValue25 w)
  go_enter Try.func4, Try.ntmps4
  go_wp2_with (first
    | (refine wpList_store_row rfl 25 (.tmp 5) (.tmp 13) rfl w.heap.size _ rfl rfl 25 _ N0.out (info_V _ _ _) (by rw [rowV_size, rowV_size]) (rowV_one _ _ _) ?_))
  obtain ⟨wb, hwb⟩ : ∃ wb, wb = ((((w.alloc (.cells zeroC 25)).setRow w.heap.size (rowV 128 0 (fun _ => 0))).setCell ⟨w.heap.size, 3, none⟩ (.int .i64 p)).setCell ⟨w.heap.size, 4, none⟩ (.int .i64 q)) := ⟨_, rfl⟩
  rw [← hwb] at V2 B2 ⊢
  clear hwb c3 c4 z3 z4 hb N0
  generalize (upd (upd (fun _ => 0) 1 p) 2 q) = F at *
  haveI := kept_some wb
  refine wp_region_kept (by kernel_rfl) (by kernel_rfl) ?_
  repeat (first
    | (refine wpQuiet_row rfl 25 (.tmp 5) rfl w.heap.size rfl 25 _ (0, 0) _ (fun w' ⟨x, hx⟩ => by rw [hx]; exact (x.block _ V2.out.lt).trans V2.out) Try.underlying25 rfl (info_V _ _ _) ?_; simp only [Act.put, List.setIfInBounds_toArray, List.set_cons_succ, List.set_cons_zero])
    | go_big_quiet_step ((go_at_call 9; exact kept_call (C1.out _ _))))
  refine wpQuiet_nil ?_
  rintro _ ⟨wk, rfl⟩
  have V3 := V2.out.next wk.below
  have c5 := show wk.val.cell? ⟨w.heap.size, 5, none⟩ = some (.int .i64 (F 3)) from V3.at 3 (by decide)
  have z5 := V3.frozen 5
  have V4 := hide (show HasV 25 (wk.val.setCell ⟨w.heap.size, 5, none⟩ (.int .i64 511)) w.heap.size 128 0 (upd F 3 511) from V3.set 3 511)
  have B4 := hide ((bnext B2.out wk.below).setCell (p := ⟨w.heap.size, 5, none⟩) (Nat.le_refl _) (.int .i64 511))
  clear V2 B2 V3 C1
  generalize wk.val = w4 at *
  go_wp2_with (first
    | (refine wpList_load_want rfl 25 (.tmp 5) rfl w.heap.size rfl 25 _ (0, 0) _ V4.out Try.underlying25 rfl (info_V _ _ _) ?_))
  refine (C2.out _ _).mono ?_
  rintro e w5 ⟨rfl, b5⟩
  have V5 := hide (V4.out.next b5)
  have B5 := hide (bnext B4.out b5)
  clear b5 V4 B4 c5 z5
  go_wp2_with (first
    | (refine wpList_load_want rfl 25 (.tmp 5) rfl w.heap.size rfl 25 _ (0, 0) _ V5.out Try.underlying25 rfl (info_V _ _ _) ?_))
  refine (C2.out _ _).mono ?_
  rintro e w6 ⟨rfl, b6⟩
  have B6 := hide (bnext B5.out b6)
  clear b6 V5 B5 C2
  set_option maxRecDepth 20000 in go_wp2_with fail
  go_ret
  exact ⟨rfl, B6.out⟩
theorem grey_not3 (a b p q x y : Int) (w : World) (ea : bits .and .i64 a 511 = p) (eb : bits .and .i64 b 511 = q) (p0 : 0 ≤ p) (p1 : p < 512) (q0 : 0 ≤ q) (q1 : q < 512) (G G2 : Int → Int) (g1 : G 1 = x) (g2 : G 2 = y) (g3 : G2 3 = 511) (g0 : G2 0 = 0) (x0 : 0 ≤ x) (x1 : x ≤ 511) (y0 : 0 ≤ y) (y1 : y ≤ 511) (x7 : x % 73 = 0) (y7 : y % 73 = 0) (C1 : Hid (∀ k w, Calls Try.prog 9 #[.agg (rowV 128 0 (upd (upd (fun _ => 0) 1 p) 2 q)), .int .i64 k] w fun e w' => e = .returned (.int .i64 (G k)) ∧ Below w.heap.size w w')) (C2 : Hid (∀ k w, Calls Try.prog 9 #[.agg (rowV 128 0 (upd (upd (upd (fun _ => 0) 1 p) 2 q) 3 511)), .int .i64 k] w fun e w' => e = .returned (.int .i64 (G2 k)) ∧ Below w.heap.size w w')) (h1 : p / 64 ≤ q / 64) (h2 : p / 8 % 8 ≤ q / 8 % 8) (h3 : q % 8 < p % 8) : Calls Try.prog 4 #[.int .i64 a, .int .i64 b] w fun e w' => e = .returned (.bool true) ∧ Below w.heap.size w w' := by
  have N0 := hide (show HasV 25 (w.alloc (.cells zeroC 25)) w.heap.size 0 0 (fun _ => 0) by rw [zero_V]; exact hasV_new 25 w 0 0 (fun _ => 0))
  have hb := built_1 128
  have u1 := and_7 (p / 8)
  have u2 := and_7 (q / 8)
  have u3 := and_7 p
  have u4 := and_7 q
  have V1 := (show HasV 25 ((w.alloc (.cells zeroC 25)).setRow w.heap.size (rowV 128 0 (fun _ => 0))) w.heap.size 128 0 (fun _ => 0) from setRow_heap _ _ _ _ _ _ N0.out)
  have c3 := show ((w.alloc (.cells zeroC 25)).setRow w.heap.size (rowV 128 0 (fun _ => 0))).cell? ⟨w.heap.size, 3, none⟩ = some (.int .i64 0) from V1.at 1 (by decide)
  have c4 := show (((w.alloc (.cells zeroC 25)).setRow w.heap.size (rowV 128 0 (fun _ => 0))).setCell ⟨w.heap.size, 3, none⟩ (.int .i64 p)).cell? ⟨w.heap.size, 4, none⟩ = some (.int .i64 0) from (V1.set 1 p).at 2 (by decide)
  have z3 := V1.frozen 3
  have z4 := V1.frozen 4
  have V2 := hide (show HasV 25 ((((w.alloc (.cells zeroC 25)).setRow w.heap.size (rowV 128 0 (fun _ => 0))).setCell ⟨w.heap.size, 3, none⟩ (.int .i64 p)).setCell ⟨w.heap.size, 4, none⟩ (.int .i64 q)) w.heap.size 128 0 (upd (upd (fun _ => 0) 1 p) 2 q) from (V1.set 1 p).set 2 q)
  have B2 := hide (show Below w.heap.size w ((((w.alloc (.cells zeroC 25)).setRow w.heap.size (rowV 128 0 (fun _ => 0))).setCell ⟨w.heap.size, 3, none⟩ (.int .i64 p)).setCell ⟨w.heap.size, 4, none⟩ (.int .i64 q)) from ((below_setRow ((Below.refl _ w).alloc (Nat.le_refl _) _) (Nat.le_refl _) _).setCell (Nat.le_refl _) _).setCell (Nat.le_refl _) _)
  clear V1
  try have hzz := zero_same w (Try.zeroValue25 w)
  go_enter Try.func4, Try.ntmps4
  go_wp2_with (first
    | (refine wpList_store_row rfl 25 (.tmp 5) (.tmp 13) rfl w.heap.size _ rfl rfl 25 _ N0.out (info_V _ _ _) (by rw [rowV_size, rowV_size]) (rowV_one _ _ _) ?_))
  obtain ⟨wb, hwb⟩ : ∃ wb, wb = ((((w.alloc (.cells zeroC 25)).setRow w.heap.size (rowV 128 0 (fun _ => 0))).setCell ⟨w.heap.size, 3, none⟩ (.int .i64 p)).setCell ⟨w.heap.size, 4, none⟩ (.int .i64 q)) := ⟨_, rfl⟩
  rw [← hwb] at V2 B2 ⊢
  clear hwb c3 c4 z3 z4 hb N0
  generalize (upd (upd (fun _ => 0) 1 p) 2 q) = F at *
  haveI := kept_some wb
  refine wp_region_kept (by kernel_rfl) (by kernel_rfl) ?_
  repeat (first
    | (refine wpQuiet_row rfl 25 (.tmp 5) rfl w.heap.size rfl 25 _ (0, 0) _ (fun w' ⟨x, hx⟩ => by rw [hx]; exact (x.block _ V2.out.lt).trans V2.out) Try.underlying25 rfl (info_V _ _ _) ?_; simp only [Act.put, List.setIfInBounds_toArray, List.set_cons_succ, List.set_cons_zero])
    | go_big_quiet_step ((go_at_call 9; exact kept_call (C1.out _ _))))
  refine wpQuiet_nil ?_
  rintro _ ⟨wk, rfl⟩
  have V3 := V2.out.next wk.below
  have c5 := show wk.val.cell? ⟨w.heap.size, 5, none⟩ = some (.int .i64 (F 3)) from V3.at 3 (by decide)
  have z5 := V3.frozen 5
  have V4 := hide (show HasV 25 (wk.val.setCell ⟨w.heap.size, 5, none⟩ (.int .i64 511)) w.heap.size 128 0 (upd F 3 511) from V3.set 3 511)
  have B4 := hide ((bnext B2.out wk.below).setCell (p := ⟨w.heap.size, 5, none⟩) (Nat.le_refl _) (.int .i64 511))
  clear V2 B2 V3 C1
  generalize wk.val = w4 at *
  go_wp2_with (first
    | (refine wpList_load_want rfl 25 (.tmp 5) rfl w.heap.size rfl 25 _ (0, 0) _ V4.out Try.underlying25 rfl (info_V _ _ _) ?_))
  refine (C2.out _ _).mono ?_
  rintro e w5 ⟨rfl, b5⟩
  have V5 := hide (V4.out.next b5)
  have B5 := hide (bnext B4.out b5)
  clear b5 V4 B4 c5 z5
  go_wp2_with (first
    | (refine wpList_load_want rfl 25 (.tmp 5) rfl w.heap.size rfl 25 _ (0, 0) _ V5.out Try.underlying25 rfl (info_V _ _ _) ?_))
  refine (C2.out _ _).mono ?_
  rintro e w6 ⟨rfl, b6⟩
  have B6 := hide (bnext B5.out b6)
  clear b6 V5 B5 C2
  set_option maxRecDepth 20000 in go_wp2_with fail
  go_ret
  exact ⟨rfl, B6.out⟩
theorem vceGrey_by (K : ColourDoes) (a b : Int) (w : World) : Calls Try.prog 4 #[.int .i64 a, .int .i64 b] w fun e w' => e = .returned (.bool true) ∧ Below w.heap.size w w' := by
  have ea := and_511 a
  have eb := and_511 b
  obtain ⟨p, hp, p0, p1⟩ : ∃ p, a % 512 = p ∧ 0 ≤ p ∧ p < 512 := ⟨_, rfl, by omega, by omega⟩
  obtain ⟨q, hq, q0, q1⟩ : ∃ q, b % 512 = q ∧ 0 ≤ q ∧ q < 512 := ⟨_, rfl, by omega, by omega⟩
  rw [hp] at ea
  rw [hq] at eb
  have hg : (bitOf 128 7 == 1) = true := by decide +kernel
  have C1 := hide (fun k w => K 128 0 (upd (upd (fun _ => 0) 1 p) 2 q) k w)
  have C2 := hide (fun k w => K 128 0 (upd (upd (upd (fun _ => 0) 1 p) 2 q) 3 511) k w)
  rw [hg] at C1 C2
  have f1 : (upd (upd (fun _ => 0) 1 p) 2 q) ((1 : Int) % 512).toNat % 512 = p := by
    show p % 512 = p
    omega
  have f2 : (upd (upd (fun _ => 0) 1 p) 2 q) ((2 : Int) % 512).toNat % 512 = q := by
    show q % 512 = q
    omega
  have g1 : (fun k : Int => colOf ((upd (upd (fun _ => 0) 1 p) 2 q) (k % 512).toNat % 512) true) 1 = colOf p true := by
    show colOf ((upd (upd (fun _ => 0) 1 p) 2 q) ((1 : Int) % 512).toNat % 512) true = _
    rw [f1]
  have g2 : (fun k : Int => colOf ((upd (upd (fun _ => 0) 1 p) 2 q) (k % 512).toNat % 512) true) 2 = colOf q true := by
    show colOf ((upd (upd (fun _ => 0) 1 p) 2 q) ((2 : Int) % 512).toNat % 512) true = _
    rw [f2]
  have g3 : (fun k : Int => colOf (upd (upd (upd (fun _ => 0) 1 p) 2 q) 3 511 (k % 512).toNat % 512) true) 3 = 511 := rfl
  have g0 : (fun k : Int => colOf (upd (upd (upd (fun _ => 0) 1 p) 2 q) 3 511 (k % 512).toNat % 512) true) 0 = 0 := rfl
  have xp := grey_le p p0 p1
  have xq := grey_le q q0 q1
  have x7 : colOf p true % 73 = 0 := by rw [← Int.tmod_eq_emod_of_nonneg xp.1]; exact grey_73 p
  have y7 : colOf q true % 73 = 0 := by rw [← Int.tmod_eq_emod_of_nonneg xq.1]; exact grey_73 q
  by_cases h1 : p / 64 ≤ q / 64
  · by_cases h2 : p / 8 % 8 ≤ q / 8 % 8
    · by_cases h3 : p % 8 ≤ q % 8
      · exact grey_all a b p q _ _ w ea eb p0 p1 q0 q1 (fun k : Int => colOf ((upd (upd (fun _ => 0) 1 p) 2 q) (k % 512).toNat % 512) true) (fun k : Int => colOf (upd (upd (upd (fun _ => 0) 1 p) 2 q) 3 511 (k % 512).toNat % 512) true) g1 g2 g3 g0 xp.1 xp.2 xq.1 xq.2 x7 y7 C1 C2 h1 h2 h3 (grey_mono p q h1 h2 h3)
      · exact grey_not3 a b p q _ _ w ea eb p0 p1 q0 q1 (fun k : Int => colOf ((upd (upd (fun _ => 0) 1 p) 2 q) (k % 512).toNat % 512) true) (fun k : Int => colOf (upd (upd (upd (fun _ => 0) 1 p) 2 q) 3 511 (k % 512).toNat % 512) true) g1 g2 g3 g0 xp.1 xp.2 xq.1 xq.2 x7 y7 C1 C2 h1 h2 (by omega)
    · exact grey_not2 a b p q _ _ w ea eb p0 p1 q0 q1 (fun k : Int => colOf ((upd (upd (fun _ => 0) 1 p) 2 q) (k % 512).toNat % 512) true) (fun k : Int => colOf (upd (upd (upd (fun _ => 0) 1 p) 2 q) 3 511 (k % 512).toNat % 512) true) g1 g2 g3 g0 xp.1 xp.2 xq.1 xq.2 x7 y7 C1 C2 h1 (by omega)
  · exact grey_not1 a b p q _ _ w ea eb p0 p1 q0 q1 (fun k : Int => colOf ((upd (upd (fun _ => 0) 1 p) 2 q) (k % 512).toNat % 512) true) (fun k : Int => colOf (upd (upd (upd (fun _ => 0) 1 p) 2 q) 3 511 (k % 512).toNat % 512) true) g1 g2 g3 g0 xp.1 xp.2 xq.1 xq.2 x7 y7 C1 C2 (by omega)
end Go.Proofs.Ytlphndfkjmellaa
