/- Package vce: the contracts of withLow, withHigh, Write. -/
import Derived.Test.YtlphndfkjmellaaVce12
namespace Go.Proofs.Ytlphndfkjmellaa
open Go.RowKit
set_option linter.unusedVariables false

theorem bit_8 (n : Int) : bitOf n 8 = n % 512 / 256 := by
  rw [bitOf_in n 8 (by decide) (by decide)]
  show n % 65536 / 256 % 2 = n % 512 / 256
  omega
theorem bit_0 (n : Int) : bitOf n 0 = n % 2 := by
  rw [bitOf_in n 0 (by decide) (by decide)]
  show n % 65536 / 1 % 2 = n % 2
  omega
theorem withLow_is (n b x : Int) (hx : b % 256 + 256 * (n % 512 / 256) = x) (w : World) : Calls Try.prog 15 #[.int .i64 n, .int .i64 b] w fun e w' => e = .returned (.int .i64 x) ∧ Below w.heap.size w w' := by
  have h8 := bit_8 n
  go_enter Try.func15, Try.ntmps15
  go_wp2_with (first | (go_at_call 19; refine (bit_any _ _ _).mono ?_; rintro e w' ⟨rfl, rfl⟩) | (go_at_call 21; refine (join_any _ _ _).mono ?_; rintro e w' ⟨rfl, bw⟩))
  go_ret
  exact ⟨ret_int (by omega), bw⟩
theorem withHigh_is (n b x : Int) (hx : n % 256 + 256 * (b % 2) = x) (w : World) : Calls Try.prog 16 #[.int .i64 n, .int .i64 b] w fun e w' => e = .returned (.int .i64 x) ∧ Below w.heap.size w w' := by
  have h0 := bit_0 b
  go_enter Try.func16, Try.ntmps16
  go_wp2_with (first | (go_at_call 19; refine (bit_any _ _ _).mono ?_; rintro e w' ⟨rfl, rfl⟩) | (go_at_call 21; refine (join_any _ _ _).mono ?_; rintro e w' ⟨rfl, bw⟩))
  go_ret
  exact ⟨ret_int (by omega), bw⟩
theorem write_0 (c a b x : Int) (f : Nat → Int) (i : Nat) (ha : a % 512 = (i : Int)) (hx : b % 256 = x) (w : World) : Calls Try.prog 7 #[.agg (rowV c a f), .int .i64 0, .int .i64 b] w fun e w' => e = .returned (.agg (rowV x a f)) ∧ Below w.heap.size w w' := by
  have hi : i < 512 := by omega
  have c1 := ((hasV_new 25 w c a f).alloc (.cells zeroC 25)).c1
  try have hzz := zero_same w (Try.zeroValue25 w)
  go_enter Try.func7, Try.ntmps7
  go_wp2_with fail
  obtain ⟨wr, hwr⟩ : ∃ wr, wr = (w.alloc (.cells (rowV c a f) 25)).alloc (.cells zeroC 25) := ⟨_, rfl⟩
  rw [← hwr] at c1 ⊢
  have V0 := hide (show HasV 25 wr w.heap.size c a f by rw [hwr]; exact (hasV_new 25 w c a f).alloc _)
  have Z0 := hide (show HasV 25 wr (w.heap.size + 1) 0 0 (fun _ => 0) by rw [hwr, zero_V]; exact heap_alloc2_new _ _ _)
  have B0 := hide (show Below w.heap.size w wr by rw [hwr]; exact ((Below.refl _ w).alloc (Nat.le_refl _) _).alloc (by simp) _)
  clear hwr
  have c0 := V0.out.c0
  have ci := V0.out.at i hi
  have z0 := V0.out.frozen 0
  have z1 := V0.out.frozen 1
  have zi := V0.out.frozen (2 + i)
  have V1 := hide (V0.out.set0 x)
  have Z1 := hide (Z0.out.other ⟨w.heap.size, 0, none⟩ (.int .i64 x) (by simp))
  have B1 := hide (B0.out.setCell (p := ⟨w.heap.size, 0, none⟩) (Nat.le_refl _) (.int .i64 x))
  clear V0 Z0 B0
  go_wp2_with (first
    | (go_at_call 14; refine (byte_any _ _).mono ?_; rintro e w' ⟨rfl, hw⟩; subst w')
    | (go_at_call 13; refine (nine_any _ _).mono ?_; rintro e w' ⟨rfl, hw⟩; subst w')
    | (refine wpList_load_row rfl 25 (.tmp 3) rfl w.heap.size rfl 25 _ (0, 0) _ V1.out Try.underlying25 rfl (info_V _ _ _) ?_)
    | (refine wpList_store_row rfl 25 (.tmp 6) (.tmp 57) rfl (w.heap.size + 1) _ rfl rfl 25 _ Z1.out (info_V _ _ _) (by rw [rowV_size, rowV_size]) (rowV_one _ _ _) ?_)
    | (refine bodyPost_ret (results_cell_row rfl _ _ (w.heap.size + 1) 25 _ (0, 0) _ rfl (setRow_heap _ _ _ _ _ _ Z1.out) Try.underlying25 rfl (info_V _ _ _)) rfl ⟨rfl, below_setRow B1.out (Nat.le_succ _) _⟩))
theorem write_2 (c a b x : Int) (f : Nat → Int) (i : Nat) (ha : a % 512 = (i : Int)) (hx : b % 256 + 256 * ((i : Int) % 512 / 256) = x) (w : World) : Calls Try.prog 7 #[.agg (rowV c a f), .int .i64 2, .int .i64 b] w fun e w' => e = .returned (.agg (rowV c x f)) ∧ Below w.heap.size w w' := by
  have hi : i < 512 := by omega
  have HX := hide hx
  clear hx
  have c1 := ((hasV_new 25 w c a f).alloc (.cells zeroC 25)).c1
  try have hzz := zero_same w (Try.zeroValue25 w)
  go_enter Try.func7, Try.ntmps7
  go_wp2_with fail
  obtain ⟨wr, hwr⟩ : ∃ wr, wr = (w.alloc (.cells (rowV c a f) 25)).alloc (.cells zeroC 25) := ⟨_, rfl⟩
  rw [← hwr] at c1 ⊢
  have V0 := hide (show HasV 25 wr w.heap.size c a f by rw [hwr]; exact (hasV_new 25 w c a f).alloc _)
  have Z0 := hide (show HasV 25 wr (w.heap.size + 1) 0 0 (fun _ => 0) by rw [hwr, zero_V]; exact heap_alloc2_new _ _ _)
  have B0 := hide (show Below w.heap.size w wr by rw [hwr]; exact ((Below.refl _ w).alloc (Nat.le_refl _) _).alloc (by simp) _)
  clear hwr
  have c0 := V0.out.c0
  have ci := V0.out.at i hi
  have z0 := V0.out.frozen 0
  have z1 := V0.out.frozen 1
  have zi := V0.out.frozen (2 + i)
  go_wp2_with (first | (go_at_call 13; refine (nine_any _ _).mono ?_; rintro e w' ⟨rfl, hw⟩; subst w'))
  refine (withLow_is _ _ x HX.out _).mono ?_
  rintro e w1 ⟨rfl, b1⟩
  clear c0 c1 ci z0 z1 zi
  replace V0 := hide (V0.out.next b1)
  replace Z0 := hide (Z0.out.next b1)
  replace B0 := hide (bnext B0.out b1)
  clear b1
  have c0 := V0.out.c0
  have c1 := V0.out.c1
  have ci := V0.out.at i hi
  have z0 := V0.out.frozen 0
  have z1 := V0.out.frozen 1
  have zi := V0.out.frozen (2 + i)
  have V1 := hide (V0.out.set1 x)
  have Z1 := hide (Z0.out.other ⟨w.heap.size, 1, none⟩ (.int .i64 x) (by simp))
  have B1 := hide (B0.out.setCell (p := ⟨w.heap.size, 1, none⟩) (Nat.le_refl _) (.int .i64 x))
  clear V0 Z0 B0
  go_wp2_with (first
    | (go_at_call 14; refine (byte_any _ _).mono ?_; rintro e w' ⟨rfl, hw⟩; subst w')
    | (go_at_call 13; refine (nine_any _ _).mono ?_; rintro e w' ⟨rfl, hw⟩; subst w')
    | (refine wpList_load_row rfl 25 (.tmp 3) rfl w.heap.size rfl 25 _ (0, 0) _ V1.out Try.underlying25 rfl (info_V _ _ _) ?_)
    | (refine wpList_store_row rfl 25 (.tmp 6) (.tmp 57) rfl (w.heap.size + 1) _ rfl rfl 25 _ Z1.out (info_V _ _ _) (by rw [rowV_size, rowV_size]) (rowV_one _ _ _) ?_)
    | (refine bodyPost_ret (results_cell_row rfl _ _ (w.heap.size + 1) 25 _ (0, 0) _ rfl (setRow_heap _ _ _ _ _ _ Z1.out) Try.underlying25 rfl (info_V _ _ _)) rfl ⟨rfl, below_setRow B1.out (Nat.le_succ _) _⟩))
theorem write_3 (c a b x : Int) (f : Nat → Int) (i : Nat) (ha : a % 512 = (i : Int)) (hx : (i : Int) % 256 + 256 * (b % 2) = x) (w : World) : Calls Try.prog 7 #[.agg (rowV c a f), .int .i64 3, .int .i64 b] w fun e w' => e = .returned (.agg (rowV c x f)) ∧ Below w.heap.size w w' := by
  have hi : i < 512 := by omega
  have HX := hide hx
  clear hx
  have c1 := ((hasV_new 25 w c a f).alloc (.cells zeroC 25)).c1
  try have hzz := zero_same w (Try.zeroValue25 w)
  go_enter Try.func7, Try.ntmps7
  go_wp2_with fail
  obtain ⟨wr, hwr⟩ : ∃ wr, wr = (w.alloc (.cells (rowV c a f) 25)).alloc (.cells zeroC 25) := ⟨_, rfl⟩
  rw [← hwr] at c1 ⊢
  have V0 := hide (show HasV 25 wr w.heap.size c a f by rw [hwr]; exact (hasV_new 25 w c a f).alloc _)
  have Z0 := hide (show HasV 25 wr (w.heap.size + 1) 0 0 (fun _ => 0) by rw [hwr, zero_V]; exact heap_alloc2_new _ _ _)
  have B0 := hide (show Below w.heap.size w wr by rw [hwr]; exact ((Below.refl _ w).alloc (Nat.le_refl _) _).alloc (by simp) _)
  clear hwr
  have c0 := V0.out.c0
  have ci := V0.out.at i hi
  have z0 := V0.out.frozen 0
  have z1 := V0.out.frozen 1
  have zi := V0.out.frozen (2 + i)
  go_wp2_with (first | (go_at_call 13; refine (nine_any _ _).mono ?_; rintro e w' ⟨rfl, hw⟩; subst w'))
  refine (withHigh_is _ _ x HX.out _).mono ?_
  rintro e w1 ⟨rfl, b1⟩
  clear c0 c1 ci z0 z1 zi
  replace V0 := hide (V0.out.next b1)
  replace Z0 := hide (Z0.out.next b1)
  replace B0 := hide (bnext B0.out b1)
  clear b1
  have c0 := V0.out.c0
  have c1 := V0.out.c1
  have ci := V0.out.at i hi
  have z0 := V0.out.frozen 0
  have z1 := V0.out.frozen 1
  have zi := V0.out.frozen (2 + i)
  have V1 := hide (V0.out.set1 x)
  have Z1 := hide (Z0.out.other ⟨w.heap.size, 1, none⟩ (.int .i64 x) (by simp))
  have B1 := hide (B0.out.setCell (p := ⟨w.heap.size, 1, none⟩) (Nat.le_refl _) (.int .i64 x))
  clear V0 Z0 B0
  go_wp2_with (first
    | (go_at_call 14; refine (byte_any _ _).mono ?_; rintro e w' ⟨rfl, hw⟩; subst w')
    | (go_at_call 13; refine (nine_any _ _).mono ?_; rintro e w' ⟨rfl, hw⟩; subst w')
    | (refine wpList_load_row rfl 25 (.tmp 3) rfl w.heap.size rfl 25 _ (0, 0) _ V1.out Try.underlying25 rfl (info_V _ _ _) ?_)
    | (refine wpList_store_row rfl 25 (.tmp 6) (.tmp 57) rfl (w.heap.size + 1) _ rfl rfl 25 _ Z1.out (info_V _ _ _) (by rw [rowV_size, rowV_size]) (rowV_one _ _ _) ?_)
    | (refine bodyPost_ret (results_cell_row rfl _ _ (w.heap.size + 1) 25 _ (0, 0) _ rfl (setRow_heap _ _ _ _ _ _ Z1.out) Try.underlying25 rfl (info_V _ _ _)) rfl ⟨rfl, below_setRow B1.out (Nat.le_succ _) _⟩))
theorem write_4 (c a b x : Int) (f : Nat → Int) (i : Nat) (ha : a % 512 = (i : Int)) (hx : b % 256 + 256 * (f i % 512 / 256) = x) (w : World) : Calls Try.prog 7 #[.agg (rowV c a f), .int .i64 4, .int .i64 b] w fun e w' => e = .returned (.agg (rowV c (i : Int) (upd f i x))) ∧ Below w.heap.size w w' := by
  have hi : i < 512 := by omega
  have HX := hide hx
  clear hx
  have c1 := ((hasV_new 25 w c a f).alloc (.cells zeroC 25)).c1
  try have hzz := zero_same w (Try.zeroValue25 w)
  go_enter Try.func7, Try.ntmps7
  go_wp2_with fail
  obtain ⟨wr, hwr⟩ : ∃ wr, wr = (w.alloc (.cells (rowV c a f) 25)).alloc (.cells zeroC 25) := ⟨_, rfl⟩
  rw [← hwr] at c1 ⊢
  have V0 := hide (show HasV 25 wr w.heap.size c a f by rw [hwr]; exact (hasV_new 25 w c a f).alloc _)
  have Z0 := hide (show HasV 25 wr (w.heap.size + 1) 0 0 (fun _ => 0) by rw [hwr, zero_V]; exact heap_alloc2_new _ _ _)
  have B0 := hide (show Below w.heap.size w wr by rw [hwr]; exact ((Below.refl _ w).alloc (Nat.le_refl _) _).alloc (by simp) _)
  clear hwr
  have c0 := V0.out.c0
  have ci := V0.out.at i hi
  have z0 := V0.out.frozen 0
  have z1 := V0.out.frozen 1
  have zi := V0.out.frozen (2 + i)
  go_wp2_with (first | (go_at_call 13; refine (nine_any _ _).mono ?_; rintro e w' ⟨rfl, hw⟩; subst w'))
  refine (withLow_is _ _ x HX.out _).mono ?_
  rintro e w1 ⟨rfl, b1⟩
  clear c0 c1 ci z0 z1 zi
  replace V0 := hide (V0.out.next b1)
  replace Z0 := hide (Z0.out.next b1)
  replace B0 := hide (bnext B0.out b1)
  clear b1
  have c0 := V0.out.c0
  have c1 := V0.out.c1
  have ci := V0.out.at i hi
  have z0 := V0.out.frozen 0
  have z1 := V0.out.frozen 1
  have zi := V0.out.frozen (2 + i)
  have d1 := (V0.out.set i x).c1
  have V1 := hide ((V0.out.set i x).set1 (i : Int))
  have Z1 := hide ((Z0.out.other ⟨w.heap.size, 2 + i, none⟩ (.int .i64 x) (by simp)).other ⟨w.heap.size, 1, none⟩ (.int .i64 (i : Int)) (by simp))
  have B1 := hide ((B0.out.setCell (p := ⟨w.heap.size, 2 + i, none⟩) (Nat.le_refl _) (.int .i64 x)).setCell (p := ⟨w.heap.size, 1, none⟩) (Nat.le_refl _) (.int .i64 (i : Int)))
  clear V0 Z0 B0
  go_wp2_with (first
    | (go_at_call 14; refine (byte_any _ _).mono ?_; rintro e w' ⟨rfl, hw⟩; subst w')
    | (go_at_call 13; refine (nine_any _ _).mono ?_; rintro e w' ⟨rfl, hw⟩; subst w')
    | (refine wpList_load_row rfl 25 (.tmp 3) rfl w.heap.size rfl 25 _ (0, 0) _ V1.out Try.underlying25 rfl (info_V _ _ _) ?_)
    | (refine wpList_store_row rfl 25 (.tmp 6) (.tmp 57) rfl (w.heap.size + 1) _ rfl rfl 25 _ Z1.out (info_V _ _ _) (by rw [rowV_size, rowV_size]) (rowV_one _ _ _) ?_)
    | (refine bodyPost_ret (results_cell_row rfl _ _ (w.heap.size + 1) 25 _ (0, 0) _ rfl (setRow_heap _ _ _ _ _ _ Z1.out) Try.underlying25 rfl (info_V _ _ _)) rfl ⟨rfl, below_setRow B1.out (Nat.le_succ _) _⟩))
theorem write_5 (c a b x : Int) (f : Nat → Int) (i : Nat) (ha : a % 512 = (i : Int)) (n : Int) (hn : ((i : Int) + 1) % 512 = n) (hx : f i % 256 + 256 * (b % 2) = x) (w : World) : Calls Try.prog 7 #[.agg (rowV c a f), .int .i64 5, .int .i64 b] w fun e w' => e = .returned (.agg (rowV c n (upd f i x))) ∧ Below w.heap.size w w' := by
  have hi : i < 512 := by omega
  have HX := hide hx
  clear hx
  have c1 := ((hasV_new 25 w c a f).alloc (.cells zeroC 25)).c1
  try have hzz := zero_same w (Try.zeroValue25 w)
  go_enter Try.func7, Try.ntmps7
  go_wp2_with fail
  obtain ⟨wr, hwr⟩ : ∃ wr, wr = (w.alloc (.cells (rowV c a f) 25)).alloc (.cells zeroC 25) := ⟨_, rfl⟩
  rw [← hwr] at c1 ⊢
  have V0 := hide (show HasV 25 wr w.heap.size c a f by rw [hwr]; exact (hasV_new 25 w c a f).alloc _)
  have Z0 := hide (show HasV 25 wr (w.heap.size + 1) 0 0 (fun _ => 0) by rw [hwr, zero_V]; exact heap_alloc2_new _ _ _)
  have B0 := hide (show Below w.heap.size w wr by rw [hwr]; exact ((Below.refl _ w).alloc (Nat.le_refl _) _).alloc (by simp) _)
  clear hwr
  have c0 := V0.out.c0
  have ci := V0.out.at i hi
  have z0 := V0.out.frozen 0
  have z1 := V0.out.frozen 1
  have zi := V0.out.frozen (2 + i)
  go_wp2_with (first | (go_at_call 13; refine (nine_any _ _).mono ?_; rintro e w' ⟨rfl, hw⟩; subst w'))
  refine (withHigh_is _ _ x HX.out _).mono ?_
  rintro e w1 ⟨rfl, b1⟩
  clear c0 c1 ci z0 z1 zi
  replace V0 := hide (V0.out.next b1)
  replace Z0 := hide (Z0.out.next b1)
  replace B0 := hide (bnext B0.out b1)
  clear b1
  have c0 := V0.out.c0
  have c1 := V0.out.c1
  have ci := V0.out.at i hi
  have z0 := V0.out.frozen 0
  have z1 := V0.out.frozen 1
  have zi := V0.out.frozen (2 + i)
  have d1 := (V0.out.set i x).c1
  have V1 := hide ((V0.out.set i x).set1 n)
  have Z1 := hide ((Z0.out.other ⟨w.heap.size, 2 + i, none⟩ (.int .i64 x) (by simp)).other ⟨w.heap.size, 1, none⟩ (.int .i64 n) (by simp))
  have B1 := hide ((B0.out.setCell (p := ⟨w.heap.size, 2 + i, none⟩) (Nat.le_refl _) (.int .i64 x)).setCell (p := ⟨w.heap.size, 1, none⟩) (Nat.le_refl _) (.int .i64 n))
  clear V0 Z0 B0
  go_wp2_with (first
    | (go_at_call 14; refine (byte_any _ _).mono ?_; rintro e w' ⟨rfl, hw⟩; subst w')
    | (go_at_call 13; refine (nine_any _ _).mono ?_; rintro e w' ⟨rfl, hw⟩; subst w')
    | (refine wpList_load_row rfl 25 (.tmp 3) rfl w.heap.size rfl 25 _ (0, 0) _ V1.out Try.underlying25 rfl (info_V _ _ _) ?_)
    | (refine wpList_store_row rfl 25 (.tmp 6) (.tmp 57) rfl (w.heap.size + 1) _ rfl rfl 25 _ Z1.out (info_V _ _ _) (by rw [rowV_size, rowV_size]) (rowV_one _ _ _) ?_)
    | (refine bodyPost_ret (results_cell_row rfl _ _ (w.heap.size + 1) 25 _ (0, 0) _ rfl (setRow_heap _ _ _ _ _ _ Z1.out) Try.underlying25 rfl (info_V _ _ _)) rfl ⟨rfl, below_setRow B1.out (Nat.le_succ _) _⟩))
theorem write_no (at_ : Int) (c a b : Int) (f : Nat → Int) (i : Nat) (ha : a % 512 = (i : Int)) (h0 : ¬ at_ = 0) (h2 : ¬ at_ = 2) (h3 : ¬ at_ = 3) (h4 : ¬ at_ = 4) (h5 : ¬ at_ = 5) (w : World) : Calls Try.prog 7 #[.agg (rowV c a f), .int .i64 at_, .int .i64 b] w fun e w' => e = .returned (.agg (rowV c a f)) ∧ Below w.heap.size w w' := by
  have hi : i < 512 := by omega
  have c1 := ((hasV_new 25 w c a f).alloc (.cells zeroC 25)).c1
  try have hzz := zero_same w (Try.zeroValue25 w)
  go_enter Try.func7, Try.ntmps7
  go_wp2_with fail
  obtain ⟨wr, hwr⟩ : ∃ wr, wr = (w.alloc (.cells (rowV c a f) 25)).alloc (.cells zeroC 25) := ⟨_, rfl⟩
  rw [← hwr] at c1 ⊢
  have V0 := hide (show HasV 25 wr w.heap.size c a f by rw [hwr]; exact (hasV_new 25 w c a f).alloc _)
  have Z0 := hide (show HasV 25 wr (w.heap.size + 1) 0 0 (fun _ => 0) by rw [hwr, zero_V]; exact heap_alloc2_new _ _ _)
  have B0 := hide (show Below w.heap.size w wr by rw [hwr]; exact ((Below.refl _ w).alloc (Nat.le_refl _) _).alloc (by simp) _)
  clear hwr
  have c0 := V0.out.c0
  have ci := V0.out.at i hi
  have z0 := V0.out.frozen 0
  have z1 := V0.out.frozen 1
  have zi := V0.out.frozen (2 + i)
  have V1 := V0
  have Z1 := Z0
  have B1 := B0
  clear V0 Z0 B0
  go_wp2_with (first
    | (go_at_call 14; refine (byte_any _ _).mono ?_; rintro e w' ⟨rfl, hw⟩; subst w')
    | (go_at_call 13; refine (nine_any _ _).mono ?_; rintro e w' ⟨rfl, hw⟩; subst w')
    | (refine wpList_load_row rfl 25 (.tmp 3) rfl w.heap.size rfl 25 _ (0, 0) _ V1.out Try.underlying25 rfl (info_V _ _ _) ?_)
    | (refine wpList_store_row rfl 25 (.tmp 6) (.tmp 57) rfl (w.heap.size + 1) _ rfl rfl 25 _ Z1.out (info_V _ _ _) (by rw [rowV_size, rowV_size]) (rowV_one _ _ _) ?_)
    | (refine bodyPost_ret (results_cell_row rfl _ _ (w.heap.size + 1) 25 _ (0, 0) _ rfl (setRow_heap _ _ _ _ _ _ Z1.out) Try.underlying25 rfl (info_V _ _ _)) rfl ⟨rfl, below_setRow B1.out (Nat.le_succ _) _⟩))
end Go.Proofs.Ytlphndfkjmellaa
