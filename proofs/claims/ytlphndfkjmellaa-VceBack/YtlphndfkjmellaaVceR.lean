/- Package vce: the contracts of Read. -/
import Derived.Test.YtlphndfkjmellaaVceW
import Derived.Test.YtlphndfkjmellaaLastOp
namespace Go.Proofs.Ytlphndfkjmellaa
open Go.RowKit
set_option linter.unusedVariables false

theorem read_no (at_ : Int) (c a : Int) (f : Nat → Int) (i : Nat) (ha : a % 512 = (i : Int)) (h4 : ¬ at_ = 4) (h5 : ¬ at_ = 5) (w : World) : Calls Try.prog 8 #[.agg (rowV c a f), .int .i64 at_] w fun e w' => e = .returned (.tuple #[.int .i64 255, .agg (rowV c a f)]) ∧ Below w.heap.size w w' := by
  have hi : i < 512 := by omega
  have c1 := ((hasV_new 25 w c a f).alloc (.cells zeroC 25)).c1
  have ci := ((hasV_new 25 w c a f).alloc (.cells zeroC 25)).at i hi
  have z1 := ((hasV_new 25 w c a f).alloc (.cells zeroC 25)).frozen 1
  obtain ⟨wr, hwr⟩ : ∃ wr, wr = (w.alloc (.cells (rowV c a f) 25)).alloc (.cells zeroC 25) := ⟨_, rfl⟩
  rw [← hwr] at c1 ci z1
  have V0 := hide (show HasV 25 wr w.heap.size c a f by rw [hwr]; exact (hasV_new 25 w c a f).alloc _)
  have Z0 := hide (show HasV 25 wr (w.heap.size + 1) 0 0 (fun _ => 0) by rw [hwr, zero_V]; exact heap_alloc2_new _ _ _)
  have B0 := hide (show Below w.heap.size w wr by rw [hwr]; exact ((Below.refl _ w).alloc (Nat.le_refl _) _).alloc (by simp) _)
  have HW := hide hwr
  rw [hwr] at c1 ci z1
  clear hwr
  try have hzz := zero_same w (Try.zeroValue25 w)
  go_enter Try.func8, Try.ntmps8
  go_wp2_with fail
  rw [← HW.out] at c1 ci z1 ⊢
  clear HW
  go_wp2_with (first | (go_at_call 13; refine (nine_any _ _).mono ?_; rintro e w' ⟨rfl, hw⟩; subst w') | (go_at_call 17; refine (split_any _ _).mono ?_; rintro e w' ⟨rfl, hw⟩; subst w'))
  have V1 := V0
  have Z1 := Z0
  have B1 := B0
  clear V0 Z0 B0 c1 ci z1
  haveI := kept_some wr
  refine wp_region_kept_last _ _ (show _ = [_, _] ++ [_] from rfl) (by kernel_rfl) (by kernel_rfl) (by kernel_rfl) ?_
  repeat (first
    | (refine wpQuiet_row rfl 25 (.tmp 2) rfl w.heap.size rfl 25 _ (0, 0) _ (fun w' ⟨x, hx⟩ => by rw [hx]; exact (x.block _ V1.out.lt).trans V1.out) Try.underlying25 rfl (info_V _ _ _) ?_; simp only [Act.put, List.setIfInBounds_toArray, List.set_cons_succ, List.set_cons_zero])
    | go_big_quiet_step ((first | (go_at_call 19; exact kept_same (bit_any _ _ _)) | (go_at_call 18; exact kept_call (put_any _ _ _ _)))))
  refine wpQuiet_nil ?_
  rintro _ ⟨wk, rfl⟩
  have Z2 := hide (Z1.out.next wk.below)
  have B2 := hide (bnext B1.out wk.below)
  go_wp2_with (first
    | (refine wpList_store_row rfl 25 (.tmp 5) (.tmp 36) rfl (w.heap.size + 1) _ rfl rfl 25 _ Z2.out (info_V _ _ _) (by rw [rowV_size, rowV_size]) (rowV_one _ _ _) ?_)
    | (refine bodyPost_ret (results_tmp_agg rfl _ _ (w.heap.size + 1) 25 _ (0, 0) _ rfl (setRow_heap _ _ _ _ _ _ Z2.out) Try.underlying25 rfl (info_V _ _ _)) rfl ⟨rfl, below_setRow B2.out (Nat.le_succ _) _⟩))
theorem read_4 (c a : Int) (f : Nat → Int) (i : Nat) (ha : a % 512 = (i : Int)) (w : World) : Calls Try.prog 8 #[.agg (rowV c a f), .int .i64 4] w fun e w' => e = .returned (.tuple #[.int .i64 (f i % 256), .agg (rowV c a f)]) ∧ Below w.heap.size w w' := by
  have hi : i < 512 := by omega
  have c1 := ((hasV_new 25 w c a f).alloc (.cells zeroC 25)).c1
  have ci := ((hasV_new 25 w c a f).alloc (.cells zeroC 25)).at i hi
  have z1 := ((hasV_new 25 w c a f).alloc (.cells zeroC 25)).frozen 1
  obtain ⟨wr, hwr⟩ : ∃ wr, wr = (w.alloc (.cells (rowV c a f) 25)).alloc (.cells zeroC 25) := ⟨_, rfl⟩
  rw [← hwr] at c1 ci z1
  have V0 := hide (show HasV 25 wr w.heap.size c a f by rw [hwr]; exact (hasV_new 25 w c a f).alloc _)
  have Z0 := hide (show HasV 25 wr (w.heap.size + 1) 0 0 (fun _ => 0) by rw [hwr, zero_V]; exact heap_alloc2_new _ _ _)
  have B0 := hide (show Below w.heap.size w wr by rw [hwr]; exact ((Below.refl _ w).alloc (Nat.le_refl _) _).alloc (by simp) _)
  have HW := hide hwr
  rw [hwr] at c1 ci z1
  clear hwr
  try have hzz := zero_same w (Try.zeroValue25 w)
  go_enter Try.func8, Try.ntmps8
  go_wp2_with fail
  rw [← HW.out] at c1 ci z1 ⊢
  clear HW
  go_wp2_with (first | (go_at_call 13; refine (nine_any _ _).mono ?_; rintro e w' ⟨rfl, hw⟩; subst w') | (go_at_call 17; refine (split_any _ _).mono ?_; rintro e w' ⟨rfl, hw⟩; subst w'))
  have V1 := V0
  have Z1 := Z0
  have B1 := B0
  clear V0 Z0 B0 c1 ci z1
  haveI := kept_some wr
  refine wp_region_kept_last _ _ (show _ = [_, _, _] ++ [_] from rfl) (by kernel_rfl) (by kernel_rfl) (by kernel_rfl) ?_
  repeat (first
    | (refine wpQuiet_row rfl 25 (.tmp 2) rfl w.heap.size rfl 25 _ (0, 0) _ (fun w' ⟨x, hx⟩ => by rw [hx]; exact (x.block _ V1.out.lt).trans V1.out) Try.underlying25 rfl (info_V _ _ _) ?_; simp only [Act.put, List.setIfInBounds_toArray, List.set_cons_succ, List.set_cons_zero])
    | go_big_quiet_step ((first | (go_at_call 19; exact kept_same (bit_any _ _ _)) | (go_at_call 18; exact kept_call (put_any _ _ _ _)))))
  refine wpQuiet_nil ?_
  rintro _ ⟨wk, rfl⟩
  have Z2 := hide (Z1.out.next wk.below)
  have B2 := hide (bnext B1.out wk.below)
  go_wp2_with (first
    | (refine wpList_store_row rfl 25 (.tmp 5) (.tmp 24) rfl (w.heap.size + 1) _ rfl rfl 25 _ Z2.out (info_V _ _ _) (by rw [rowV_size, rowV_size]) (rowV_one _ _ _) ?_)
    | (refine bodyPost_ret (results_tmp_agg rfl _ _ (w.heap.size + 1) 25 _ (0, 0) _ rfl (setRow_heap _ _ _ _ _ _ Z2.out) Try.underlying25 rfl (info_V _ _ _)) rfl ⟨rfl, below_setRow B2.out (Nat.le_succ _) _⟩))
theorem read_5_0 (c a : Int) (f : Nat → Int) (i : Nat) (ha : a % 512 = (i : Int)) (n : Int) (hn : ((i : Int) + 1) % 512 = n) (h9 : f i % 512 / 256 = 0) (w : World) : Calls Try.prog 8 #[.agg (rowV c a f), .int .i64 5] w fun e w' => e = .returned (.tuple #[.int .i64 254, .agg (rowV c n f)]) ∧ Below w.heap.size w w' := by
  have hi : i < 512 := by omega
  have h0 := bit_0 (f i / 256 % 256)
  have hb : f i / 256 % 256 % 2 = 0 := by omega
  have hp : putOf 255 0 false = 254 + 0 := by decide +kernel
  rw [hb] at h0
  clear hb
  have c1 := ((hasV_new 25 w c a f).alloc (.cells zeroC 25)).c1
  have ci := ((hasV_new 25 w c a f).alloc (.cells zeroC 25)).at i hi
  have z1 := ((hasV_new 25 w c a f).alloc (.cells zeroC 25)).frozen 1
  obtain ⟨wr, hwr⟩ : ∃ wr, wr = (w.alloc (.cells (rowV c a f) 25)).alloc (.cells zeroC 25) := ⟨_, rfl⟩
  rw [← hwr] at c1 ci z1
  have V0 := hide (show HasV 25 wr w.heap.size c a f by rw [hwr]; exact (hasV_new 25 w c a f).alloc _)
  have Z0 := hide (show HasV 25 wr (w.heap.size + 1) 0 0 (fun _ => 0) by rw [hwr, zero_V]; exact heap_alloc2_new _ _ _)
  have B0 := hide (show Below w.heap.size w wr by rw [hwr]; exact ((Below.refl _ w).alloc (Nat.le_refl _) _).alloc (by simp) _)
  have HW := hide hwr
  rw [hwr] at c1 ci z1
  clear hwr
  try have hzz := zero_same w (Try.zeroValue25 w)
  go_enter Try.func8, Try.ntmps8
  go_wp2_with fail
  rw [← HW.out] at c1 ci z1 ⊢
  clear HW
  go_wp2_with (first | (go_at_call 13; refine (nine_any _ _).mono ?_; rintro e w' ⟨rfl, hw⟩; subst w') | (go_at_call 17; refine (split_any _ _).mono ?_; rintro e w' ⟨rfl, hw⟩; subst w'))
  obtain ⟨ws, hws⟩ : ∃ ws, ws = wr.setCell ⟨w.heap.size, 1, none⟩ (.int .i64 n) := ⟨_, rfl⟩
  have V1 := hide (show HasV 25 ws w.heap.size c n f by rw [hws]; exact V0.out.set1 _)
  have Z1 := hide (show HasV 25 ws (w.heap.size + 1) 0 0 (fun _ => 0) by rw [hws]; exact Z0.out.other ⟨w.heap.size, 1, none⟩ (.int .i64 n) (by simp))
  have B1 := hide (show Below w.heap.size w ws by rw [hws]; exact B0.out.setCell (p := ⟨w.heap.size, 1, none⟩) (Nat.le_refl _) (.int .i64 n))
  clear V0 Z0 B0 c1 ci z1
  rw [← hws]
  clear hws
  haveI := kept_some ws
  refine wp_region_kept_last _ _ (show _ = [_, _, _, _, _, _] ++ [_] from rfl) (by kernel_rfl) (by kernel_rfl) (by kernel_rfl) ?_
  repeat (first
    | (refine wpQuiet_row rfl 25 (.tmp 2) rfl w.heap.size rfl 25 _ (0, 0) _ (fun w' ⟨x, hx⟩ => by rw [hx]; exact (x.block _ V1.out.lt).trans V1.out) Try.underlying25 rfl (info_V _ _ _) ?_; simp only [Act.put, List.setIfInBounds_toArray, List.set_cons_succ, List.set_cons_zero])
    | go_big_quiet_step ((first | (go_at_call 19; exact kept_same (bit_any _ _ _)) | (go_at_call 18; exact kept_call (put_any _ _ _ _)))))
  refine wpQuiet_nil ?_
  rintro _ ⟨wk, rfl⟩
  have Z2 := hide (Z1.out.next wk.below)
  have B2 := hide (bnext B1.out wk.below)
  go_wp2_with (first
    | (refine wpList_store_row rfl 25 (.tmp 5) (.tmp 35) rfl (w.heap.size + 1) _ rfl rfl 25 _ Z2.out (info_V _ _ _) (by rw [rowV_size, rowV_size]) (rowV_one _ _ _) ?_)
    | (refine bodyPost_ret (results_tmp_agg rfl _ _ (w.heap.size + 1) 25 _ (0, 0) _ rfl (setRow_heap _ _ _ _ _ _ Z2.out) Try.underlying25 rfl (info_V _ _ _)) rfl ⟨rfl, below_setRow B2.out (Nat.le_succ _) _⟩))
theorem read_5_1 (c a : Int) (f : Nat → Int) (i : Nat) (ha : a % 512 = (i : Int)) (n : Int) (hn : ((i : Int) + 1) % 512 = n) (h9 : f i % 512 / 256 = 1) (w : World) : Calls Try.prog 8 #[.agg (rowV c a f), .int .i64 5] w fun e w' => e = .returned (.tuple #[.int .i64 255, .agg (rowV c n f)]) ∧ Below w.heap.size w w' := by
  have hi : i < 512 := by omega
  have h0 := bit_0 (f i / 256 % 256)
  have hb : f i / 256 % 256 % 2 = 1 := by omega
  have hp : putOf 255 0 true = 254 + 1 := by decide +kernel
  rw [hb] at h0
  clear hb
  have c1 := ((hasV_new 25 w c a f).alloc (.cells zeroC 25)).c1
  have ci := ((hasV_new 25 w c a f).alloc (.cells zeroC 25)).at i hi
  have z1 := ((hasV_new 25 w c a f).alloc (.cells zeroC 25)).frozen 1
  obtain ⟨wr, hwr⟩ : ∃ wr, wr = (w.alloc (.cells (rowV c a f) 25)).alloc (.cells zeroC 25) := ⟨_, rfl⟩
  rw [← hwr] at c1 ci z1
  have V0 := hide (show HasV 25 wr w.heap.size c a f by rw [hwr]; exact (hasV_new 25 w c a f).alloc _)
  have Z0 := hide (show HasV 25 wr (w.heap.size + 1) 0 0 (fun _ => 0) by rw [hwr, zero_V]; exact heap_alloc2_new _ _ _)
  have B0 := hide (show Below w.heap.size w wr by rw [hwr]; exact ((Below.refl _ w).alloc (Nat.le_refl _) _).alloc (by simp) _)
  have HW := hide hwr
  rw [hwr] at c1 ci z1
  clear hwr
  try have hzz := zero_same w (Try.zeroValue25 w)
  go_enter Try.func8, Try.ntmps8
  go_wp2_with fail
  rw [← HW.out] at c1 ci z1 ⊢
  clear HW
  go_wp2_with (first | (go_at_call 13; refine (nine_any _ _).mono ?_; rintro e w' ⟨rfl, hw⟩; subst w') | (go_at_call 17; refine (split_any _ _).mono ?_; rintro e w' ⟨rfl, hw⟩; subst w'))
  obtain ⟨ws, hws⟩ : ∃ ws, ws = wr.setCell ⟨w.heap.size, 1, none⟩ (.int .i64 n) := ⟨_, rfl⟩
  have V1 := hide (show HasV 25 ws w.heap.size c n f by rw [hws]; exact V0.out.set1 _)
  have Z1 := hide (show HasV 25 ws (w.heap.size + 1) 0 0 (fun _ => 0) by rw [hws]; exact Z0.out.other ⟨w.heap.size, 1, none⟩ (.int .i64 n) (by simp))
  have B1 := hide (show Below w.heap.size w ws by rw [hws]; exact B0.out.setCell (p := ⟨w.heap.size, 1, none⟩) (Nat.le_refl _) (.int .i64 n))
  clear V0 Z0 B0 c1 ci z1
  rw [← hws]
  clear hws
  haveI := kept_some ws
  refine wp_region_kept_last _ _ (show _ = [_, _, _, _, _, _] ++ [_] from rfl) (by kernel_rfl) (by kernel_rfl) (by kernel_rfl) ?_
  repeat (first
    | (refine wpQuiet_row rfl 25 (.tmp 2) rfl w.heap.size rfl 25 _ (0, 0) _ (fun w' ⟨x, hx⟩ => by rw [hx]; exact (x.block _ V1.out.lt).trans V1.out) Try.underlying25 rfl (info_V _ _ _) ?_; simp only [Act.put, List.setIfInBounds_toArray, List.set_cons_succ, List.set_cons_zero])
    | go_big_quiet_step ((first | (go_at_call 19; exact kept_same (bit_any _ _ _)) | (go_at_call 18; exact kept_call (put_any _ _ _ _)))))
  refine wpQuiet_nil ?_
  rintro _ ⟨wk, rfl⟩
  have Z2 := hide (Z1.out.next wk.below)
  have B2 := hide (bnext B1.out wk.below)
  go_wp2_with (first
    | (refine wpList_store_row rfl 25 (.tmp 5) (.tmp 35) rfl (w.heap.size + 1) _ rfl rfl 25 _ Z2.out (info_V _ _ _) (by rw [rowV_size, rowV_size]) (rowV_one _ _ _) ?_)
    | (refine bodyPost_ret (results_tmp_agg rfl _ _ (w.heap.size + 1) 25 _ (0, 0) _ rfl (setRow_heap _ _ _ _ _ _ Z2.out) Try.underlying25 rfl (info_V _ _ _)) rfl ⟨rfl, below_setRow B2.out (Nat.le_succ _) _⟩))
theorem read_5 (c a : Int) (f : Nat → Int) (i : Nat) (ha : a % 512 = (i : Int)) (n : Int) (hn : ((i : Int) + 1) % 512 = n) (w : World) : Calls Try.prog 8 #[.agg (rowV c a f), .int .i64 5] w fun e w' => e = .returned (.tuple #[.int .i64 (254 + f i % 512 / 256), .agg (rowV c n f)]) ∧ Below w.heap.size w w' := by
  have h : f i % 512 / 256 = 0 ∨ f i % 512 / 256 = 1 := by omega
  rcases h with h | h
  · rw [h]
    exact read_5_0 c a f i ha n hn h w
  · rw [h]
    exact read_5_1 c a f i ha n hn h w
end Go.Proofs.Ytlphndfkjmellaa
