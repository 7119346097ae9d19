/- Package regs: the contract of Write. -/
import Derived.Test.YtbgbedkmggefpaaDoorRegs15
namespace Go.Proofs.YtbgbedkmggefpaaDoor
open Go.RowKit
set_option linter.unusedVariables false

theorem and_31 (n : Int) : bits .and .i64 n 31 = n % 32 := and_mask 5 (by decide) n
theorem write_sel (s b x : Int) (f : Nat → Int) (hx : b % 32 = x) (w : World) : Calls Tryd.prog 7 #[.agg (rowG s f), .int .i64 0, .int .i64 b] w fun e w' => e = .returned (.tuple #[.agg (rowG x f), .int .i64 0]) ∧ Below w.heap.size w w' := by
  have e5 := and_31 b
  rw [hx] at e5
  clear hx
  have V0 := (hasG_new 24 w s f).alloc (.cells #[.int .i64 0, .int .i64 0, .int .i64 0, .int .i64 0, .int .i64 0, .int .i64 0, .int .i64 0, .int .i64 0, .int .i64 0, .int .i64 0, .int .i64 0, .int .i64 0, .int .i64 0, .int .i64 0, .int .i64 0, .int .i64 0, .int .i64 0, .int .i64 0, .int .i64 0, .int .i64 0, .int .i64 0] 24)
  have Z0 := heap_alloc2_new w (.cells (rowG s f) 24) (.cells #[.int .i64 0, .int .i64 0, .int .i64 0, .int .i64 0, .int .i64 0, .int .i64 0, .int .i64 0, .int .i64 0, .int .i64 0, .int .i64 0, .int .i64 0, .int .i64 0, .int .i64 0, .int .i64 0, .int .i64 0, .int .i64 0, .int .i64 0, .int .i64 0, .int .i64 0, .int .i64 0, .int .i64 0] 24)
  have B0 := ((Below.refl _ w).alloc (Nat.le_refl _) (.cells (rowG s f) 24)).alloc (by simp) (.cells #[.int .i64 0, .int .i64 0, .int .i64 0, .int .i64 0, .int .i64 0, .int .i64 0, .int .i64 0, .int .i64 0, .int .i64 0, .int .i64 0, .int .i64 0, .int .i64 0, .int .i64 0, .int .i64 0, .int .i64 0, .int .i64 0, .int .i64 0, .int .i64 0, .int .i64 0, .int .i64 0, .int .i64 0] 24)
  have c0 := V0.c0
  have z0 := V0.frozen 0
  clear V0 Z0 B0
  have hr := rowG_set0 s x f
  have V1 := hide ((hasG_new 24 w x f).alloc (.cells #[.int .i64 0, .int .i64 0, .int .i64 0, .int .i64 0, .int .i64 0, .int .i64 0, .int .i64 0, .int .i64 0, .int .i64 0, .int .i64 0, .int .i64 0, .int .i64 0, .int .i64 0, .int .i64 0, .int .i64 0, .int .i64 0, .int .i64 0, .int .i64 0, .int .i64 0, .int .i64 0, .int .i64 0] 24))
  have Z1 := hide (heap_alloc2_new w (.cells (rowG x f) 24) (.cells #[.int .i64 0, .int .i64 0, .int .i64 0, .int .i64 0, .int .i64 0, .int .i64 0, .int .i64 0, .int .i64 0, .int .i64 0, .int .i64 0, .int .i64 0, .int .i64 0, .int .i64 0, .int .i64 0, .int .i64 0, .int .i64 0, .int .i64 0, .int .i64 0, .int .i64 0, .int .i64 0, .int .i64 0] 24))
  have B1 := hide (((Below.refl _ w).alloc (Nat.le_refl _) (.cells (rowG x f) 24)).alloc (by simp) (.cells #[.int .i64 0, .int .i64 0, .int .i64 0, .int .i64 0, .int .i64 0, .int .i64 0, .int .i64 0, .int .i64 0, .int .i64 0, .int .i64 0, .int .i64 0, .int .i64 0, .int .i64 0, .int .i64 0, .int .i64 0, .int .i64 0, .int .i64 0, .int .i64 0, .int .i64 0, .int .i64 0, .int .i64 0] 24))
  go_enter Tryd.func7, Tryd.ntmps7
  go_wp2_with (first
    | (refine wpList_load_row rfl 24 (.tmp 3) rfl w.heap.size rfl 24 _ (0, 0) _ V1.out Tryd.underlying24 rfl (info_G _ _) ?_)
    | (refine wpList_store_row rfl 24 (.tmp 6) (.tmp 14) rfl (w.heap.size + 1) _ rfl rfl 24 _ Z1.out (info_G _ _) (by rw [rowG_size]; rfl) (rowG_one _ _) ?_)
    | (refine bodyPost_ret (results_agg_tmp rfl _ _ (w.heap.size + 1) 24 _ (0, 0) _ rfl (setRow_heap _ _ _ _ _ _ Z1.out) Tryd.underlying24 rfl (info_G _ _)) rfl ⟨rfl, below_setRow B1.out (Nat.le_succ _) _⟩))
theorem write_no (a s b : Int) (f : Nat → Int) (h : a ≠ 0 ∧ (a = 2 ∨ a = 3 → s < 0 ∨ 20 ≤ s)) (w : World) : Calls Tryd.prog 7 #[.agg (rowG s f), .int .i64 a, .int .i64 b] w fun e w' => e = .returned (.tuple #[.agg (rowG s f), .int .i64 0]) ∧ Below w.heap.size w w' := by
  obtain ⟨h0, hs⟩ := h
  by_cases h2 : a = 2
  · subst h2
    rcases hs (.inl rfl) with k | k
    · clear hs
      have V0 := (hasG_new 24 w s f).alloc (.cells #[.int .i64 0, .int .i64 0, .int .i64 0, .int .i64 0, .int .i64 0, .int .i64 0, .int .i64 0, .int .i64 0, .int .i64 0, .int .i64 0, .int .i64 0, .int .i64 0, .int .i64 0, .int .i64 0, .int .i64 0, .int .i64 0, .int .i64 0, .int .i64 0, .int .i64 0, .int .i64 0, .int .i64 0] 24)
      have Z0 := heap_alloc2_new w (.cells (rowG s f) 24) (.cells #[.int .i64 0, .int .i64 0, .int .i64 0, .int .i64 0, .int .i64 0, .int .i64 0, .int .i64 0, .int .i64 0, .int .i64 0, .int .i64 0, .int .i64 0, .int .i64 0, .int .i64 0, .int .i64 0, .int .i64 0, .int .i64 0, .int .i64 0, .int .i64 0, .int .i64 0, .int .i64 0, .int .i64 0] 24)
      have B0 := ((Below.refl _ w).alloc (Nat.le_refl _) (.cells (rowG s f) 24)).alloc (by simp) (.cells #[.int .i64 0, .int .i64 0, .int .i64 0, .int .i64 0, .int .i64 0, .int .i64 0, .int .i64 0, .int .i64 0, .int .i64 0, .int .i64 0, .int .i64 0, .int .i64 0, .int .i64 0, .int .i64 0, .int .i64 0, .int .i64 0, .int .i64 0, .int .i64 0, .int .i64 0, .int .i64 0, .int .i64 0] 24)
      have c0 := V0.c0
      have z0 := V0.frozen 0
      have V1 := hide V0
      have Z1 := hide Z0
      have B1 := hide B0
      clear V0 Z0 B0
      go_enter Tryd.func7, Tryd.ntmps7
      go_wp2_with (first
        | (refine wpList_load_row rfl 24 (.tmp 3) rfl w.heap.size rfl 24 _ (0, 0) _ V1.out Tryd.underlying24 rfl (info_G _ _) ?_)
        | (refine wpList_store_row rfl 24 (.tmp 6) (.tmp 48) rfl (w.heap.size + 1) _ rfl rfl 24 _ Z1.out (info_G _ _) (by rw [rowG_size]; rfl) (rowG_one _ _) ?_)
        | (refine bodyPost_ret (results_agg_tmp rfl _ _ (w.heap.size + 1) 24 _ (0, 0) _ rfl (setRow_heap _ _ _ _ _ _ Z1.out) Tryd.underlying24 rfl (info_G _ _)) rfl ⟨rfl, below_setRow B1.out (Nat.le_succ _) _⟩))
    · clear hs
      have V0 := (hasG_new 24 w s f).alloc (.cells #[.int .i64 0, .int .i64 0, .int .i64 0, .int .i64 0, .int .i64 0, .int .i64 0, .int .i64 0, .int .i64 0, .int .i64 0, .int .i64 0, .int .i64 0, .int .i64 0, .int .i64 0, .int .i64 0, .int .i64 0, .int .i64 0, .int .i64 0, .int .i64 0, .int .i64 0, .int .i64 0, .int .i64 0] 24)
      have Z0 := heap_alloc2_new w (.cells (rowG s f) 24) (.cells #[.int .i64 0, .int .i64 0, .int .i64 0, .int .i64 0, .int .i64 0, .int .i64 0, .int .i64 0, .int .i64 0, .int .i64 0, .int .i64 0, .int .i64 0, .int .i64 0, .int .i64 0, .int .i64 0, .int .i64 0, .int .i64 0, .int .i64 0, .int .i64 0, .int .i64 0, .int .i64 0, .int .i64 0] 24)
      have B0 := ((Below.refl _ w).alloc (Nat.le_refl _) (.cells (rowG s f) 24)).alloc (by simp) (.cells #[.int .i64 0, .int .i64 0, .int .i64 0, .int .i64 0, .int .i64 0, .int .i64 0, .int .i64 0, .int .i64 0, .int .i64 0, .int .i64 0, .int .i64 0, .int .i64 0, .int .i64 0, .int .i64 0, .int .i64 0, .int .i64 0, .int .i64 0, .int .i64 0, .int .i64 0, .int .i64 0, .int .i64 0] 24)
      have c0 := V0.c0
      have z0 := V0.frozen 0
      have V1 := hide V0
      have Z1 := hide Z0
      have B1 := hide B0
      clear V0 Z0 B0
      go_enter Tryd.func7, Tryd.ntmps7
      go_wp2_with (first
        | (refine wpList_load_row rfl 24 (.tmp 3) rfl w.heap.size rfl 24 _ (0, 0) _ V1.out Tryd.underlying24 rfl (info_G _ _) ?_)
        | (refine wpList_store_row rfl 24 (.tmp 6) (.tmp 48) rfl (w.heap.size + 1) _ rfl rfl 24 _ Z1.out (info_G _ _) (by rw [rowG_size]; rfl) (rowG_one _ _) ?_)
        | (refine bodyPost_ret (results_agg_tmp rfl _ _ (w.heap.size + 1) 24 _ (0, 0) _ rfl (setRow_heap _ _ _ _ _ _ Z1.out) Tryd.underlying24 rfl (info_G _ _)) rfl ⟨rfl, below_setRow B1.out (Nat.le_succ _) _⟩))
  · by_cases h3 : a = 3
    · subst h3
      rcases hs (.inr rfl) with k | k
      · clear hs
        have V0 := (hasG_new 24 w s f).alloc (.cells #[.int .i64 0, .int .i64 0, .int .i64 0, .int .i64 0, .int .i64 0, .int .i64 0, .int .i64 0, .int .i64 0, .int .i64 0, .int .i64 0, .int .i64 0, .int .i64 0, .int .i64 0, .int .i64 0, .int .i64 0, .int .i64 0, .int .i64 0, .int .i64 0, .int .i64 0, .int .i64 0, .int .i64 0] 24)
        have Z0 := heap_alloc2_new w (.cells (rowG s f) 24) (.cells #[.int .i64 0, .int .i64 0, .int .i64 0, .int .i64 0, .int .i64 0, .int .i64 0, .int .i64 0, .int .i64 0, .int .i64 0, .int .i64 0, .int .i64 0, .int .i64 0, .int .i64 0, .int .i64 0, .int .i64 0, .int .i64 0, .int .i64 0, .int .i64 0, .int .i64 0, .int .i64 0, .int .i64 0] 24)
        have B0 := ((Below.refl _ w).alloc (Nat.le_refl _) (.cells (rowG s f) 24)).alloc (by simp) (.cells #[.int .i64 0, .int .i64 0, .int .i64 0, .int .i64 0, .int .i64 0, .int .i64 0, .int .i64 0, .int .i64 0, .int .i64 0, .int .i64 0, .int .i64 0, .int .i64 0, .int .i64 0, .int .i64 0, .int .i64 0, .int .i64 0, .int .i64 0, .int .i64 0, .int .i64 0, .int .i64 0, .int .i64 0] 24)
        have c0 := V0.c0
        have z0 := V0.frozen 0
        have V1 := hide V0
        have Z1 := hide Z0
        have B1 := hide B0
        clear V0 Z0 B0
        go_enter Tryd.func7, Tryd.ntmps7
        go_wp2_with (first
          | (refine wpList_load_row rfl 24 (.tmp 3) rfl w.heap.size rfl 24 _ (0, 0) _ V1.out Tryd.underlying24 rfl (info_G _ _) ?_)
          | (refine wpList_store_row rfl 24 (.tmp 6) (.tmp 48) rfl (w.heap.size + 1) _ rfl rfl 24 _ Z1.out (info_G _ _) (by rw [rowG_size]; rfl) (rowG_one _ _) ?_)
          | (refine bodyPost_ret (results_agg_tmp rfl _ _ (w.heap.size + 1) 24 _ (0, 0) _ rfl (setRow_heap _ _ _ _ _ _ Z1.out) Tryd.underlying24 rfl (info_G _ _)) rfl ⟨rfl, below_setRow B1.out (Nat.le_succ _) _⟩))
      · clear hs
        have V0 := (hasG_new 24 w s f).alloc (.cells #[.int .i64 0, .int .i64 0, .int .i64 0, .int .i64 0, .int .i64 0, .int .i64 0, .int .i64 0, .int .i64 0, .int .i64 0, .int .i64 0, .int .i64 0, .int .i64 0, .int .i64 0, .int .i64 0, .int .i64 0, .int .i64 0, .int .i64 0, .int .i64 0, .int .i64 0, .int .i64 0, .int .i64 0] 24)
        have Z0 := heap_alloc2_new w (.cells (rowG s f) 24) (.cells #[.int .i64 0, .int .i64 0, .int .i64 0, .int .i64 0, .int .i64 0, .int .i64 0, .int .i64 0, .int .i64 0, .int .i64 0, .int .i64 0, .int .i64 0, .int .i64 0, .int .i64 0, .int .i64 0, .int .i64 0, .int .i64 0, .int .i64 0, .int .i64 0, .int .i64 0, .int .i64 0, .int .i64 0] 24)
        have B0 := ((Below.refl _ w).alloc (Nat.le_refl _) (.cells (rowG s f) 24)).alloc (by simp) (.cells #[.int .i64 0, .int .i64 0, .int .i64 0, .int .i64 0, .int .i64 0, .int .i64 0, .int .i64 0, .int .i64 0, .int .i64 0, .int .i64 0, .int .i64 0, .int .i64 0, .int .i64 0, .int .i64 0, .int .i64 0, .int .i64 0, .int .i64 0, .int .i64 0, .int .i64 0, .int .i64 0, .int .i64 0] 24)
        have c0 := V0.c0
        have z0 := V0.frozen 0
        have V1 := hide V0
        have Z1 := hide Z0
        have B1 := hide B0
        clear V0 Z0 B0
        go_enter Tryd.func7, Tryd.ntmps7
        go_wp2_with (first
          | (refine wpList_load_row rfl 24 (.tmp 3) rfl w.heap.size rfl 24 _ (0, 0) _ V1.out Tryd.underlying24 rfl (info_G _ _) ?_)
          | (refine wpList_store_row rfl 24 (.tmp 6) (.tmp 48) rfl (w.heap.size + 1) _ rfl rfl 24 _ Z1.out (info_G _ _) (by rw [rowG_size]; rfl) (rowG_one _ _) ?_)
          | (refine bodyPost_ret (results_agg_tmp rfl _ _ (w.heap.size + 1) 24 _ (0, 0) _ rfl (setRow_heap _ _ _ _ _ _ Z1.out) Tryd.underlying24 rfl (info_G _ _)) rfl ⟨rfl, below_setRow B1.out (Nat.le_succ _) _⟩))
    · clear hs
      have V0 := (hasG_new 24 w s f).alloc (.cells #[.int .i64 0, .int .i64 0, .int .i64 0, .int .i64 0, .int .i64 0, .int .i64 0, .int .i64 0, .int .i64 0, .int .i64 0, .int .i64 0, .int .i64 0, .int .i64 0, .int .i64 0, .int .i64 0, .int .i64 0, .int .i64 0, .int .i64 0, .int .i64 0, .int .i64 0, .int .i64 0, .int .i64 0] 24)
      have Z0 := heap_alloc2_new w (.cells (rowG s f) 24) (.cells #[.int .i64 0, .int .i64 0, .int .i64 0, .int .i64 0, .int .i64 0, .int .i64 0, .int .i64 0, .int .i64 0, .int .i64 0, .int .i64 0, .int .i64 0, .int .i64 0, .int .i64 0, .int .i64 0, .int .i64 0, .int .i64 0, .int .i64 0, .int .i64 0, .int .i64 0, .int .i64 0, .int .i64 0] 24)
      have B0 := ((Below.refl _ w).alloc (Nat.le_refl _) (.cells (rowG s f) 24)).alloc (by simp) (.cells #[.int .i64 0, .int .i64 0, .int .i64 0, .int .i64 0, .int .i64 0, .int .i64 0, .int .i64 0, .int .i64 0, .int .i64 0, .int .i64 0, .int .i64 0, .int .i64 0, .int .i64 0, .int .i64 0, .int .i64 0, .int .i64 0, .int .i64 0, .int .i64 0, .int .i64 0, .int .i64 0, .int .i64 0] 24)
      have c0 := V0.c0
      have z0 := V0.frozen 0
      have V1 := hide V0
      have Z1 := hide Z0
      have B1 := hide B0
      clear V0 Z0 B0
      go_enter Tryd.func7, Tryd.ntmps7
      go_wp2_with (first
        | (refine wpList_load_row rfl 24 (.tmp 3) rfl w.heap.size rfl 24 _ (0, 0) _ V1.out Tryd.underlying24 rfl (info_G _ _) ?_)
        | (refine wpList_store_row rfl 24 (.tmp 6) (.tmp 48) rfl (w.heap.size + 1) _ rfl rfl 24 _ Z1.out (info_G _ _) (by rw [rowG_size]; rfl) (rowG_one _ _) ?_)
        | (refine bodyPost_ret (results_agg_tmp rfl _ _ (w.heap.size + 1) 24 _ (0, 0) _ rfl (setRow_heap _ _ _ _ _ _ Z1.out) Tryd.underlying24 rfl (info_G _ _)) rfl ⟨rfl, below_setRow B1.out (Nat.le_succ _) _⟩))

theorem write_at (i : Nat) (hi : i < 20) (a b h m y x : Int) (f : Nat → Int) (ha : a = 2 ∨ a = 3) (hh : halfOf (f i) a b = h) (hm : mk i = m) (hy : bits .and .i64 h m = y) (hx : bringsOf (i : Int) a = x) (w : World) (hM : HasMask w) :
    Calls Tryd.prog 7 #[.agg (rowG (i : Int) f), .int .i64 a, .int .i64 b] w fun e w' => e = .returned (.tuple #[.agg (rowG (i : Int) (upd f i y)), .int .i64 x]) ∧ Below w.heap.size w w' := by
  have CH := hide (half_any (f i) a b h hh)
  have CB := hide (brings_any (i : Int) a x hx)
  clear hh hx
  have V0 := (hasG_new 24 w (i : Int) f).alloc (.cells #[.int .i64 0, .int .i64 0, .int .i64 0, .int .i64 0, .int .i64 0, .int .i64 0, .int .i64 0, .int .i64 0, .int .i64 0, .int .i64 0, .int .i64 0, .int .i64 0, .int .i64 0, .int .i64 0, .int .i64 0, .int .i64 0, .int .i64 0, .int .i64 0, .int .i64 0, .int .i64 0, .int .i64 0] 24)
  have Z0 := heap_alloc2_new w (.cells (rowG (i : Int) f) 24) (.cells #[.int .i64 0, .int .i64 0, .int .i64 0, .int .i64 0, .int .i64 0, .int .i64 0, .int .i64 0, .int .i64 0, .int .i64 0, .int .i64 0, .int .i64 0, .int .i64 0, .int .i64 0, .int .i64 0, .int .i64 0, .int .i64 0, .int .i64 0, .int .i64 0, .int .i64 0, .int .i64 0, .int .i64 0] 24)
  have B0 := ((Below.refl _ w).alloc (Nat.le_refl _) (.cells (rowG (i : Int) f) 24)).alloc (by simp) (.cells #[.int .i64 0, .int .i64 0, .int .i64 0, .int .i64 0, .int .i64 0, .int .i64 0, .int .i64 0, .int .i64 0, .int .i64 0, .int .i64 0, .int .i64 0, .int .i64 0, .int .i64 0, .int .i64 0, .int .i64 0, .int .i64 0, .int .i64 0, .int .i64 0, .int .i64 0, .int .i64 0, .int .i64 0] 24)
  have M0 := hM.next B0
  have c0 := V0.c0
  rcases ha with rfl | rfl
  · go_enter Tryd.func7, Tryd.ntmps7
    go_wp2_with fail
    obtain ⟨wr, hwr⟩ : ∃ wr, wr = (w.alloc (.cells (rowG (i : Int) f) 24)).alloc (.cells #[.int .i64 0, .int .i64 0, .int .i64 0, .int .i64 0, .int .i64 0, .int .i64 0, .int .i64 0, .int .i64 0, .int .i64 0, .int .i64 0, .int .i64 0, .int .i64 0, .int .i64 0, .int .i64 0, .int .i64 0, .int .i64 0, .int .i64 0, .int .i64 0, .int .i64 0, .int .i64 0, .int .i64 0] 24) := ⟨_, rfl⟩
    rw [← hwr] at V0 Z0 B0 M0 c0 ⊢
    clear hwr
    have k0 := kept_cell c0 V0.lt
    have ki := kept_cell (V0.at i hi) V0.lt
    have km := kept_cell (M0.at i hi) M0.pos
    rw [hm] at km
    have V := hide V0
    have Z := hide Z0
    have B := hide B0
    clear V0 Z0 B0 M0 c0 hM
    haveI := kept_some wr
    refine wp_region_kept_shut _ _ (show _ = [_, _, _, _, _, _, _, _, _, _, _, _, _, _, _, _, _] ++ [_] from rfl) (by kernel_rfl) (by kernel_rfl) (by kernel_rfl) ?_
    repeat (go_big_quiet_step ((go_at_call 19; exact kept_call (CH.out _))))
    refine wpQuiet_nil ?_
    rintro _ ⟨wk, rfl⟩
    have VK := V.out.next wk.below
    have ZK := (wk.block (w.heap.size + 1) (lt_of_block Z.out)).trans Z.out
    have BK := bnext B.out wk.below
    have ci := VK.at i hi
    have zi := VK.frozen (1 + i)
    have V1 := hide (VK.set i y)
    have Z1 := hide ((heap_setCell_other _ ⟨w.heap.size, 1 + i, none⟩ (w.heap.size + 1) (.int .i64 y) (by simp)).trans ZK)
    have B1 := hide (BK.setCell (p := ⟨w.heap.size, 1 + i, none⟩) (Nat.le_refl _) (.int .i64 y))
    clear VK ZK BK V Z B k0 ki km CH
    go_wp2_with fail
    obtain ⟨wt, hwt⟩ : ∃ wt, wt = wk.val.setCell ⟨w.heap.size, 1 + i, none⟩ (.int .i64 y) := ⟨_, rfl⟩
    rw [← hwt] at V1 Z1 B1 ⊢
    clear hwt ci zi
    have k0 := kept_cell V1.out.c0 V1.out.lt
    haveI := kept_some wt
    refine wp_region_kept_shut2 _ _ _ (show _ = ([_, _, _, _, _] ++ [_]) ++ [_] from rfl) (by kernel_rfl) (by kernel_rfl) (by kernel_rfl) (by kernel_rfl) ?_
    repeat (first
      | (refine wpQuiet_row rfl 24 (.tmp 3) rfl w.heap.size rfl 24 _ (0, 0) _ (fun w' ⟨x, hx⟩ => by rw [hx]; exact (x.block _ V1.out.lt).trans V1.out) Tryd.underlying24 rfl (info_G _ _) ?_; simp only [Act.put, List.setIfInBounds_toArray, List.set_cons_succ, List.set_cons_zero])
      | go_big_quiet_step ((go_at_call 20; exact kept_same (CB.out _))))
    refine wpQuiet_nil ?_
    rintro _ ⟨wj, rfl⟩
    have Z2 := hide ((wj.block (w.heap.size + 1) (lt_of_block Z1.out)).trans Z1.out)
    have B2 := hide (bnext B1.out wj.below)
    clear V1 Z1 B1 k0 CB
    go_wp2_with (first
      | (refine wpList_store_row rfl 24 (.tmp 6) (.tmp 43) rfl (w.heap.size + 1) _ rfl rfl 24 _ Z2.out (info_G _ _) (by rw [rowG_size]; rfl) (rowG_one _ _) ?_)
      | (refine bodyPost_ret (results_agg_tmp rfl _ _ (w.heap.size + 1) 24 _ (0, 0) _ rfl (setRow_heap _ _ _ _ _ _ Z2.out) Tryd.underlying24 rfl (info_G _ _)) rfl ⟨rfl, below_setRow B2.out (Nat.le_succ _) _⟩))
  · go_enter Tryd.func7, Tryd.ntmps7
    go_wp2_with fail
    obtain ⟨wr, hwr⟩ : ∃ wr, wr = (w.alloc (.cells (rowG (i : Int) f) 24)).alloc (.cells #[.int .i64 0, .int .i64 0, .int .i64 0, .int .i64 0, .int .i64 0, .int .i64 0, .int .i64 0, .int .i64 0, .int .i64 0, .int .i64 0, .int .i64 0, .int .i64 0, .int .i64 0, .int .i64 0, .int .i64 0, .int .i64 0, .int .i64 0, .int .i64 0, .int .i64 0, .int .i64 0, .int .i64 0] 24) := ⟨_, rfl⟩
    rw [← hwr] at V0 Z0 B0 M0 c0 ⊢
    clear hwr
    have k0 := kept_cell c0 V0.lt
    have ki := kept_cell (V0.at i hi) V0.lt
    have km := kept_cell (M0.at i hi) M0.pos
    rw [hm] at km
    have V := hide V0
    have Z := hide Z0
    have B := hide B0
    clear V0 Z0 B0 M0 c0 hM
    haveI := kept_some wr
    refine wp_region_kept_shut _ _ (show _ = [_, _, _, _, _, _, _, _, _, _, _, _, _, _, _, _, _] ++ [_] from rfl) (by kernel_rfl) (by kernel_rfl) (by kernel_rfl) ?_
    repeat (go_big_quiet_step ((go_at_call 19; exact kept_call (CH.out _))))
    refine wpQuiet_nil ?_
    rintro _ ⟨wk, rfl⟩
    have VK := V.out.next wk.below
    have ZK := (wk.block (w.heap.size + 1) (lt_of_block Z.out)).trans Z.out
    have BK := bnext B.out wk.below
    have ci := VK.at i hi
    have zi := VK.frozen (1 + i)
    have V1 := hide (VK.set i y)
    have Z1 := hide ((heap_setCell_other _ ⟨w.heap.size, 1 + i, none⟩ (w.heap.size + 1) (.int .i64 y) (by simp)).trans ZK)
    have B1 := hide (BK.setCell (p := ⟨w.heap.size, 1 + i, none⟩) (Nat.le_refl _) (.int .i64 y))
    clear VK ZK BK V Z B k0 ki km CH
    go_wp2_with fail
    obtain ⟨wt, hwt⟩ : ∃ wt, wt = wk.val.setCell ⟨w.heap.size, 1 + i, none⟩ (.int .i64 y) := ⟨_, rfl⟩
    rw [← hwt] at V1 Z1 B1 ⊢
    clear hwt ci zi
    have k0 := kept_cell V1.out.c0 V1.out.lt
    haveI := kept_some wt
    refine wp_region_kept_shut2 _ _ _ (show _ = ([_, _, _, _, _] ++ [_]) ++ [_] from rfl) (by kernel_rfl) (by kernel_rfl) (by kernel_rfl) (by kernel_rfl) ?_
    repeat (first
      | (refine wpQuiet_row rfl 24 (.tmp 3) rfl w.heap.size rfl 24 _ (0, 0) _ (fun w' ⟨x, hx⟩ => by rw [hx]; exact (x.block _ V1.out.lt).trans V1.out) Tryd.underlying24 rfl (info_G _ _) ?_; simp only [Act.put, List.setIfInBounds_toArray, List.set_cons_succ, List.set_cons_zero])
      | go_big_quiet_step ((go_at_call 20; exact kept_same (CB.out _))))
    refine wpQuiet_nil ?_
    rintro _ ⟨wj, rfl⟩
    have Z2 := hide ((wj.block (w.heap.size + 1) (lt_of_block Z1.out)).trans Z1.out)
    have B2 := hide (bnext B1.out wj.below)
    clear V1 Z1 B1 k0 CB
    go_wp2_with (first
      | (refine wpList_store_row rfl 24 (.tmp 6) (.tmp 43) rfl (w.heap.size + 1) _ rfl rfl 24 _ Z2.out (info_G _ _) (by rw [rowG_size]; rfl) (rowG_one _ _) ?_)
      | (refine bodyPost_ret (results_agg_tmp rfl _ _ (w.heap.size + 1) 24 _ (0, 0) _ rfl (setRow_heap _ _ _ _ _ _ Z2.out) Tryd.underlying24 rfl (info_G _ _)) rfl ⟨rfl, below_setRow B2.out (Nat.le_succ _) _⟩))
end Go.Proofs.YtbgbedkmggefpaaDoor
