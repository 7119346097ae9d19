/- The document's own answer for layer 15: the contract of Write. -/
import Derived.Test.YtbgbedkmggefpaaDoorRefT15
import Derived.Test.YtbgbedkmggefpaaDoorRef15
namespace Go.Proofs.YtbgbedkmggefpaaDoor
open Go.RowKit
set_option linter.unusedVariables false

theorem info_R (s : Int) (f : Nat → Int) : (Tryd.prog.info? 28).map (·.size) = some (rowG s f).size := by
  rw [rowG_size]
  kernel_rfl
theorem rwrite_sel (s b x : Int) (f : Nat → Int) (hx : b % 32 = x) (w : World) : Calls Tryd.prog 8 #[.agg (rowG s f), .int .i64 0, .int .i64 b] w fun e w' => e = .returned (.tuple #[.agg (rowG x f), .int .i64 0]) ∧ Below w.heap.size w w' := by
  have h0 : 0 ≤ b % 256 := by omega
  have h1 : b % 256 < 256 := by omega
  have et : b % 256 % 32 = x := by omega
  clear hx
  have V := hide ((hasG_new 28 w s f).alloc (.cells #[.int .i64 0, .int .i64 0, .int .i64 0, .int .i64 0, .int .i64 0, .int .i64 0, .int .i64 0, .int .i64 0, .int .i64 0, .int .i64 0, .int .i64 0, .int .i64 0, .int .i64 0, .int .i64 0, .int .i64 0, .int .i64 0, .int .i64 0, .int .i64 0, .int .i64 0, .int .i64 0, .int .i64 0] 28))
  have Z := hide (heap_alloc2_new w (.cells (rowG s f) 28) (.cells #[.int .i64 0, .int .i64 0, .int .i64 0, .int .i64 0, .int .i64 0, .int .i64 0, .int .i64 0, .int .i64 0, .int .i64 0, .int .i64 0, .int .i64 0, .int .i64 0, .int .i64 0, .int .i64 0, .int .i64 0, .int .i64 0, .int .i64 0, .int .i64 0, .int .i64 0, .int .i64 0, .int .i64 0] 28))
  have B := hide (((Below.refl _ w).alloc (Nat.le_refl _) (.cells (rowG s f) 28)).alloc (by simp) (.cells #[.int .i64 0, .int .i64 0, .int .i64 0, .int .i64 0, .int .i64 0, .int .i64 0, .int .i64 0, .int .i64 0, .int .i64 0, .int .i64 0, .int .i64 0, .int .i64 0, .int .i64 0, .int .i64 0, .int .i64 0, .int .i64 0, .int .i64 0, .int .i64 0, .int .i64 0, .int .i64 0, .int .i64 0] 28))
  go_enter Tryd.func8, Tryd.ntmps8
  go_wp2_with fail
  refine named_calls fun wr hwr => ?_
  rw [← hwr] at V Z B
  clear hwr
  have c0 := V.out.c0
  have z0 := V.out.frozen 0
  refine (rbyte_any _ _).mono ?_
  rintro e w' ⟨rfl, hw⟩
  subst w'
  generalize b % 256 = c at *
  replace V := hide (V.out.set0 x)
  replace Z := hide ((heap_setCell_other wr ⟨w.heap.size, 0, none⟩ (w.heap.size + 1) (.int .i64 x) (by simp)).trans Z.out)
  replace B := hide (B.out.setCell (p := ⟨w.heap.size, 0, none⟩) (Nat.le_refl _) (.int .i64 x))
  go_wp2_with (first
    | (refine wpList_load_row rfl 28 (.tmp 3) rfl w.heap.size rfl 28 _ (0, 0) _ V.out Tryd.underlying28 rfl (info_R _ _) ?_)
    | (refine wpList_store_row rfl 28 (.tmp 6) (.tmp 32) rfl (w.heap.size + 1) _ rfl rfl 28 _ Z.out (info_R _ _) (by rw [rowG_size]; rfl) (rowG_one _ _) ?_)
    | (refine bodyPost_ret (results_agg_tmp rfl _ _ (w.heap.size + 1) 28 _ (0, 0) _ rfl (setRow_heap _ _ _ _ _ _ Z.out) Tryd.underlying28 rfl (info_R _ _)) rfl ⟨rfl, below_setRow B.out (Nat.le_succ _) _⟩))
theorem rwrite_no (a s b : Int) (f : Nat → Int) (h : a ≠ 0 ∧ (a = 2 ∨ a = 3 → s < 0 ∨ 20 ≤ s)) (w : World) : Calls Tryd.prog 8 #[.agg (rowG s f), .int .i64 a, .int .i64 b] w fun e w' => e = .returned (.tuple #[.agg (rowG s f), .int .i64 0]) ∧ Below w.heap.size w w' := by
  obtain ⟨h0, hs⟩ := h
  by_cases h2 : a = 2
  · subst h2
    rcases hs (.inl rfl) with k | k
    · clear hs
      have V := hide ((hasG_new 28 w s f).alloc (.cells #[.int .i64 0, .int .i64 0, .int .i64 0, .int .i64 0, .int .i64 0, .int .i64 0, .int .i64 0, .int .i64 0, .int .i64 0, .int .i64 0, .int .i64 0, .int .i64 0, .int .i64 0, .int .i64 0, .int .i64 0, .int .i64 0, .int .i64 0, .int .i64 0, .int .i64 0, .int .i64 0, .int .i64 0] 28))
      have Z := hide (heap_alloc2_new w (.cells (rowG s f) 28) (.cells #[.int .i64 0, .int .i64 0, .int .i64 0, .int .i64 0, .int .i64 0, .int .i64 0, .int .i64 0, .int .i64 0, .int .i64 0, .int .i64 0, .int .i64 0, .int .i64 0, .int .i64 0, .int .i64 0, .int .i64 0, .int .i64 0, .int .i64 0, .int .i64 0, .int .i64 0, .int .i64 0, .int .i64 0] 28))
      have B := hide (((Below.refl _ w).alloc (Nat.le_refl _) (.cells (rowG s f) 28)).alloc (by simp) (.cells #[.int .i64 0, .int .i64 0, .int .i64 0, .int .i64 0, .int .i64 0, .int .i64 0, .int .i64 0, .int .i64 0, .int .i64 0, .int .i64 0, .int .i64 0, .int .i64 0, .int .i64 0, .int .i64 0, .int .i64 0, .int .i64 0, .int .i64 0, .int .i64 0, .int .i64 0, .int .i64 0, .int .i64 0] 28))
      go_enter Tryd.func8, Tryd.ntmps8
      go_wp2_with fail
      refine named_calls fun wr hwr => ?_
      rw [← hwr] at V Z B
      clear hwr
      have c0 := V.out.c0
      have z0 := V.out.frozen 0
      refine (rbyte_any _ _).mono ?_
      rintro e w' ⟨rfl, hw⟩
      subst w'
      go_wp2_with (first
        | (refine wpList_load_row rfl 28 (.tmp 3) rfl w.heap.size rfl 28 _ (0, 0) _ V.out Tryd.underlying28 rfl (info_R _ _) ?_)
        | (refine wpList_store_row rfl 28 (.tmp 6) (.tmp 32) rfl (w.heap.size + 1) _ rfl rfl 28 _ Z.out (info_R _ _) (by rw [rowG_size]; rfl) (rowG_one _ _) ?_)
        | (refine bodyPost_ret (results_agg_tmp rfl _ _ (w.heap.size + 1) 28 _ (0, 0) _ rfl (setRow_heap _ _ _ _ _ _ Z.out) Tryd.underlying28 rfl (info_R _ _)) rfl ⟨rfl, below_setRow B.out (Nat.le_succ _) _⟩))
    · clear hs
      have V := hide ((hasG_new 28 w s f).alloc (.cells #[.int .i64 0, .int .i64 0, .int .i64 0, .int .i64 0, .int .i64 0, .int .i64 0, .int .i64 0, .int .i64 0, .int .i64 0, .int .i64 0, .int .i64 0, .int .i64 0, .int .i64 0, .int .i64 0, .int .i64 0, .int .i64 0, .int .i64 0, .int .i64 0, .int .i64 0, .int .i64 0, .int .i64 0] 28))
      have Z := hide (heap_alloc2_new w (.cells (rowG s f) 28) (.cells #[.int .i64 0, .int .i64 0, .int .i64 0, .int .i64 0, .int .i64 0, .int .i64 0, .int .i64 0, .int .i64 0, .int .i64 0, .int .i64 0, .int .i64 0, .int .i64 0, .int .i64 0, .int .i64 0, .int .i64 0, .int .i64 0, .int .i64 0, .int .i64 0, .int .i64 0, .int .i64 0, .int .i64 0] 28))
      have B := hide (((Below.refl _ w).alloc (Nat.le_refl _) (.cells (rowG s f) 28)).alloc (by simp) (.cells #[.int .i64 0, .int .i64 0, .int .i64 0, .int .i64 0, .int .i64 0, .int .i64 0, .int .i64 0, .int .i64 0, .int .i64 0, .int .i64 0, .int .i64 0, .int .i64 0, .int .i64 0, .int .i64 0, .int .i64 0, .int .i64 0, .int .i64 0, .int .i64 0, .int .i64 0, .int .i64 0, .int .i64 0] 28))
      go_enter Tryd.func8, Tryd.ntmps8
      go_wp2_with fail
      refine named_calls fun wr hwr => ?_
      rw [← hwr] at V Z B
      clear hwr
      have c0 := V.out.c0
      have z0 := V.out.frozen 0
      refine (rbyte_any _ _).mono ?_
      rintro e w' ⟨rfl, hw⟩
      subst w'
      go_wp2_with (first
        | (refine wpList_load_row rfl 28 (.tmp 3) rfl w.heap.size rfl 28 _ (0, 0) _ V.out Tryd.underlying28 rfl (info_R _ _) ?_)
        | (refine wpList_store_row rfl 28 (.tmp 6) (.tmp 32) rfl (w.heap.size + 1) _ rfl rfl 28 _ Z.out (info_R _ _) (by rw [rowG_size]; rfl) (rowG_one _ _) ?_)
        | (refine bodyPost_ret (results_agg_tmp rfl _ _ (w.heap.size + 1) 28 _ (0, 0) _ rfl (setRow_heap _ _ _ _ _ _ Z.out) Tryd.underlying28 rfl (info_R _ _)) rfl ⟨rfl, below_setRow B.out (Nat.le_succ _) _⟩))
  · by_cases h3 : a = 3
    · subst h3
      rcases hs (.inr rfl) with k | k
      · clear hs
        have V := hide ((hasG_new 28 w s f).alloc (.cells #[.int .i64 0, .int .i64 0, .int .i64 0, .int .i64 0, .int .i64 0, .int .i64 0, .int .i64 0, .int .i64 0, .int .i64 0, .int .i64 0, .int .i64 0, .int .i64 0, .int .i64 0, .int .i64 0, .int .i64 0, .int .i64 0, .int .i64 0, .int .i64 0, .int .i64 0, .int .i64 0, .int .i64 0] 28))
        have Z := hide (heap_alloc2_new w (.cells (rowG s f) 28) (.cells #[.int .i64 0, .int .i64 0, .int .i64 0, .int .i64 0, .int .i64 0, .int .i64 0, .int .i64 0, .int .i64 0, .int .i64 0, .int .i64 0, .int .i64 0, .int .i64 0, .int .i64 0, .int .i64 0, .int .i64 0, .int .i64 0, .int .i64 0, .int .i64 0, .int .i64 0, .int .i64 0, .int .i64 0] 28))
        have B := hide (((Below.refl _ w).alloc (Nat.le_refl _) (.cells (rowG s f) 28)).alloc (by simp) (.cells #[.int .i64 0, .int .i64 0, .int .i64 0, .int .i64 0, .int .i64 0, .int .i64 0, .int .i64 0, .int .i64 0, .int .i64 0, .int .i64 0, .int .i64 0, .int .i64 0, .int .i64 0, .int .i64 0, .int .i64 0, .int .i64 0, .int .i64 0, .int .i64 0, .int .i64 0, .int .i64 0, .int .i64 0] 28))
        go_enter Tryd.func8, Tryd.ntmps8
        go_wp2_with fail
        refine named_calls fun wr hwr => ?_
        rw [← hwr] at V Z B
        clear hwr
        have c0 := V.out.c0
        have z0 := V.out.frozen 0
        refine (rbyte_any _ _).mono ?_
        rintro e w' ⟨rfl, hw⟩
        subst w'
        go_wp2_with (first
          | (refine wpList_load_row rfl 28 (.tmp 3) rfl w.heap.size rfl 28 _ (0, 0) _ V.out Tryd.underlying28 rfl (info_R _ _) ?_)
          | (refine wpList_store_row rfl 28 (.tmp 6) (.tmp 32) rfl (w.heap.size + 1) _ rfl rfl 28 _ Z.out (info_R _ _) (by rw [rowG_size]; rfl) (rowG_one _ _) ?_)
          | (refine bodyPost_ret (results_agg_tmp rfl _ _ (w.heap.size + 1) 28 _ (0, 0) _ rfl (setRow_heap _ _ _ _ _ _ Z.out) Tryd.underlying28 rfl (info_R _ _)) rfl ⟨rfl, below_setRow B.out (Nat.le_succ _) _⟩))
      · clear hs
        have V := hide ((hasG_new 28 w s f).alloc (.cells #[.int .i64 0, .int .i64 0, .int .i64 0, .int .i64 0, .int .i64 0, .int .i64 0, .int .i64 0, .int .i64 0, .int .i64 0, .int .i64 0, .int .i64 0, .int .i64 0, .int .i64 0, .int .i64 0, .int .i64 0, .int .i64 0, .int .i64 0, .int .i64 0, .int .i64 0, .int .i64 0, .int .i64 0] 28))
        have Z := hide (heap_alloc2_new w (.cells (rowG s f) 28) (.cells #[.int .i64 0, .int .i64 0, .int .i64 0, .int .i64 0, .int .i64 0, .int .i64 0, .int .i64 0, .int .i64 0, .int .i64 0, .int .i64 0, .int .i64 0, .int .i64 0, .int .i64 0, .int .i64 0, .int .i64 0, .int .i64 0, .int .i64 0, .int .i64 0, .int .i64 0, .int .i64 0, .int .i64 0] 28))
        have B := hide (((Below.refl _ w).alloc (Nat.le_refl _) (.cells (rowG s f) 28)).alloc (by simp) (.cells #[.int .i64 0, .int .i64 0, .int .i64 0, .int .i64 0, .int .i64 0, .int .i64 0, .int .i64 0, .int .i64 0, .int .i64 0, .int .i64 0, .int .i64 0, .int .i64 0, .int .i64 0, .int .i64 0, .int .i64 0, .int .i64 0, .int .i64 0, .int .i64 0, .int .i64 0, .int .i64 0, .int .i64 0] 28))
        go_enter Tryd.func8, Tryd.ntmps8
        go_wp2_with fail
        refine named_calls fun wr hwr => ?_
        rw [← hwr] at V Z B
        clear hwr
        have c0 := V.out.c0
        have z0 := V.out.frozen 0
        refine (rbyte_any _ _).mono ?_
        rintro e w' ⟨rfl, hw⟩
        subst w'
        go_wp2_with (first
          | (refine wpList_load_row rfl 28 (.tmp 3) rfl w.heap.size rfl 28 _ (0, 0) _ V.out Tryd.underlying28 rfl (info_R _ _) ?_)
          | (refine wpList_store_row rfl 28 (.tmp 6) (.tmp 32) rfl (w.heap.size + 1) _ rfl rfl 28 _ Z.out (info_R _ _) (by rw [rowG_size]; rfl) (rowG_one _ _) ?_)
          | (refine bodyPost_ret (results_agg_tmp rfl _ _ (w.heap.size + 1) 28 _ (0, 0) _ rfl (setRow_heap _ _ _ _ _ _ Z.out) Tryd.underlying28 rfl (info_R _ _)) rfl ⟨rfl, below_setRow B.out (Nat.le_succ _) _⟩))
    · clear hs
      have d2 : (a != 2) = true := by simpa using h2
      have d3 : (a != 3) = true := by simpa using h3
      have V := hide ((hasG_new 28 w s f).alloc (.cells #[.int .i64 0, .int .i64 0, .int .i64 0, .int .i64 0, .int .i64 0, .int .i64 0, .int .i64 0, .int .i64 0, .int .i64 0, .int .i64 0, .int .i64 0, .int .i64 0, .int .i64 0, .int .i64 0, .int .i64 0, .int .i64 0, .int .i64 0, .int .i64 0, .int .i64 0, .int .i64 0, .int .i64 0] 28))
      have Z := hide (heap_alloc2_new w (.cells (rowG s f) 28) (.cells #[.int .i64 0, .int .i64 0, .int .i64 0, .int .i64 0, .int .i64 0, .int .i64 0, .int .i64 0, .int .i64 0, .int .i64 0, .int .i64 0, .int .i64 0, .int .i64 0, .int .i64 0, .int .i64 0, .int .i64 0, .int .i64 0, .int .i64 0, .int .i64 0, .int .i64 0, .int .i64 0, .int .i64 0] 28))
      have B := hide (((Below.refl _ w).alloc (Nat.le_refl _) (.cells (rowG s f) 28)).alloc (by simp) (.cells #[.int .i64 0, .int .i64 0, .int .i64 0, .int .i64 0, .int .i64 0, .int .i64 0, .int .i64 0, .int .i64 0, .int .i64 0, .int .i64 0, .int .i64 0, .int .i64 0, .int .i64 0, .int .i64 0, .int .i64 0, .int .i64 0, .int .i64 0, .int .i64 0, .int .i64 0, .int .i64 0, .int .i64 0] 28))
      go_enter Tryd.func8, Tryd.ntmps8
      go_wp2_with fail
      refine named_calls fun wr hwr => ?_
      rw [← hwr] at V Z B
      clear hwr
      have c0 := V.out.c0
      have z0 := V.out.frozen 0
      refine (rbyte_any _ _).mono ?_
      rintro e w' ⟨rfl, hw⟩
      subst w'
      go_wp2_with (first
        | (refine wpList_load_row rfl 28 (.tmp 3) rfl w.heap.size rfl 28 _ (0, 0) _ V.out Tryd.underlying28 rfl (info_R _ _) ?_)
        | (refine wpList_store_row rfl 28 (.tmp 6) (.tmp 32) rfl (w.heap.size + 1) _ rfl rfl 28 _ Z.out (info_R _ _) (by rw [rowG_size]; rfl) (rowG_one _ _) ?_)
        | (refine bodyPost_ret (results_agg_tmp rfl _ _ (w.heap.size + 1) 28 _ (0, 0) _ rfl (setRow_heap _ _ _ _ _ _ Z.out) Tryd.underlying28 rfl (info_R _ _)) rfl ⟨rfl, below_setRow B.out (Nat.le_succ _) _⟩))
theorem rwrite_at (i : Nat) (hi : i < 20) (a b h m y x : Int) (f : Nat → Int) (ha : a = 2 ∨ a = 3) (hh : halfOf (f i) a b = h) (hm : mk i = m) (hy : bits .and .i64 h m = y) (hx : bringsOf (i : Int) a = x) (w : World) :
    Calls Tryd.prog 8 #[.agg (rowG (i : Int) f), .int .i64 a, .int .i64 b] w fun e w' => e = .returned (.tuple #[.agg (rowG (i : Int) (upd f i y)), .int .i64 x]) ∧ Below w.heap.size w w' := by
  have CE := hide (effect_any (i : Int) a x ha hx)
  have CM := hide (rmask_any i hi m hm)
  have MM : IsMask m := by rw [← hm]; exact mk_mask i
  have CO := hide (ronly_any h m y MM (by rw [← hy, and_word h m MM]))
  have CW := hide (rword_any (f i))
  have v0 : 0 ≤ f i % 65536 := by omega
  have v1 : f i % 65536 < 65536 := by omega
  have c00 : 0 ≤ b % 256 := by omega
  have c01 : b % 256 < 256 := by omega
  rcases ha with rfl | rfl
  · have hc : f i % 65536 / 256 * 256 + b % 256 = h := by
      rw [← hh]
      unfold halfOf lowOf
      rw [if_pos rfl]
      omega
    clear hh hy hx hm
    have V := hide ((hasG_new 28 w (i : Int) f).alloc (.cells #[.int .i64 0, .int .i64 0, .int .i64 0, .int .i64 0, .int .i64 0, .int .i64 0, .int .i64 0, .int .i64 0, .int .i64 0, .int .i64 0, .int .i64 0, .int .i64 0, .int .i64 0, .int .i64 0, .int .i64 0, .int .i64 0, .int .i64 0, .int .i64 0, .int .i64 0, .int .i64 0, .int .i64 0] 28))
    have Z := hide (heap_alloc2_new w (.cells (rowG (i : Int) f) 28) (.cells #[.int .i64 0, .int .i64 0, .int .i64 0, .int .i64 0, .int .i64 0, .int .i64 0, .int .i64 0, .int .i64 0, .int .i64 0, .int .i64 0, .int .i64 0, .int .i64 0, .int .i64 0, .int .i64 0, .int .i64 0, .int .i64 0, .int .i64 0, .int .i64 0, .int .i64 0, .int .i64 0, .int .i64 0] 28))
    have B := hide (((Below.refl _ w).alloc (Nat.le_refl _) (.cells (rowG (i : Int) f) 28)).alloc (by simp) (.cells #[.int .i64 0, .int .i64 0, .int .i64 0, .int .i64 0, .int .i64 0, .int .i64 0, .int .i64 0, .int .i64 0, .int .i64 0, .int .i64 0, .int .i64 0, .int .i64 0, .int .i64 0, .int .i64 0, .int .i64 0, .int .i64 0, .int .i64 0, .int .i64 0, .int .i64 0, .int .i64 0, .int .i64 0] 28))
    go_enter Tryd.func8, Tryd.ntmps8
    go_wp2_with fail
    refine named_calls fun wr hwr => ?_
    rw [← hwr] at V Z B
    clear hwr
    have c0 := V.out.c0
    have z0 := V.out.frozen 0
    refine (rbyte_any _ _).mono ?_
    rintro e w' ⟨rfl, hw⟩
    subst w'
    generalize f i % 65536 = v at *
    generalize b % 256 = c at *
    have ci := V.out.at i hi
    go_wp2_with (first | (go_at_call 22; refine (CW.out _).mono ?_; rintro e w' ⟨rfl, hw⟩; subst w'))
    have k0 := kept_cell c0 V.out.lt
    haveI := kept_some wr
    refine wp_region_kept_shut _ _ (show _ = [_, _, _, _, _, _, _, _, _] ++ [_] from rfl) (by kernel_rfl) (by kernel_rfl) (by kernel_rfl) ?_
    repeat (go_big_quiet_step ((first | (go_at_call 24; exact kept_call (CM.out _)) | (go_at_call 23; exact kept_same (CO.out _)))))
    refine wpQuiet_nil ?_
    rintro _ ⟨wk, rfl⟩
    have VK := V.out.next wk.below
    have ZK := (wk.block (w.heap.size + 1) (lt_of_block Z.out)).trans Z.out
    have BK := bnext B.out wk.below
    clear ci
    have ci := VK.at i hi
    have zi := VK.frozen (1 + i)
    have V1 := hide (VK.set i y)
    have Z1 := hide ((heap_setCell_other _ ⟨w.heap.size, 1 + i, none⟩ (w.heap.size + 1) (.int .i64 y) (by simp)).trans ZK)
    have B1 := hide (BK.setCell (p := ⟨w.heap.size, 1 + i, none⟩) (Nat.le_refl _) (.int .i64 y))
    clear VK ZK BK V Z B k0 CM CO CW c0 z0
    go_wp2_with fail
    obtain ⟨wt, hwt⟩ : ∃ wt, wt = wk.val.setCell ⟨w.heap.size, 1 + i, none⟩ (.int .i64 y) := ⟨_, rfl⟩
    rw [← hwt] at V1 Z1 B1 ⊢
    clear hwt ci zi
    have k0 := kept_cell V1.out.c0 V1.out.lt
    haveI := kept_some wt
    refine wp_region_kept_shut2 _ _ _ (show _ = ([_, _, _, _, _] ++ [_]) ++ [_] from rfl) (by kernel_rfl) (by kernel_rfl) (by kernel_rfl) (by kernel_rfl) ?_
    repeat (first
      | (refine wpQuiet_row rfl 28 (.tmp 3) rfl w.heap.size rfl 28 _ (0, 0) _ (fun w' ⟨x, hx⟩ => by rw [hx]; exact (x.block _ V1.out.lt).trans V1.out) Tryd.underlying28 rfl (info_R _ _) ?_; simp only [Act.put, List.setIfInBounds_toArray, List.set_cons_succ, List.set_cons_zero])
      | go_big_quiet_step ((go_at_call 25; exact kept_same (CE.out _))))
    refine wpQuiet_nil ?_
    rintro _ ⟨wj, rfl⟩
    have Z2 := hide ((wj.block (w.heap.size + 1) (lt_of_block Z1.out)).trans Z1.out)
    have B2 := hide (bnext B1.out wj.below)
    clear V1 Z1 B1 k0 CE
    go_wp2_with (first
      | (refine wpList_store_row rfl 28 (.tmp 6) (.tmp 60) rfl (w.heap.size + 1) _ rfl rfl 28 _ Z2.out (info_R _ _) (by rw [rowG_size]; rfl) (rowG_one _ _) ?_)
      | (refine bodyPost_ret (results_agg_tmp rfl _ _ (w.heap.size + 1) 28 _ (0, 0) _ rfl (setRow_heap _ _ _ _ _ _ Z2.out) Tryd.underlying28 rfl (info_R _ _)) rfl ⟨rfl, below_setRow B2.out (Nat.le_succ _) _⟩))
  · have hc : f i % 65536 % 256 + 256 * (b % 256) = h := by
      rw [← hh]
      unfold halfOf highOf
      rw [if_neg (by decide)]
      omega
    clear hh hy hx hm
    have V := hide ((hasG_new 28 w (i : Int) f).alloc (.cells #[.int .i64 0, .int .i64 0, .int .i64 0, .int .i64 0, .int .i64 0, .int .i64 0, .int .i64 0, .int .i64 0, .int .i64 0, .int .i64 0, .int .i64 0, .int .i64 0, .int .i64 0, .int .i64 0, .int .i64 0, .int .i64 0, .int .i64 0, .int .i64 0, .int .i64 0, .int .i64 0, .int .i64 0] 28))
    have Z := hide (heap_alloc2_new w (.cells (rowG (i : Int) f) 28) (.cells #[.int .i64 0, .int .i64 0, .int .i64 0, .int .i64 0, .int .i64 0, .int .i64 0, .int .i64 0, .int .i64 0, .int .i64 0, .int .i64 0, .int .i64 0, .int .i64 0, .int .i64 0, .int .i64 0, .int .i64 0, .int .i64 0, .int .i64 0, .int .i64 0, .int .i64 0, .int .i64 0, .int .i64 0] 28))
    have B := hide (((Below.refl _ w).alloc (Nat.le_refl _) (.cells (rowG (i : Int) f) 28)).alloc (by simp) (.cells #[.int .i64 0, .int .i64 0, .int .i64 0, .int .i64 0, .int .i64 0, .int .i64 0, .int .i64 0, .int .i64 0, .int .i64 0, .int .i64 0, .int .i64 0, .int .i64 0, .int .i64 0, .int .i64 0, .int .i64 0, .int .i64 0, .int .i64 0, .int .i64 0, .int .i64 0, .int .i64 0, .int .i64 0] 28))
    go_enter Tryd.func8, Tryd.ntmps8
    go_wp2_with fail
    refine named_calls fun wr hwr => ?_
    rw [← hwr] at V Z B
    clear hwr
    have c0 := V.out.c0
    have z0 := V.out.frozen 0
    refine (rbyte_any _ _).mono ?_
    rintro e w' ⟨rfl, hw⟩
    subst w'
    generalize f i % 65536 = v at *
    generalize b % 256 = c at *
    have ci := V.out.at i hi
    go_wp2_with (first | (go_at_call 22; refine (CW.out _).mono ?_; rintro e w' ⟨rfl, hw⟩; subst w'))
    have k0 := kept_cell c0 V.out.lt
    haveI := kept_some wr
    refine wp_region_kept_shut _ _ (show _ = [_, _, _, _, _, _, _, _, _] ++ [_] from rfl) (by kernel_rfl) (by kernel_rfl) (by kernel_rfl) ?_
    repeat (go_big_quiet_step ((first | (go_at_call 24; exact kept_call (CM.out _)) | (go_at_call 23; exact kept_same (CO.out _)))))
    refine wpQuiet_nil ?_
    rintro _ ⟨wk, rfl⟩
    have VK := V.out.next wk.below
    have ZK := (wk.block (w.heap.size + 1) (lt_of_block Z.out)).trans Z.out
    have BK := bnext B.out wk.below
    clear ci
    have ci := VK.at i hi
    have zi := VK.frozen (1 + i)
    have V1 := hide (VK.set i y)
    have Z1 := hide ((heap_setCell_other _ ⟨w.heap.size, 1 + i, none⟩ (w.heap.size + 1) (.int .i64 y) (by simp)).trans ZK)
    have B1 := hide (BK.setCell (p := ⟨w.heap.size, 1 + i, none⟩) (Nat.le_refl _) (.int .i64 y))
    clear VK ZK BK V Z B k0 CM CO CW c0 z0
    go_wp2_with fail
    obtain ⟨wt, hwt⟩ : ∃ wt, wt = wk.val.setCell ⟨w.heap.size, 1 + i, none⟩ (.int .i64 y) := ⟨_, rfl⟩
    rw [← hwt] at V1 Z1 B1 ⊢
    clear hwt ci zi
    have k0 := kept_cell V1.out.c0 V1.out.lt
    haveI := kept_some wt
    refine wp_region_kept_shut2 _ _ _ (show _ = ([_, _, _, _, _] ++ [_]) ++ [_] from rfl) (by kernel_rfl) (by kernel_rfl) (by kernel_rfl) (by kernel_rfl) ?_
    repeat (first
      | (refine wpQuiet_row rfl 28 (.tmp 3) rfl w.heap.size rfl 28 _ (0, 0) _ (fun w' ⟨x, hx⟩ => by rw [hx]; exact (x.block _ V1.out.lt).trans V1.out) Tryd.underlying28 rfl (info_R _ _) ?_; simp only [Act.put, List.setIfInBounds_toArray, List.set_cons_succ, List.set_cons_zero])
      | go_big_quiet_step ((go_at_call 25; exact kept_same (CE.out _))))
    refine wpQuiet_nil ?_
    rintro _ ⟨wj, rfl⟩
    have Z2 := hide ((wj.block (w.heap.size + 1) (lt_of_block Z1.out)).trans Z1.out)
    have B2 := hide (bnext B1.out wj.below)
    clear V1 Z1 B1 k0 CE
    go_wp2_with (first
      | (refine wpList_store_row rfl 28 (.tmp 6) (.tmp 60) rfl (w.heap.size + 1) _ rfl rfl 28 _ Z2.out (info_R _ _) (by rw [rowG_size]; rfl) (rowG_one _ _) ?_)
      | (refine bodyPost_ret (results_agg_tmp rfl _ _ (w.heap.size + 1) 28 _ (0, 0) _ rfl (setRow_heap _ _ _ _ _ _ Z2.out) Tryd.underlying28 rfl (info_R _ _)) rfl ⟨rfl, below_setRow B2.out (Nat.le_succ _) _⟩))
end Go.Proofs.YtbgbedkmggefpaaDoor
