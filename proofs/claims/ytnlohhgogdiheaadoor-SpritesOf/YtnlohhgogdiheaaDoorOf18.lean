/- Package sprites: the contract of Of. -/
import Derived.Test.YtnlohhgogdiheaaDoorLaw18
import Derived.Test.YtnlohhgogdiheaaDoorLastAny
namespace Go.Proofs.YtnlohhgogdiheaaDoor
open Go.RowKit
set_option linter.unusedVariables false

theorem of_no (T : Nat → Int) (k : Int) (hk : k < 0 ∨ 64 ≤ k) (w : World) : Calls Tryd.prog 10 #[.agg (tabL T).toArray, .int .i64 k] w fun e w' => e = .returned (.agg #[.int .i64 0, .int .i64 0, .int .i64 0, .int .i64 0, .int .i64 0, .int .i64 0, .bool false, .bool false, .bool false]) ∧ Below w.heap.size w w' := by
  have BA := hide (((Below.refl _ w).alloc (Nat.le_refl _) (.cells (tabL T).toArray 23)).alloc (by simp) (.cells #[.int .i64 0, .int .i64 0, .int .i64 0, .int .i64 0, .int .i64 0, .int .i64 0, .bool false, .bool false, .bool false] 26))
  by_cases h : k < 0
  · clear hk
    have h1 : decide (k < 0) = true := decide_eq_true h
    go_enter Tryd.func10, Tryd.ntmps10
    go_wp2_with (first
      | (refine wpList_store_row rfl 26 (.tmp 4) (.tmp 11) rfl (w.heap.size + 1) _ rfl rfl 26 _ (heap_alloc2_new _ _ _) (by kernel_rfl) rfl (by kernel_rfl) ?_)
      | (refine bodyPost_ret (results_cell_row rfl _ _ (w.heap.size + 1) 26 _ (0, 0) _ rfl (setRow_heap _ _ _ _ _ _ (heap_alloc2_new _ _ _)) Tryd.underlying26 rfl (by kernel_rfl)) rfl ⟨rfl, below_setRow BA.out (by simp) _⟩))
  · have h1 : decide (k < 0) = false := decide_eq_false h
    have h2 : decide (64 ≤ k) = true := decide_eq_true (by omega)
    clear hk
    go_enter Tryd.func10, Tryd.ntmps10
    go_wp2_with (first
      | (refine wpList_store_row rfl 26 (.tmp 4) (.tmp 11) rfl (w.heap.size + 1) _ rfl rfl 26 _ (heap_alloc2_new _ _ _) (by kernel_rfl) rfl (by kernel_rfl) ?_)
      | (refine bodyPost_ret (results_cell_row rfl _ _ (w.heap.size + 1) 26 _ (0, 0) _ rfl (setRow_heap _ _ _ _ _ _ (heap_alloc2_new _ _ _)) Tryd.underlying26 rfl (by kernel_rfl)) rfl ⟨rfl, below_setRow BA.out (by simp) _⟩))
set_option maxHeartbeats 1000000 in
theorem of_is (T : Nat → Int) (k : Nat) (hk : k < 64) (w : World) (HH : Hid (HasHigh w)) : Calls Tryd.prog 10 #[.agg (tabL T).toArray, .int .i64 (k : Int)] w fun e w' => e = .returned (oneV (T (4 * k)) (T (4 * k + 1)) (T (4 * k + 2)) (T (4 * k + 3))) ∧ Below w.heap.size w w' := by
  have MZ := hide (fun u (hu : HasHigh u) => made_any (T (4 * k)) (T (4 * k + 1)) (T (4 * k + 2)) (T (4 * k + 3)) u hu)
  unfold oneV at *
  obtain ⟨X, hX⟩ : ∃ X, sprX (T (4 * k + 1)) = X := ⟨_, rfl⟩
  obtain ⟨Y, hY⟩ : ∃ Y, sprY (T (4 * k)) = Y := ⟨_, rfl⟩
  obtain ⟨W, hW⟩ : ∃ W, sprW (T (4 * k + 3)) = W := ⟨_, rfl⟩
  obtain ⟨H, hH⟩ : ∃ H, sprH (T (4 * k + 3)) = H := ⟨_, rfl⟩
  obtain ⟨C, hC⟩ : ∃ C, sprC (T (4 * k + 2)) W H = C := ⟨_, rfl⟩
  obtain ⟨P, hP⟩ : ∃ P, sprP (T (4 * k + 3)) = P := ⟨_, rfl⟩
  obtain ⟨fr, hfr⟩ : ∃ f, sprB (T (4 * k + 3)) 7 = f := ⟨_, rfl⟩
  obtain ⟨fx, hfx⟩ : ∃ f, sprB (T (4 * k + 3)) 11 = f := ⟨_, rfl⟩
  obtain ⟨fy, hfy⟩ : ∃ f, sprB (T (4 * k + 3)) 15 = f := ⟨_, rfl⟩
  rw [hX, hY, hW, hH, hC, hP, hfr, hfx, hfy] at MZ ⊢
  clear hX hY hW hH hC hP hfr hfx hfy
  obtain ⟨a0, ha0⟩ : ∃ a, T (4 * k) = a := ⟨_, rfl⟩
  obtain ⟨a1, ha1⟩ : ∃ a, T (4 * k + 1) = a := ⟨_, rfl⟩
  obtain ⟨a2, ha2⟩ : ∃ a, T (4 * k + 2) = a := ⟨_, rfl⟩
  obtain ⟨a3, ha3⟩ : ∃ a, T (4 * k + 3) = a := ⟨_, rfl⟩
  rw [ha0, ha1, ha2, ha3] at MZ
  obtain ⟨q, hq⟩ : ∃ q, 4 * k = q := ⟨_, rfl⟩
  rw [hq] at ha0 ha1 ha2 ha3
  have A0 := hide ha0
  have A1 := hide ha1
  have A2 := hide ha2
  have A3 := hide ha3
  have eq : 4 * (k : Int) = (q : Int) := by omega
  have hq2 : q ≤ 252 := by omega
  clear hq ha0 ha1 ha2 ha3
  go_enter Tryd.func10, Tryd.ntmps10
  go_wp2_with fail
  refine under_name fun wa hwa => ?_
  obtain ⟨b0, b1, hs, BB⟩ := two_named hwa
  have T0 := hide (show HasTb wa w.heap.size T from b0)
  have R0 := hide b1
  have B0 := hide BB
  clear hwa b0 b1 hs BB
  obtain ⟨zr, hzr⟩ : ∃ z, w.heap.size + 1 = z := ⟨_, rfl⟩
  have HZ := hide (show w.heap.size ≤ zr by omega)
  rw [hzr] at R0 ⊢
  clear hzr
  obtain ⟨zt, hzt⟩ : ∃ z, w.heap.size = z := ⟨_, rfl⟩
  rw [hzt] at T0 ⊢
  clear hzt
  have i0 := kept_cell (T0.out.at q (by omega)) T0.out.lt
  have i1 := kept_cell (T0.out.at (q + 1) (by omega)) T0.out.lt
  have i2 := kept_cell (T0.out.at (q + 2) (by omega)) T0.out.lt
  have i3 := kept_cell (T0.out.at (q + 3) (by omega)) T0.out.lt
  rw [A0.out] at i0
  rw [A1.out] at i1
  rw [A2.out] at i2
  rw [A3.out] at i3
  have hb := HH.out.next B0.out
  have KM := hide (fun (x : Kept wa) => MZ.out x.val (hb.next x.below))
  clear hb
  haveI := kept_some wa
  refine wp_region_kept_shut _ _ (show _ = [_, _, _, _, _, _, _, _, _, _, _, _, _, _, _, _, _, _, _, _] ++ [_] from rfl) (by kernel_rfl) (by kernel_rfl) (by kernel_rfl) ?_
  repeat (go_big_quiet_step ((first | (go_at_call 15; exact kept_call (KM.out _)))))
  refine wpQuiet_nil ?_
  rintro _ ⟨wk, rfl⟩
  clear i0 i1 i2 i3
  have R1 := hide ((wk.below.block _ (lt_of_block R0.out)).trans R0.out)
  have B1 := hide (bnext B0.out wk.below)
  go_wp2_with (first
    | (refine wpList_store_row rfl 26 (.tmp 4) (.tmp 31) rfl zr _ rfl rfl 26 _ R1.out (by kernel_rfl) rfl (by kernel_rfl) ?_)
    | (refine bodyPost_ret (results_cell_row rfl _ _ zr 26 _ (0, 0) _ rfl (setRow_heap _ _ _ _ _ _ R1.out) Tryd.underlying26 rfl (by kernel_rfl)) rfl ⟨rfl, below_setRow B1.out HZ.out _⟩))
end Go.Proofs.YtnlohhgogdiheaaDoor
