/- The law's own maker of states of layer 12: what it makes. -/
import Derived.Test.YtnhjhmfiapjenaaDoorBigEq
import Derived.Test.YtnhjhmfiapjenaaDoorGenA
namespace Go.Proofs.YtnhjhmfiapjenaaDoor.V12
open Go.RowKit
set_option linter.unusedVariables false

theorem info_V (c a : Int) (f : Nat → Int) : (Tryd.prog.info? 34).map (·.size) = some (rowV c a f).size := by
  rw [rowV_size]
  kernel_rfl
theorem built_2 (c a : Int) : (zeroC.setIfInBounds 0 (.int .i64 c)).setIfInBounds 1 (.int .i64 a) = rowV c a (fun _ => 0) := by rw [zero_V, rowV_set0, rowV_set1]
/-- The table behind k rounds. -/
def madeTo (zs : List Int) : Nat → Nat → Int
  | 0 => fun _ => 0
  | k + 1 => upd (madeTo zs k) (k * 37 % 512) (zs.getD k 0)

set_option maxRecDepth 20000 in
theorem made_any (c a : Int) (s : Option Addr) (len cap : Nat) (zs : List Int) (w : World) (hr : IsRow .i64 w s len cap zs) :
    Calls Tryd.prog 8 #[.int .i64 c, .int .i64 a, .slice s len cap] w fun e w' => e = .returned (.agg (rowV c a (madeTo zs (min len 512)))) ∧ Below w.heap.size w w' := by
  have hm : len ≤ maxLen := by
    rcases hr with ⟨_, rfl, _, _⟩ | ⟨x, _, h1, h2, _⟩
    · exact Nat.zero_le _
    · omega
  have hmax : len < 9223372036854775808 := by simp [maxLen] at hm; omega
  clear hm
  have HR := hide hr
  clear hr
  obtain ⟨F, hF⟩ : ∃ F, F = madeTo zs (min len 512) := ⟨_, rfl⟩
  rw [← hF]
  have HF := hide hF
  clear hF
  have hb := built_2 c a
  have N0 := hide (show HasV 34 ((w.alloc (.cells zeroC 34)).alloc (.cells zeroC 34)) (w.heap.size + 1) 0 0 (fun _ => 0) by rw [zero_V]; exact heap_alloc2_new _ _ _)
  try have hzz := zero_same w (Tryd.zeroValue34 w)
  go_enter Tryd.func8, Tryd.ntmps8
  go_wp2_with (first
    | (refine wpList_store_row rfl 34 (.tmp 7) (.tmp 11) rfl (w.heap.size + 1) _ rfl rfl 34 _ N0.out (info_V _ _ _) (by rw [rowV_size, rowV_size]) (rowV_one _ _ _) ?_))
  obtain ⟨wa, hwa⟩ : ∃ wa, wa = ((w.alloc (.cells zeroC 34)).alloc (.cells zeroC 34)).setRow (w.heap.size + 1) (rowV c a (fun _ => 0)) := ⟨_, rfl⟩
  have V0 := hide (show HasV 34 wa (w.heap.size + 1) c a (fun _ => 0) by rw [hwa]; exact setRow_heap _ _ _ _ _ _ N0.out)
  have R0 := hide (show HasV 34 wa w.heap.size 0 0 (fun _ => 0) by rw [hwa, zero_V]; exact (setRow_other _ _ _ _ (by simp)).trans ((hasV_new 34 w 0 0 (fun _ => 0)).alloc _))
  have B0 := hide (show Below w.heap.size w wa by rw [hwa]; exact below_setRow (((Below.refl _ w).alloc (Nat.le_refl _) _).alloc (by simp) _) (Nat.le_succ _) _)
  rw [← hwa]
  clear hwa N0 hb
  go_loopw [8] (fun si wr => ∃ k : Nat, k ≤ min len 512 ∧ si = .int .i64 (k : Int) ∧ HasV 34 wr (w.heap.size + 1) c a (madeTo zs k) ∧ HasV 34 wr w.heap.size 0 0 (fun _ => 0) ∧ Below w.heap.size w wr) (fun si _ => 512 - (intOf si).toNat)
  case atStart => exact ⟨0, Nat.zero_le _, rfl, V0.out, R0.out, B0.out⟩
  case round =>
    obtain ⟨k, hk, rfl, hv, hr, hb⟩ := hrel
    have VK := hide hv
    have RK := hide hr
    have BK := hide hb
    clear hv hr hb V0 R0 B0
    by_cases hlt : k < min len 512
    · have hl : k < len := by omega
      have h5 : k < 512 := by omega
      obtain ⟨bb, off, rfl, hbb, _, _, hc⟩ := HR.out.cells (by omega)
      have hcell := (BK.out.cell (p := ⟨bb, off + k, none⟩) hbb).trans (hc k hl).1
      obtain ⟨j, hj, hj5⟩ : ∃ j, k * 37 % 512 = j ∧ j < 512 := ⟨_, rfl, Nat.mod_lt _ (by decide)⟩
      have hji : (k : Int) * 37 % 512 = (j : Int) := by omega
      have HS := hide (show madeTo zs (k + 1) = upd (madeTo zs k) j (zs.getD k 0) by rw [← hj]; rfl)
      have cj := VK.out.at j hj5
      have zj := VK.out.frozen (2 + j)
      obtain ⟨z, hz⟩ : ∃ z, z = zs.getD k 0 := ⟨_, rfl⟩
      rw [← hz] at hcell HS
      have hrest := hide hlt
      clear hc hz hj hk hlt
      generalize madeTo zs k = f at *
      go_wp2_with fail
      go_roundw
      case rel => exact ⟨k + 1, by have := hrest.out; omega, by go_num, by rw [HS.out]; exact VK.out.set j z, RK.out.other _ _ (by simp), BK.out.setCell (Nat.le_succ _) _⟩
      case measure => simp [intOf]; omega
    · have hk2 : k = min len 512 := by omega
      have hf : madeTo zs k = F := by rw [hk2]; exact HF.out.symm
      rw [hf] at VK
      clear hf HF
      by_cases hl : len ≤ 512
      · obtain rfl : k = len := by omega
        clear hk hlt hk2
        go_wp2_with (first
          | (refine wpList_load_row rfl 34 (.tmp 7) rfl (w.heap.size + 1) rfl 34 _ (0, 0) _ VK.out Tryd.underlying34 rfl (info_V _ _ _) ?_)
          | (refine wpList_store_row rfl 34 (.tmp 6) (.tmp 31) rfl w.heap.size _ rfl rfl 34 _ RK.out (info_V _ _ _) (by rw [rowV_size, rowV_size]) (rowV_one _ _ _) ?_)
          | (refine bodyPost_ret (results_cell_row rfl _ _ w.heap.size 34 _ (0, 0) _ rfl (setRow_heap _ _ _ _ _ _ RK.out) Tryd.underlying34 rfl (info_V _ _ _)) rfl ⟨rfl, below_setRow BK.out (Nat.le_refl _) _⟩))
      · obtain rfl : k = 512 := by omega
        have hl2 : (512 : Int) < (len : Int) := by omega
        clear hk hlt hk2
        go_wp2_with (first
          | (refine wpList_load_row rfl 34 (.tmp 7) rfl (w.heap.size + 1) rfl 34 _ (0, 0) _ VK.out Tryd.underlying34 rfl (info_V _ _ _) ?_)
          | (refine wpList_store_row rfl 34 (.tmp 6) (.tmp 31) rfl w.heap.size _ rfl rfl 34 _ RK.out (info_V _ _ _) (by rw [rowV_size, rowV_size]) (rowV_one _ _ _) ?_)
          | (refine bodyPost_ret (results_cell_row rfl _ _ w.heap.size 34 _ (0, 0) _ rfl (setRow_heap _ _ _ _ _ _ RK.out) Tryd.underlying34 rfl (info_V _ _ _)) rfl ⟨rfl, below_setRow BK.out (Nat.le_refl _) _⟩))
end Go.Proofs.YtnhjhmfiapjenaaDoor.V12
