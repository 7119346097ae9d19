/- Consoles that no call made, and of no card, do nothing: the walk. -/
import Derived.Test.YtnoggfnidaifkaaGreatDoorConsoleNobodyJ44
import Derived.Test.YtnoggfnidaifkaaGreatDoorConsoleNobodyJ50
import Derived.Test.YtnoggfnidaifkaaGreatDoorConsoleNobodyJ01
namespace Go.Proofs.YtnoggfnidaifkaaGreatDoor
set_option maxRecDepth 20000
open A2 B4 C3 D24 G6 I11 J23 K9 L24 L25 M5 N8 O7 P22 R15 T10 V12 W13
open Go.RowKit
set_option linter.unusedVariables false
set_option linter.unusedSimpArgs false
theorem con_none {w : World} {p : Value} (K : Calls Tryz.prog 12 #[p] w fun e w' => e = Ending.returned (.pointer none) ∧ w' = w) : Calls Tryz.prog 4 #[p] w fun e w' => e = Ending.returned (.pointer none) ∧ w' = w := by
  replace K := hide K
  go_enter Tryz.func4, Tryz.ntmps4
  go_wp2_with (first | (go_at_call 12; refine K.out.mono ?_; rintro e w' ⟨rfl, hw⟩; subst w'))
  go_ret
  exact ⟨rfl, rfl⟩
theorem zero_con (w : World) : (zeroValue 40).run Tryz.prog w = .ok (.agg #[.int .i64 0, .int .i64 0, .int .i64 0, .int .i64 0, .int .i64 0, .int .i64 0, .bool false, .int .i64 0, .pointer none, .int .i64 0, .int .i64 0, .int .i64 0, .int .i64 0, .int .i64 0, .int .i64 0, .int .i64 0, .int .i64 0]) w := by kernel_rfl
def CN (b : Nat) (pc wait : Int) : Array Value := conC b (rc pc) false 0 8 3 4 4 262 0 wait 0
set_option maxHeartbeats 4000000 in
theorem consoleNobody_walk (a0 : Int) (W : World) (w0 : (Lit.int .i64 a0).wf = true) (hL : (Tabs W ∧ HasErr W ∧ CT W) ∧ 10 ≤ W.heap.size) :
    Calls Tryz.prog 3 #[.int .i64 a0] W fun e w' => e = .returned (.bool true) ∧ Below W.heap.size W w' := by
  have HT := hide hL.1
  have HG := hide hL.2
  clear hL w0
  go_enter Tryz.func3, Tryz.ntmps3
  go_wp2_with fail
  refine (con_none (new_none _)).mono ?_
  rintro e w1 ⟨rfl, hw⟩
  subst w1
  go_wp2_with fail
  refine (con_none (new_plain (cell_of_row _ _ 0 _ _ _ (heap_alloc_new _ _)))).mono ?_
  rintro e w1 ⟨rfl, hw⟩
  subst w1
  go_wp2_with fail
  have b1 := (Below.refl W.heap.size W).alloc (Nat.le_refl _) (.cells #[.slice none 0 0] 27)
  refine (both_0 (HT.out.1.next b1) (HT.out.2.1.next b1) (HT.out.2.2.next b1) (Nat.le_trans HG.out b1.size)).mono ?_
  rintro e w2 ⟨g, b, v, c, d, y, pc, bs, hpc, rfl, hm, hk, ⟨l1, l2, l3⟩, ng, b2⟩
  have HM := hide hm
  have HK : Hid (w2.heap[g]? = some (.cells (CN b pc 0) 40 (0, 0))) := hide hk
  have PC := hide hpc
  have NG := hide ng
  have LS := hide (show W.heap.size ≤ b ∧ W.heap.size ≤ v ∧ W.heap.size ≤ g by have := b1.size; omega)
  have B2 := hide (b1.trans (b2.mono b1.size))
  have KV := hide (valid_yes hk hm vz_K (conOk_new hpc))
  clear hm hk hpc ng l1 l2 l3 b1 b2
  go_wp2_with fail
  refine KV.out.mono ?_
  rintro e w3 ⟨rfl, b3⟩
  have HM3 := hide (HM.out.next b3)
  have HK3 := hide ((b3.block g (lt_of_block HK.out)).trans HK.out)
  have B3 := hide (bnext B2.out b3)
  clear b3 HM HK B2 KV
  have IC := hide (show (Tryz.prog.info? 40).map (·.size) = some (CN b pc 0).size by kernel_rfl)
  go_upto_region 7 with (first
    | (refine wpList_load_row rfl 40 (.tmp 30) rfl g rfl _ _ _ _ HK3.out Tryz.underlying40 rfl (by kernel_rfl) ?_)
    | (refine wpList_alloced rfl 40 rfl #[.int .i64 0, .int .i64 0, .int .i64 0, .int .i64 0, .int .i64 0, .int .i64 0, .bool false, .int .i64 0, .pointer none, .int .i64 0, .int .i64 0, .int .i64 0, .int .i64 0, .int .i64 0, .int .i64 0, .int .i64 0, .int .i64 0] zero_con ?_)
    | (refine wpList_store_row rfl 40 (.tmp 5) (.tmp 31) rfl w3.heap.size _ rfl rfl 40 _ (heap_alloc_new _ _) (by kernel_rfl) rfl (by kernel_rfl) ?_))
  refine under_name fun w4 hw4 => ?_
  have O4 := hide (show w4.heap[w3.heap.size]? = some (.cells (CN b pc 0) 40 (0, 0)) by rw [hw4]; exact setRow_heap _ _ _ _ _ _ (heap_alloc_new _ _))
  have b4 : Below w3.heap.size w3 w4 := by rw [hw4]; exact below_setRow ((Below.refl _ w3).alloc (Nat.le_refl _) _) (Nat.le_refl _) _
  have HM4 := hide (HM3.out.next b4)
  have B4 := hide (bnext B3.out b4)
  obtain ⟨o, ho⟩ : ∃ o, w3.heap.size = o := ⟨_, rfl⟩
  have LO := hide (show W.heap.size ≤ o ∧ o ≠ b ∧ o ≠ v ∧ o ≠ c ∧ o ≠ d by have := HM3.out.lts; have := B3.out.size; omega)
  rw [ho] at O4 ⊢
  clear hw4 b4 ho HM3 B3 HK3 IC
  have c15 : w4.cell? ⟨o, 15, none⟩ = some (.int .i64 0) := (cell_of_row _ o 15 _ _ _ O4.out).trans rfl
  have f15 := frozen_of_row w4 o 15 _ _ O4.out
  go_upto_region 8 with fail
  refine under_name fun w5 hw5 => ?_
  have O5 := hide (show HasK w5 o b (rc pc) false 0 8 3 4 4 262 0 (-1) 0 by rw [hw5]; exact heap_setCell_same w4 o 15 _ _ _ O4.out)
  have k5 : OnlyE (fun i => i = o) w4 w5 := by rw [hw5]; exact ⟨rfl, rfl, rfl, by simp [World.setCell], fun i hi hE => heap_setCell_other w4 _ i _ hE⟩
  have HM5 := hide (show HasM w5 b v c d bs zK by
    exact HM4.out.but k5 ⟨LO.out.2.1, LO.out.2.2.1, LO.out.2.2.2.1, LO.out.2.2.2.2, Nat.le_trans HG.out LO.out.1⟩)
  have B5 := hide (B4.out.trans (k5.below (B := W.heap.size) (fun k e => e ▸ LO.out.1) B4.out.size))
  clear hw5 k5 O4 HM4 B4 c15 f15
  go_wp2_with (first
    | (refine wpList_built rfl 70 _ rfl #[] (by simp) _ built_0 ?_
       obtain ⟨R, hR⟩ : ∃ R, rowF (segs L0) 9263 = R := ⟨_, rfl⟩
       rw [hR]
       replace hR := hide hR))
  refine under_name fun w6 hw6 => ?_
  have q0 : w6.heap[w5.heap.size]? = some (.cells #[.int .i64 0, .int .i64 0, .int .i64 0, .int .i64 0, .int .i64 0, .int .i64 0, .bool false, .int .i64 0, .pointer none, .int .i64 0, .int .i64 0, .int .i64 0, .int .i64 0, .int .i64 0, .int .i64 0, .int .i64 0, .int .i64 0] 40 (0, 0)) := by
    rw [hw6, heap_alloc_old _ _ (by first | (simp; done) | (simp; omega)), heap_alloc_old _ _ (by first | (simp; done) | (simp; omega)), heap_alloc_old _ _ (by simp)]
    exact heap_alloc_new _ _
  have Z6 := hide (show w6.heap[w5.heap.size + 1]? = some (.cells (rowF (segs L0) 9263) 70 (0, 0)) by
    rw [hw6]
    rw [hR.out, heap_alloc_old _ _ (by first | (simp; done) | (simp; omega)), heap_alloc_old _ _ (by first | (simp; done) | (simp; omega))]
    have k := heap_alloc_new (w5.alloc (.cells #[.int .i64 0, .int .i64 0, .int .i64 0, .int .i64 0, .int .i64 0, .int .i64 0, .bool false, .int .i64 0, .pointer none, .int .i64 0, .int .i64 0, .int .i64 0, .int .i64 0, .int .i64 0, .int .i64 0, .int .i64 0, .int .i64 0] 40)) (.cells R 70)
    rwa [show (w5.alloc (.cells #[.int .i64 0, .int .i64 0, .int .i64 0, .int .i64 0, .int .i64 0, .int .i64 0, .bool false, .int .i64 0, .pointer none, .int .i64 0, .int .i64 0, .int .i64 0, .int .i64 0, .int .i64 0, .int .i64 0, .int .i64 0, .int .i64 0] 40)).heap.size = w5.heap.size + 1 by simp] at k)
  have q2 : w6.heap[w5.heap.size + 1 + 1]? = some (.cells #[.int .i64 0, .int .i64 0, .int .i64 0, .int .i64 0, .int .i64 0, .int .i64 0, .bool false, .int .i64 0, .pointer (some ⟨w5.heap.size + 1, 0, none⟩), .int .i64 0, .int .i64 0, .int .i64 0, .int .i64 0, .int .i64 0, .int .i64 0, .int .i64 0, .int .i64 0] 40 (0, 0)) := by
    rw [hw6, heap_alloc_old _ _ (by simp)]
    have k := heap_alloc_new ((w5.alloc (.cells #[.int .i64 0, .int .i64 0, .int .i64 0, .int .i64 0, .int .i64 0, .int .i64 0, .bool false, .int .i64 0, .pointer none, .int .i64 0, .int .i64 0, .int .i64 0, .int .i64 0, .int .i64 0, .int .i64 0, .int .i64 0, .int .i64 0] 40)).alloc (.cells R 70)) (.cells #[.int .i64 0, .int .i64 0, .int .i64 0, .int .i64 0, .int .i64 0, .int .i64 0, .bool false, .int .i64 0, .pointer (some ⟨w5.heap.size + 1, 0, none⟩), .int .i64 0, .int .i64 0, .int .i64 0, .int .i64 0, .int .i64 0, .int .i64 0, .int .i64 0, .int .i64 0] 40)
    rwa [show ((w5.alloc (.cells #[.int .i64 0, .int .i64 0, .int .i64 0, .int .i64 0, .int .i64 0, .int .i64 0, .bool false, .int .i64 0, .pointer none, .int .i64 0, .int .i64 0, .int .i64 0, .int .i64 0, .int .i64 0, .int .i64 0, .int .i64 0, .int .i64 0] 40)).alloc (.cells R 70)).heap.size = w5.heap.size + 1 + 1 by simp] at k
  have q3 : w6.heap[w5.heap.size + 1 + 1 + 1]? = some (.cells #[.pointer none, .pointer (some ⟨w5.heap.size, 0, none⟩), .pointer (some ⟨w5.heap.size + 1 + 1, 0, none⟩), .pointer (some ⟨o, 0, none⟩)] 22 (0, 0)) := by
    rw [hw6]
    have k := heap_alloc_new (((w5.alloc (.cells #[.int .i64 0, .int .i64 0, .int .i64 0, .int .i64 0, .int .i64 0, .int .i64 0, .bool false, .int .i64 0, .pointer none, .int .i64 0, .int .i64 0, .int .i64 0, .int .i64 0, .int .i64 0, .int .i64 0, .int .i64 0, .int .i64 0] 40)).alloc (.cells R 70)).alloc (.cells #[.int .i64 0, .int .i64 0, .int .i64 0, .int .i64 0, .int .i64 0, .int .i64 0, .bool false, .int .i64 0, .pointer (some ⟨w5.heap.size + 1, 0, none⟩), .int .i64 0, .int .i64 0, .int .i64 0, .int .i64 0, .int .i64 0, .int .i64 0, .int .i64 0, .int .i64 0] 40)) (.cells #[.pointer none, .pointer (some ⟨w5.heap.size, 0, none⟩), .pointer (some ⟨w5.heap.size + 1 + 1, 0, none⟩), .pointer (some ⟨o, 0, none⟩)] 22)
    rwa [show (((w5.alloc (.cells #[.int .i64 0, .int .i64 0, .int .i64 0, .int .i64 0, .int .i64 0, .int .i64 0, .bool false, .int .i64 0, .pointer none, .int .i64 0, .int .i64 0, .int .i64 0, .int .i64 0, .int .i64 0, .int .i64 0, .int .i64 0, .int .i64 0] 40)).alloc (.cells R 70)).alloc (.cells #[.int .i64 0, .int .i64 0, .int .i64 0, .int .i64 0, .int .i64 0, .int .i64 0, .bool false, .int .i64 0, .pointer (some ⟨w5.heap.size + 1, 0, none⟩), .int .i64 0, .int .i64 0, .int .i64 0, .int .i64 0, .int .i64 0, .int .i64 0, .int .i64 0, .int .i64 0] 40)).heap.size = w5.heap.size + 1 + 1 + 1 by simp] at k
  have b6 : Below w5.heap.size w5 w6 := by
    rw [hw6]
    exact ((((Below.refl _ w5).alloc (Nat.le_refl _) _).alloc (by simp) _).alloc (by simp; omega) _).alloc (by simp; omega) _
  have HM6 := hide (HM5.out.next b6)
  have O6 := hide (HasK.next O5.out b6)
  have B6 := hide (bnext B5.out b6)
  clear hw6 HM5 B5 O5
  have M0 : Hid (MissK (.pointer none) w6) := hide (missK_nil w6)
  have M1 : Hid (MissK (.pointer (some ⟨w5.heap.size, 0, none⟩)) w6) := hide (missK_no q0 rfl)
  have M2 : Hid (MissK (.pointer (some ⟨w5.heap.size + 1 + 1, 0, none⟩)) w6) := hide (missK_plain q2 rfl Z6.out ((rowF_at _ 9263 281 (by decide)).trans (by
    have q := segs_get L0 6 1 (fun _ => .pointer none) 0 rfl (by decide)
    rw [show soff L0 6 = 281 from of_decide_eq_true (by kernel_rfl)] at q
    rw [show 281 = 281 + 0 from rfl, q])))
  have MO : Hid (NoV (.pointer (some ⟨o, 0, none⟩)) w6) := hide (noV_odd O6.out HM6.out vz_K (conOk_new PC.out))
  have HS := hide (fun (w' : World) (k : Below w6.heap.size w6 w') (i : Nat) => cell_of_row w' (w5.heap.size + 1 + 1 + 1) i _ _ _ ((k.block _ (lt_of_block q3)).trans q3))
  have L6 := hide (show b < w6.heap.size ∧ v < w6.heap.size ∧ o < w6.heap.size from ⟨HM6.out.lts.1, HM6.out.lts.2.1, lt_of_block O6.out⟩)
  clear q0 q2 q3 Z6 hR b6
  obtain ⟨g3, e3⟩ : ∃ g, w5.heap.size + 1 + 1 + 1 = g := ⟨_, rfl⟩
  obtain ⟨g2, e2⟩ : ∃ g, w5.heap.size + 1 + 1 = g := ⟨_, rfl⟩
  obtain ⟨g1, e1⟩ : ∃ g, w5.heap.size + 1 = g := ⟨_, rfl⟩
  simp only [e3] at HS ⊢
  simp only [e2] at M2 HS ⊢
  try simp only [e1] at HS ⊢
  obtain ⟨g0, e0⟩ : ∃ g, w5.heap.size = g := ⟨_, rfl⟩
  simp only [e0] at M1 HS ⊢
  clear e0 e1 e2 e3
  go_loopw [41] (fun s41 wr => ∃ k : Int, (k = 0 ∨ k = 1 ∨ k = 2 ∨ k = 3 ∨ k = 4) ∧ s41 = .int .i64 k ∧ (k ≤ 3 → Below w6.heap.size w6 wr) ∧ Below W.heap.size W wr) (fun s41 _ => (4 - intOf s41).toNat)
  case atStart => exact ⟨0, .inl rfl, rfl, fun _ => Below.refl _ _, B6.out⟩
  case round =>
    obtain ⟨k, hk, rfl, hb3, bel⟩ := hrel
    rcases hk with rfl | rfl | rfl | rfl | rfl
    · skip
      have BL := hide (hb3 (by decide))
      have s0 := (HS.out _ BL.out 0).trans (show _ = some (Value.pointer none) from rfl)
      clear hb3 bel
      go_wp2_with fail
      refine (reset_miss (M0.out.next BL.out)).mono ?_
      rintro e w7 ⟨rfl, hw⟩
      subst w7
      go_wp2_with fail
      refine (press_miss (M0.out.next BL.out)).mono ?_
      rintro e w7 ⟨rfl, b7⟩
      have B7 := hide (bnext BL.out b7)
      clear b7
      go_wp2_with fail
      refine (run_no (noV_miss (M0.out.next B7.out)) a0).mono ?_
      rintro e w8 ⟨rfl, b8⟩
      have B8 := hide (bnext B7.out b8)
      clear b8
      go_wp2_with fail
      refine (runFrame_no (noV_miss (M0.out.next B8.out))).mono ?_
      rintro e w9 ⟨rfl, b9⟩
      have B9 := hide (bnext B8.out b9)
      clear b9
      go_wp2_with fail
      refine under_calls fun wx hwx => ?_
      have BX := hide (show Below w6.heap.size w6 wx by
        rw [hwx]
        exact (B9.out.alloc B9.out.size _).alloc (B9.out.alloc B9.out.size _).size _)
      clear hwx
      refine (valid_miss (M0.out.next BX.out)).mono ?_
      rintro e wy ⟨rfl, bz⟩
      have BY := hide (bnext BX.out bz)
      clear bz
      go_wp2_with fail
      go_roundw
      case rel => exact ⟨1, (.inr (.inl rfl)), by go_num, fun _ => BY.out, B6.out.trans (BY.out.mono B6.out.size)⟩
      case measure => simp [intOf]
    · skip
      have BL := hide (hb3 (by decide))
      have s0 := (HS.out _ BL.out 1).trans (show _ = some (Value.pointer (some ⟨g0, 0, none⟩)) from rfl)
      clear hb3 bel
      go_wp2_with fail
      refine (reset_miss (M1.out.next BL.out)).mono ?_
      rintro e w7 ⟨rfl, hw⟩
      subst w7
      go_wp2_with fail
      refine (press_miss (M1.out.next BL.out)).mono ?_
      rintro e w7 ⟨rfl, b7⟩
      have B7 := hide (bnext BL.out b7)
      clear b7
      go_wp2_with fail
      refine (run_no (noV_miss (M1.out.next B7.out)) a0).mono ?_
      rintro e w8 ⟨rfl, b8⟩
      have B8 := hide (bnext B7.out b8)
      clear b8
      go_wp2_with fail
      refine (runFrame_no (noV_miss (M1.out.next B8.out))).mono ?_
      rintro e w9 ⟨rfl, b9⟩
      have B9 := hide (bnext B8.out b9)
      clear b9
      go_wp2_with fail
      refine under_calls fun wx hwx => ?_
      have BX := hide (show Below w6.heap.size w6 wx by
        rw [hwx]
        exact (B9.out.alloc B9.out.size _).alloc (B9.out.alloc B9.out.size _).size _)
      clear hwx
      refine (valid_miss (M1.out.next BX.out)).mono ?_
      rintro e wy ⟨rfl, bz⟩
      have BY := hide (bnext BX.out bz)
      clear bz
      go_wp2_with fail
      go_roundw
      case rel => exact ⟨2, (.inr (.inr (.inl rfl))), by go_num, fun _ => BY.out, B6.out.trans (BY.out.mono B6.out.size)⟩
      case measure => simp [intOf]
    · skip
      have BL := hide (hb3 (by decide))
      have s0 := (HS.out _ BL.out 2).trans (show _ = some (Value.pointer (some ⟨g2, 0, none⟩)) from rfl)
      clear hb3 bel
      go_wp2_with fail
      refine (reset_miss (M2.out.next BL.out)).mono ?_
      rintro e w7 ⟨rfl, hw⟩
      subst w7
      go_wp2_with fail
      refine (press_miss (M2.out.next BL.out)).mono ?_
      rintro e w7 ⟨rfl, b7⟩
      have B7 := hide (bnext BL.out b7)
      clear b7
      go_wp2_with fail
      refine (run_no (noV_miss (M2.out.next B7.out)) a0).mono ?_
      rintro e w8 ⟨rfl, b8⟩
      have B8 := hide (bnext B7.out b8)
      clear b8
      go_wp2_with fail
      refine (runFrame_no (noV_miss (M2.out.next B8.out))).mono ?_
      rintro e w9 ⟨rfl, b9⟩
      have B9 := hide (bnext B8.out b9)
      clear b9
      go_wp2_with fail
      refine under_calls fun wx hwx => ?_
      have BX := hide (show Below w6.heap.size w6 wx by
        rw [hwx]
        exact (B9.out.alloc B9.out.size _).alloc (B9.out.alloc B9.out.size _).size _)
      clear hwx
      refine (valid_miss (M2.out.next BX.out)).mono ?_
      rintro e wy ⟨rfl, bz⟩
      have BY := hide (bnext BX.out bz)
      clear bz
      go_wp2_with fail
      go_roundw
      case rel => exact ⟨3, (.inr (.inr (.inr (.inl rfl)))), by go_num, fun _ => BY.out, B6.out.trans (BY.out.mono B6.out.size)⟩
      case measure => simp [intOf]
    · have BL := hide (hb3 (by decide))
      have BE := hide bel
      have s0 := (HS.out _ BL.out 3).trans (show _ = some (Value.pointer (some ⟨o, 0, none⟩)) from rfl)
      clear hb3 bel
      go_wp2_with fail
      refine (press_odd (HasK.next O6.out BL.out) (HM6.out.next BL.out) vz_K LO.out.2.1).mono ?_
      rintro e w7 ⟨rfl, m7, o7⟩
      have NV := hide (noV_odd (show HasK w7 o b (rc pc) false 0 8 3 4 4 262 0 (-1) 0 from o7.obj (HasK.next O6.out BL.out) (fun e => by rcases e with e | e; exact LO.out.2.1 e; exact LO.out.2.2.1 e)) m7 vz_K (conOk_new PC.out))
      have B7 := hide (BE.out.trans (o7.below (B := W.heap.size) (fun k e => by rcases e with rfl | rfl; exact LS.out.1; exact LS.out.2.1) BE.out.size))
      clear m7 o7 s0
      go_wp2_with fail
      refine (run_no NV.out a0).mono ?_
      rintro e w8 ⟨rfl, b8⟩
      have B8 := hide b8
      clear b8
      go_wp2_with fail
      refine (runFrame_no (NV.out.next B8.out)).mono ?_
      rintro e w9 ⟨rfl, b9⟩
      have B9 := hide (bnext B8.out b9)
      clear b9
      go_wp2_with fail
      refine under_calls fun wx hwx => ?_
      have BX := hide (show Below w7.heap.size w7 wx by
        rw [hwx]
        exact (B9.out.alloc B9.out.size _).alloc (B9.out.alloc B9.out.size _).size _)
      clear hwx
      refine (NV.out wx BX.out).mono ?_
      rintro e wy ⟨rfl, bz⟩
      have BY := hide (B7.out.trans ((bnext BX.out bz).mono B7.out.size))
      clear bz
      go_wp2_with fail
      go_roundw
      case rel => exact ⟨4, .inr (.inr (.inr (.inr rfl))), by go_num, fun h => absurd h (by decide), BY.out⟩
      case measure => simp [intOf]
    · have BE := hide bel
      clear hb3 bel
      go_wp2_with fail
      refine (frame_any 0 0 0 0 262 _ (by decide) (by decide)).mono ?_
      rintro e w7 ⟨rfl, b7⟩
      have B7 := hide (bnext BE.out b7)
      clear b7
      go_wp2
      go_ret
      exact ⟨rfl, B7.out⟩
end Go.Proofs.YtnoggfnidaifkaaGreatDoor
