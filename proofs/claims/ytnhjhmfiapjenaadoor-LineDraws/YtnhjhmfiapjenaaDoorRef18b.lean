/- The document's own answer for a sprite that is wide: the contract of Of, a case a height. -/
import Derived.Test.YtnhjhmfiapjenaaDoorRef18
namespace Go.Proofs.YtnhjhmfiapjenaaDoor
open Go.RowKit
set_option linter.unusedVariables false

set_option maxHeartbeats 2000000 in
theorem rof_10 (T : Nat → Int) (k p : Nat) (hp : 4 * (k : Int) = (p : Int)) (hp2 : p ≤ 252) (a0 a1 a2 a3 u0 u1 u2 u3 x1 y1 c2 q P h1 s1 g1 g2 g3 g4 g5 q2 q3 q4 X Y C : Int) (f fx fy : Bool) (w : World)
    (A0 : Hid (T p = a0)) (A1 : Hid (T (p + 1) = a1)) (A2 : Hid (T (p + 2) = a2)) (A3 : Hid (T (p + 3) = a3)) (e0 : a0 % 65536 = u0) (e1 : a1 % 65536 = u1) (e2 : a2 % 65536 = u2) (e3 : a3 % 65536 = u3)
    (ex : Int.tmod u1 1024 = x1) (ey : Int.tmod u0 1024 = y1) (ec : Int.tdiv u2 2 = c2) (eq : Int.tmod c2 1024 = q) (eP : Int.tmod u3 16 = P) (eh : Int.tdiv u3 4096 = h1) (et : Int.tmod h1 4 = 0) (es : Int.tdiv u3 256 = s1) (eb : Int.tmod s1 2 = 1) (ef1 : Int.tdiv u3 128 = g1) (ef2 : Int.tmod g1 2 = g2) (ef3 : (g2 == 1) = f) (eg1 : Int.tdiv u3 2048 = g3) (eg2 : Int.tmod g3 2 = g4) (eg3 : (g4 == 1) = fx) (ei1 : Int.tdiv u3 32768 = g5) (ei2 : (g5 == 1) = fy)
    (bc : 0 ≤ c2 ∧ c2 < 65536) (bh1 : 0 ≤ h1 ∧ h1 < 65536) (bs1 : 0 ≤ s1 ∧ s1 < 65536) (bg1 : 0 ≤ g1 ∧ g1 < 65536) (bg3 : 0 ≤ g3 ∧ g3 < 65536) (bg5 : 0 ≤ g5 ∧ g5 < 65536) (bx : 0 ≤ x1 ∧ x1 < 1024) (by1 : 0 ≤ y1 ∧ y1 < 1024) (bq : 0 ≤ q ∧ q < 1024) (EX : x1 - 32 = X) (EY : y1 - 64 = Y) (e4 : Int.tdiv q 2 = q2) (b2 : 0 ≤ q2 ∧ q2 < 1024) (EC : Hid (q2 * 2 = C)) :
    Calls Tryd.prog 47 #[.agg (tabL T).toArray, .int .i64 (k : Int)] w fun e w' => e = .returned (.agg #[.int .i64 X, .int .i64 Y, .int .i64 C, .int .i64 32, .int .i64 16, .int .i64 P, .bool f, .bool fx, .bool fy]) ∧ Below w.heap.size w w' := by
  go_enter Tryd.func47, Tryd.ntmps47
  go_upto_region 3 with fail
  refine under_name fun wa hwa => ?_
  obtain ⟨b0, b1, hs, BB⟩ := two_named hwa
  have T0 := hide (show HasTb wa w.heap.size T from b0)
  have R0 := hide (show HasQ wa (w.heap.size + 1) #[.int .i64 0, .int .i64 0, .int .i64 0, .int .i64 0, .int .i64 0, .int .i64 0, .bool false, .bool false, .bool false] from b1)
  have B0 := hide BB
  clear hwa b0 b1 hs BB
  obtain ⟨zr, hzr⟩ : ∃ z, w.heap.size + 1 = z := ⟨_, rfl⟩
  have HZ := hide (show w.heap.size ≤ zr by omega)
  rw [hzr] at R0 ⊢
  clear hzr
  obtain ⟨zt, hzt⟩ : ∃ z, w.heap.size = z := ⟨_, rfl⟩
  rw [hzt] at T0 ⊢
  clear hzt
  have i0 := T0.out.at p (by omega)
  have i1 := T0.out.at (p + 1) (by omega)
  have i2 := T0.out.at (p + 2) (by omega)
  have i3 := T0.out.at (p + 3) (by omega)
  rw [A0.out] at i0
  rw [A1.out] at i1
  rw [A2.out] at i2
  rw [A3.out] at i3
  have j0 := kept_cell i0 T0.out.lt
  have j1 := kept_cell i1 T0.out.lt
  have L0 := hide (show (∀ V, Below wa.heap.size wa V → V.cell? ⟨zt, p, none⟩ = some (.int .i64 a0) ∧ V.cell? ⟨zt, p + 1, none⟩ = some (.int .i64 a1) ∧ zt < V.heap.size) from fun V hV => ⟨(hV.cell (p := ⟨zt, p, none⟩) T0.out.lt).trans i0, (hV.cell (p := ⟨zt, p + 1, none⟩) T0.out.lt).trans i1, Nat.lt_of_lt_of_le T0.out.lt hV.size⟩)
  clear i0 i1 j0 j1
  go_wp2_with (first | (go_at_call 41; refine (rword_any _ _).mono ?_; rintro e w' ⟨rfl, hw⟩; subst w'))
  clear i2 i3
  refine wp_region_one _ _ _ (show _ = ([_, _, _, _, _, _, _, _, _, _, _, _, _, _, _, _, _, _, _, _, _] ++ [_]) ++ [_] from rfl) #[.int .i64 0, .int .i64 0, .int .i64 0, .int .i64 0, .int .i64 0, .int .i64 0, .bool false, .bool false, .bool false] 99 104 7 (by kernel_rfl) (by kernel_rfl) (by kernel_rfl) (by kernel_rfl) rfl ?_ ?_
  · intro a w
    set_option maxRecDepth 100000 in
    rfl
  apply Exists.intro
  refine ⟨fun V hV => ?_, ?_⟩
  · obtain ⟨v0, v1, vl⟩ := L0.out V hV
    have i0 := kept_cell v0 vl
    have i1 := kept_cell v1 vl
    clear hV v0 v1 vl
    haveI := kept_some V
    repeat (go_big_quiet_step ((first
      | (go_at_call 41; exact kept_same (rword_any _ _)))))
    refine wpQuiet_nil ?_
    rfl
  intro g wx nx hg lg
  have G0 := hide hg
  have hne : zr ≠ g := by have := lt_of_block R0.out; omega
  have G1 := hide (show HasQ (wx.setRow g #[.int .i64 X, .int .i64 Y, .int .i64 q, .int .i64 16, .int .i64 0, .int .i64 P, .bool false, .bool false, .bool false]) g #[.int .i64 X, .int .i64 Y, .int .i64 q, .int .i64 16, .int .i64 0, .int .i64 P, .bool false, .bool false, .bool false] from setRow_heap _ _ _ _ _ _ hg)
  have Z1 := hide (show HasQ (wx.setRow g #[.int .i64 X, .int .i64 Y, .int .i64 q, .int .i64 16, .int .i64 0, .int .i64 P, .bool false, .bool false, .bool false]) zr #[.int .i64 0, .int .i64 0, .int .i64 0, .int .i64 0, .int .i64 0, .int .i64 0, .bool false, .bool false, .bool false] from (setRow_other _ _ _ _ hne).trans ((nx.block _ (lt_of_block R0.out)).trans R0.out))
  have B1 := hide (below_setRow (bnext B0.out nx) (Nat.le_trans B0.out.size lg) #[.int .i64 X, .int .i64 Y, .int .i64 q, .int .i64 16, .int .i64 0, .int .i64 P, .bool false, .bool false, .bool false])
  have HG := hide (show w.heap.size ≤ g ∧ zr ≠ g from ⟨Nat.le_trans B0.out.size lg, hne⟩)
  clear nx hg lg hne B0 R0 T0 L0 ex ey eq eP ec EX EY bx by1 bc e0 e1 e2 e3
  simp only [Act.put, List.setIfInBounds_toArray, List.set_cons_succ, List.set_cons_zero]
  refine wpList_store_row rfl 99 (.tmp 7) (.tmp 47) rfl g _ rfl rfl 99 _ G0.out (by kernel_rfl) rfl (by kernel_rfl) ?_
  refine under_list fun wb hwb => ?_
  rw [← hwb] at G1 Z1 B1
  clear hwb G0
  simp only [Act.put]
  have d2 := (G1.out.cell 2).trans rfl
  have d3 := (G1.out.cell 3).trans rfl
  have d4 := (G1.out.cell 4).trans rfl
  have d6 := (G1.out.cell 6).trans rfl
  have d7 := (G1.out.cell 7).trans rfl
  have d8 := (G1.out.cell 8).trans rfl
  have k2 := G1.out.free 2
  have k3 := G1.out.free 3
  have k4 := G1.out.free 4
  have k6 := G1.out.free 6
  have k7 := G1.out.free 7
  have k8 := G1.out.free 8
  have hgl := lt_of_block G1.out
  go_upto_region 17 with fail
  refine under_name fun wz hwz => ?_
  have GZ := hide (show HasQ wz g #[.int .i64 X, .int .i64 Y, .int .i64 C, .int .i64 32, .int .i64 16, .int .i64 P, .bool f, .bool fx, .bool fy] by rw [hwz, ← EC.out]; exact ((((((G1.out.set 4 (.int .i64 16)).set 3 (.int .i64 32)).set 2 (.int .i64 (q2 * 2))).set 6 (.bool f)).set 7 (.bool fx)).set 8 (.bool fy)).new _)
  have ZZ := hide (show HasQ wz zr #[.int .i64 0, .int .i64 0, .int .i64 0, .int .i64 0, .int .i64 0, .int .i64 0, .bool false, .bool false, .bool false] by
    rw [hwz]
    refine HasQ.new ?_ _
    repeat (refine HasQ.far ?_ _ _ HG.out.2)
    exact Z1.out)
  have BZ := hide (show Below w.heap.size w wz by
    rw [hwz]
    refine Below.alloc ?_ (by have := B1.out.size; simpa [World.setCell] using this) _
    repeat (refine Below.setCell ?_ HG.out.1 _)
    exact B1.out)
  clear hwz d2 d3 d4 d6 d7 d8 k2 k3 k4 k6 k7 k8 hgl G1 Z1 B1
  go_wp2_with (first
    | (refine wpList_load_row rfl 99 (.tmp 7) rfl g rfl _ _ _ _ GZ.out Tryd.underlying99 rfl (by kernel_rfl) ?_)
    | (refine wpList_store_row rfl 99 (.tmp 4) (.tmp 103) rfl zr _ rfl rfl 99 _ ZZ.out (by kernel_rfl) rfl (by kernel_rfl) ?_)
    | (refine bodyPost_ret (results_cell_row rfl _ _ zr 99 _ (0, 0) _ rfl (setRow_heap _ _ _ _ _ _ ZZ.out) Tryd.underlying99 rfl (by kernel_rfl)) rfl ⟨rfl, below_setRow BZ.out HZ.out _⟩))
set_option maxHeartbeats 2000000 in
theorem rof_11 (T : Nat → Int) (k p : Nat) (hp : 4 * (k : Int) = (p : Int)) (hp2 : p ≤ 252) (a0 a1 a2 a3 u0 u1 u2 u3 x1 y1 c2 q P h1 s1 g1 g2 g3 g4 g5 q2 q3 q4 X Y C : Int) (f fx fy : Bool) (w : World)
    (A0 : Hid (T p = a0)) (A1 : Hid (T (p + 1) = a1)) (A2 : Hid (T (p + 2) = a2)) (A3 : Hid (T (p + 3) = a3)) (e0 : a0 % 65536 = u0) (e1 : a1 % 65536 = u1) (e2 : a2 % 65536 = u2) (e3 : a3 % 65536 = u3)
    (ex : Int.tmod u1 1024 = x1) (ey : Int.tmod u0 1024 = y1) (ec : Int.tdiv u2 2 = c2) (eq : Int.tmod c2 1024 = q) (eP : Int.tmod u3 16 = P) (eh : Int.tdiv u3 4096 = h1) (et : Int.tmod h1 4 = 1) (es : Int.tdiv u3 256 = s1) (eb : Int.tmod s1 2 = 1) (ef1 : Int.tdiv u3 128 = g1) (ef2 : Int.tmod g1 2 = g2) (ef3 : (g2 == 1) = f) (eg1 : Int.tdiv u3 2048 = g3) (eg2 : Int.tmod g3 2 = g4) (eg3 : (g4 == 1) = fx) (ei1 : Int.tdiv u3 32768 = g5) (ei2 : (g5 == 1) = fy)
    (bc : 0 ≤ c2 ∧ c2 < 65536) (bh1 : 0 ≤ h1 ∧ h1 < 65536) (bs1 : 0 ≤ s1 ∧ s1 < 65536) (bg1 : 0 ≤ g1 ∧ g1 < 65536) (bg3 : 0 ≤ g3 ∧ g3 < 65536) (bg5 : 0 ≤ g5 ∧ g5 < 65536) (bx : 0 ≤ x1 ∧ x1 < 1024) (by1 : 0 ≤ y1 ∧ y1 < 1024) (bq : 0 ≤ q ∧ q < 1024) (EX : x1 - 32 = X) (EY : y1 - 64 = Y) (e4 : Int.tdiv q 2 = q2) (b2 : 0 ≤ q2 ∧ q2 < 1024) (e5 : Int.tdiv (q2 * 2) 2 = q3) (b3 : 0 ≤ q3 ∧ q3 < 1024) (e6 : Int.tmod q3 2 = q4) (b4 : 0 ≤ q4 ∧ q4 < 4) (EC : Hid (q2 * 2 - q4 * 2 = C)) :
    Calls Tryd.prog 47 #[.agg (tabL T).toArray, .int .i64 (k : Int)] w fun e w' => e = .returned (.agg #[.int .i64 X, .int .i64 Y, .int .i64 C, .int .i64 32, .int .i64 32, .int .i64 P, .bool f, .bool fx, .bool fy]) ∧ Below w.heap.size w w' := by
  go_enter Tryd.func47, Tryd.ntmps47
  go_upto_region 3 with fail
  refine under_name fun wa hwa => ?_
  obtain ⟨b0, b1, hs, BB⟩ := two_named hwa
  have T0 := hide (show HasTb wa w.heap.size T from b0)
  have R0 := hide (show HasQ wa (w.heap.size + 1) #[.int .i64 0, .int .i64 0, .int .i64 0, .int .i64 0, .int .i64 0, .int .i64 0, .bool false, .bool false, .bool false] from b1)
  have B0 := hide BB
  clear hwa b0 b1 hs BB
  obtain ⟨zr, hzr⟩ : ∃ z, w.heap.size + 1 = z := ⟨_, rfl⟩
  have HZ := hide (show w.heap.size ≤ zr by omega)
  rw [hzr] at R0 ⊢
  clear hzr
  obtain ⟨zt, hzt⟩ : ∃ z, w.heap.size = z := ⟨_, rfl⟩
  rw [hzt] at T0 ⊢
  clear hzt
  have i0 := T0.out.at p (by omega)
  have i1 := T0.out.at (p + 1) (by omega)
  have i2 := T0.out.at (p + 2) (by omega)
  have i3 := T0.out.at (p + 3) (by omega)
  rw [A0.out] at i0
  rw [A1.out] at i1
  rw [A2.out] at i2
  rw [A3.out] at i3
  have j0 := kept_cell i0 T0.out.lt
  have j1 := kept_cell i1 T0.out.lt
  have L0 := hide (show (∀ V, Below wa.heap.size wa V → V.cell? ⟨zt, p, none⟩ = some (.int .i64 a0) ∧ V.cell? ⟨zt, p + 1, none⟩ = some (.int .i64 a1) ∧ zt < V.heap.size) from fun V hV => ⟨(hV.cell (p := ⟨zt, p, none⟩) T0.out.lt).trans i0, (hV.cell (p := ⟨zt, p + 1, none⟩) T0.out.lt).trans i1, Nat.lt_of_lt_of_le T0.out.lt hV.size⟩)
  clear i0 i1 j0 j1
  go_wp2_with (first | (go_at_call 41; refine (rword_any _ _).mono ?_; rintro e w' ⟨rfl, hw⟩; subst w'))
  clear i2 i3
  refine wp_region_one _ _ _ (show _ = ([_, _, _, _, _, _, _, _, _, _, _, _, _, _, _, _, _, _, _, _, _] ++ [_]) ++ [_] from rfl) #[.int .i64 0, .int .i64 0, .int .i64 0, .int .i64 0, .int .i64 0, .int .i64 0, .bool false, .bool false, .bool false] 99 104 7 (by kernel_rfl) (by kernel_rfl) (by kernel_rfl) (by kernel_rfl) rfl ?_ ?_
  · intro a w
    set_option maxRecDepth 100000 in
    rfl
  apply Exists.intro
  refine ⟨fun V hV => ?_, ?_⟩
  · obtain ⟨v0, v1, vl⟩ := L0.out V hV
    have i0 := kept_cell v0 vl
    have i1 := kept_cell v1 vl
    clear hV v0 v1 vl
    haveI := kept_some V
    repeat (go_big_quiet_step ((first
      | (go_at_call 41; exact kept_same (rword_any _ _)))))
    refine wpQuiet_nil ?_
    rfl
  intro g wx nx hg lg
  have G0 := hide hg
  have hne : zr ≠ g := by have := lt_of_block R0.out; omega
  have G1 := hide (show HasQ (wx.setRow g #[.int .i64 X, .int .i64 Y, .int .i64 q, .int .i64 16, .int .i64 0, .int .i64 P, .bool false, .bool false, .bool false]) g #[.int .i64 X, .int .i64 Y, .int .i64 q, .int .i64 16, .int .i64 0, .int .i64 P, .bool false, .bool false, .bool false] from setRow_heap _ _ _ _ _ _ hg)
  have Z1 := hide (show HasQ (wx.setRow g #[.int .i64 X, .int .i64 Y, .int .i64 q, .int .i64 16, .int .i64 0, .int .i64 P, .bool false, .bool false, .bool false]) zr #[.int .i64 0, .int .i64 0, .int .i64 0, .int .i64 0, .int .i64 0, .int .i64 0, .bool false, .bool false, .bool false] from (setRow_other _ _ _ _ hne).trans ((nx.block _ (lt_of_block R0.out)).trans R0.out))
  have B1 := hide (below_setRow (bnext B0.out nx) (Nat.le_trans B0.out.size lg) #[.int .i64 X, .int .i64 Y, .int .i64 q, .int .i64 16, .int .i64 0, .int .i64 P, .bool false, .bool false, .bool false])
  have HG := hide (show w.heap.size ≤ g ∧ zr ≠ g from ⟨Nat.le_trans B0.out.size lg, hne⟩)
  clear nx hg lg hne B0 R0 T0 L0 ex ey eq eP ec EX EY bx by1 bc e0 e1 e2 e3
  simp only [Act.put, List.setIfInBounds_toArray, List.set_cons_succ, List.set_cons_zero]
  refine wpList_store_row rfl 99 (.tmp 7) (.tmp 47) rfl g _ rfl rfl 99 _ G0.out (by kernel_rfl) rfl (by kernel_rfl) ?_
  refine under_list fun wb hwb => ?_
  rw [← hwb] at G1 Z1 B1
  clear hwb G0
  simp only [Act.put]
  have d2 := (G1.out.cell 2).trans rfl
  have d3 := (G1.out.cell 3).trans rfl
  have d4 := (G1.out.cell 4).trans rfl
  have d6 := (G1.out.cell 6).trans rfl
  have d7 := (G1.out.cell 7).trans rfl
  have d8 := (G1.out.cell 8).trans rfl
  have k2 := G1.out.free 2
  have k3 := G1.out.free 3
  have k4 := G1.out.free 4
  have k6 := G1.out.free 6
  have k7 := G1.out.free 7
  have k8 := G1.out.free 8
  have hgl := lt_of_block G1.out
  go_upto_region 17 with fail
  refine under_name fun wz hwz => ?_
  have GZ := hide (show HasQ wz g #[.int .i64 X, .int .i64 Y, .int .i64 C, .int .i64 32, .int .i64 32, .int .i64 P, .bool f, .bool fx, .bool fy] by rw [hwz, ← EC.out]; exact (((((((G1.out.set 4 (.int .i64 32)).set 3 (.int .i64 32)).set 2 (.int .i64 (q2 * 2))).set 2 (.int .i64 (q2 * 2 - q4 * 2))).set 6 (.bool f)).set 7 (.bool fx)).set 8 (.bool fy)).new _)
  have ZZ := hide (show HasQ wz zr #[.int .i64 0, .int .i64 0, .int .i64 0, .int .i64 0, .int .i64 0, .int .i64 0, .bool false, .bool false, .bool false] by
    rw [hwz]
    refine HasQ.new ?_ _
    repeat (refine HasQ.far ?_ _ _ HG.out.2)
    exact Z1.out)
  have BZ := hide (show Below w.heap.size w wz by
    rw [hwz]
    refine Below.alloc ?_ (by have := B1.out.size; simpa [World.setCell] using this) _
    repeat (refine Below.setCell ?_ HG.out.1 _)
    exact B1.out)
  clear hwz d2 d3 d4 d6 d7 d8 k2 k3 k4 k6 k7 k8 hgl G1 Z1 B1
  go_wp2_with (first
    | (refine wpList_load_row rfl 99 (.tmp 7) rfl g rfl _ _ _ _ GZ.out Tryd.underlying99 rfl (by kernel_rfl) ?_)
    | (refine wpList_store_row rfl 99 (.tmp 4) (.tmp 103) rfl zr _ rfl rfl 99 _ ZZ.out (by kernel_rfl) rfl (by kernel_rfl) ?_)
    | (refine bodyPost_ret (results_cell_row rfl _ _ zr 99 _ (0, 0) _ rfl (setRow_heap _ _ _ _ _ _ ZZ.out) Tryd.underlying99 rfl (by kernel_rfl)) rfl ⟨rfl, below_setRow BZ.out HZ.out _⟩))
set_option maxHeartbeats 2000000 in
theorem rof_12 (T : Nat → Int) (k p : Nat) (hp : 4 * (k : Int) = (p : Int)) (hp2 : p ≤ 252) (a0 a1 a2 a3 u0 u1 u2 u3 x1 y1 c2 q P h1 s1 g1 g2 g3 g4 g5 q2 q3 q4 X Y C : Int) (f fx fy : Bool) (w : World)
    (A0 : Hid (T p = a0)) (A1 : Hid (T (p + 1) = a1)) (A2 : Hid (T (p + 2) = a2)) (A3 : Hid (T (p + 3) = a3)) (e0 : a0 % 65536 = u0) (e1 : a1 % 65536 = u1) (e2 : a2 % 65536 = u2) (e3 : a3 % 65536 = u3)
    (ex : Int.tmod u1 1024 = x1) (ey : Int.tmod u0 1024 = y1) (ec : Int.tdiv u2 2 = c2) (eq : Int.tmod c2 1024 = q) (eP : Int.tmod u3 16 = P) (eh : Int.tdiv u3 4096 = h1) (et : Int.tmod h1 4 = 2) (es : Int.tdiv u3 256 = s1) (eb : Int.tmod s1 2 = 1) (ef1 : Int.tdiv u3 128 = g1) (ef2 : Int.tmod g1 2 = g2) (ef3 : (g2 == 1) = f) (eg1 : Int.tdiv u3 2048 = g3) (eg2 : Int.tmod g3 2 = g4) (eg3 : (g4 == 1) = fx) (ei1 : Int.tdiv u3 32768 = g5) (ei2 : (g5 == 1) = fy)
    (bc : 0 ≤ c2 ∧ c2 < 65536) (bh1 : 0 ≤ h1 ∧ h1 < 65536) (bs1 : 0 ≤ s1 ∧ s1 < 65536) (bg1 : 0 ≤ g1 ∧ g1 < 65536) (bg3 : 0 ≤ g3 ∧ g3 < 65536) (bg5 : 0 ≤ g5 ∧ g5 < 65536) (bx : 0 ≤ x1 ∧ x1 < 1024) (by1 : 0 ≤ y1 ∧ y1 < 1024) (bq : 0 ≤ q ∧ q < 1024) (EX : x1 - 32 = X) (EY : y1 - 64 = Y) (e4 : Int.tdiv q 2 = q2) (b2 : 0 ≤ q2 ∧ q2 < 1024) (e5 : Int.tdiv (q2 * 2) 2 = q3) (b3 : 0 ≤ q3 ∧ q3 < 1024) (e6 : Int.tmod q3 4 = q4) (b4 : 0 ≤ q4 ∧ q4 < 4) (EC : Hid (q2 * 2 - q4 * 2 = C)) :
    Calls Tryd.prog 47 #[.agg (tabL T).toArray, .int .i64 (k : Int)] w fun e w' => e = .returned (.agg #[.int .i64 X, .int .i64 Y, .int .i64 C, .int .i64 32, .int .i64 64, .int .i64 P, .bool f, .bool fx, .bool fy]) ∧ Below w.heap.size w w' := by
  go_enter Tryd.func47, Tryd.ntmps47
  go_upto_region 3 with fail
  refine under_name fun wa hwa => ?_
  obtain ⟨b0, b1, hs, BB⟩ := two_named hwa
  have T0 := hide (show HasTb wa w.heap.size T from b0)
  have R0 := hide (show HasQ wa (w.heap.size + 1) #[.int .i64 0, .int .i64 0, .int .i64 0, .int .i64 0, .int .i64 0, .int .i64 0, .bool false, .bool false, .bool false] from b1)
  have B0 := hide BB
  clear hwa b0 b1 hs BB
  obtain ⟨zr, hzr⟩ : ∃ z, w.heap.size + 1 = z := ⟨_, rfl⟩
  have HZ := hide (show w.heap.size ≤ zr by omega)
  rw [hzr] at R0 ⊢
  clear hzr
  obtain ⟨zt, hzt⟩ : ∃ z, w.heap.size = z := ⟨_, rfl⟩
  rw [hzt] at T0 ⊢
  clear hzt
  have i0 := T0.out.at p (by omega)
  have i1 := T0.out.at (p + 1) (by omega)
  have i2 := T0.out.at (p + 2) (by omega)
  have i3 := T0.out.at (p + 3) (by omega)
  rw [A0.out] at i0
  rw [A1.out] at i1
  rw [A2.out] at i2
  rw [A3.out] at i3
  have j0 := kept_cell i0 T0.out.lt
  have j1 := kept_cell i1 T0.out.lt
  have L0 := hide (show (∀ V, Below wa.heap.size wa V → V.cell? ⟨zt, p, none⟩ = some (.int .i64 a0) ∧ V.cell? ⟨zt, p + 1, none⟩ = some (.int .i64 a1) ∧ zt < V.heap.size) from fun V hV => ⟨(hV.cell (p := ⟨zt, p, none⟩) T0.out.lt).trans i0, (hV.cell (p := ⟨zt, p + 1, none⟩) T0.out.lt).trans i1, Nat.lt_of_lt_of_le T0.out.lt hV.size⟩)
  clear i0 i1 j0 j1
  go_wp2_with (first | (go_at_call 41; refine (rword_any _ _).mono ?_; rintro e w' ⟨rfl, hw⟩; subst w'))
  clear i2 i3
  refine wp_region_one _ _ _ (show _ = ([_, _, _, _, _, _, _, _, _, _, _, _, _, _, _, _, _, _, _, _, _] ++ [_]) ++ [_] from rfl) #[.int .i64 0, .int .i64 0, .int .i64 0, .int .i64 0, .int .i64 0, .int .i64 0, .bool false, .bool false, .bool false] 99 104 7 (by kernel_rfl) (by kernel_rfl) (by kernel_rfl) (by kernel_rfl) rfl ?_ ?_
  · intro a w
    set_option maxRecDepth 100000 in
    rfl
  apply Exists.intro
  refine ⟨fun V hV => ?_, ?_⟩
  · obtain ⟨v0, v1, vl⟩ := L0.out V hV
    have i0 := kept_cell v0 vl
    have i1 := kept_cell v1 vl
    clear hV v0 v1 vl
    haveI := kept_some V
    repeat (go_big_quiet_step ((first
      | (go_at_call 41; exact kept_same (rword_any _ _)))))
    refine wpQuiet_nil ?_
    rfl
  intro g wx nx hg lg
  have G0 := hide hg
  have hne : zr ≠ g := by have := lt_of_block R0.out; omega
  have G1 := hide (show HasQ (wx.setRow g #[.int .i64 X, .int .i64 Y, .int .i64 q, .int .i64 16, .int .i64 0, .int .i64 P, .bool false, .bool false, .bool false]) g #[.int .i64 X, .int .i64 Y, .int .i64 q, .int .i64 16, .int .i64 0, .int .i64 P, .bool false, .bool false, .bool false] from setRow_heap _ _ _ _ _ _ hg)
  have Z1 := hide (show HasQ (wx.setRow g #[.int .i64 X, .int .i64 Y, .int .i64 q, .int .i64 16, .int .i64 0, .int .i64 P, .bool false, .bool false, .bool false]) zr #[.int .i64 0, .int .i64 0, .int .i64 0, .int .i64 0, .int .i64 0, .int .i64 0, .bool false, .bool false, .bool false] from (setRow_other _ _ _ _ hne).trans ((nx.block _ (lt_of_block R0.out)).trans R0.out))
  have B1 := hide (below_setRow (bnext B0.out nx) (Nat.le_trans B0.out.size lg) #[.int .i64 X, .int .i64 Y, .int .i64 q, .int .i64 16, .int .i64 0, .int .i64 P, .bool false, .bool false, .bool false])
  have HG := hide (show w.heap.size ≤ g ∧ zr ≠ g from ⟨Nat.le_trans B0.out.size lg, hne⟩)
  clear nx hg lg hne B0 R0 T0 L0 ex ey eq eP ec EX EY bx by1 bc e0 e1 e2 e3
  simp only [Act.put, List.setIfInBounds_toArray, List.set_cons_succ, List.set_cons_zero]
  refine wpList_store_row rfl 99 (.tmp 7) (.tmp 47) rfl g _ rfl rfl 99 _ G0.out (by kernel_rfl) rfl (by kernel_rfl) ?_
  refine under_list fun wb hwb => ?_
  rw [← hwb] at G1 Z1 B1
  clear hwb G0
  simp only [Act.put]
  have d2 := (G1.out.cell 2).trans rfl
  have d3 := (G1.out.cell 3).trans rfl
  have d4 := (G1.out.cell 4).trans rfl
  have d6 := (G1.out.cell 6).trans rfl
  have d7 := (G1.out.cell 7).trans rfl
  have d8 := (G1.out.cell 8).trans rfl
  have k2 := G1.out.free 2
  have k3 := G1.out.free 3
  have k4 := G1.out.free 4
  have k6 := G1.out.free 6
  have k7 := G1.out.free 7
  have k8 := G1.out.free 8
  have hgl := lt_of_block G1.out
  go_upto_region 17 with fail
  refine under_name fun wz hwz => ?_
  have GZ := hide (show HasQ wz g #[.int .i64 X, .int .i64 Y, .int .i64 C, .int .i64 32, .int .i64 64, .int .i64 P, .bool f, .bool fx, .bool fy] by rw [hwz, ← EC.out]; exact (((((((G1.out.set 4 (.int .i64 64)).set 3 (.int .i64 32)).set 2 (.int .i64 (q2 * 2))).set 2 (.int .i64 (q2 * 2 - q4 * 2))).set 6 (.bool f)).set 7 (.bool fx)).set 8 (.bool fy)).new _)
  have ZZ := hide (show HasQ wz zr #[.int .i64 0, .int .i64 0, .int .i64 0, .int .i64 0, .int .i64 0, .int .i64 0, .bool false, .bool false, .bool false] by
    rw [hwz]
    refine HasQ.new ?_ _
    repeat (refine HasQ.far ?_ _ _ HG.out.2)
    exact Z1.out)
  have BZ := hide (show Below w.heap.size w wz by
    rw [hwz]
    refine Below.alloc ?_ (by have := B1.out.size; simpa [World.setCell] using this) _
    repeat (refine Below.setCell ?_ HG.out.1 _)
    exact B1.out)
  clear hwz d2 d3 d4 d6 d7 d8 k2 k3 k4 k6 k7 k8 hgl G1 Z1 B1
  go_wp2_with (first
    | (refine wpList_load_row rfl 99 (.tmp 7) rfl g rfl _ _ _ _ GZ.out Tryd.underlying99 rfl (by kernel_rfl) ?_)
    | (refine wpList_store_row rfl 99 (.tmp 4) (.tmp 103) rfl zr _ rfl rfl 99 _ ZZ.out (by kernel_rfl) rfl (by kernel_rfl) ?_)
    | (refine bodyPost_ret (results_cell_row rfl _ _ zr 99 _ (0, 0) _ rfl (setRow_heap _ _ _ _ _ _ ZZ.out) Tryd.underlying99 rfl (by kernel_rfl)) rfl ⟨rfl, below_setRow BZ.out HZ.out _⟩))
set_option maxHeartbeats 2000000 in
theorem rof_13 (T : Nat → Int) (k p : Nat) (hp : 4 * (k : Int) = (p : Int)) (hp2 : p ≤ 252) (a0 a1 a2 a3 u0 u1 u2 u3 x1 y1 c2 q P h1 s1 g1 g2 g3 g4 g5 q2 q3 q4 X Y C : Int) (f fx fy : Bool) (w : World)
    (A0 : Hid (T p = a0)) (A1 : Hid (T (p + 1) = a1)) (A2 : Hid (T (p + 2) = a2)) (A3 : Hid (T (p + 3) = a3)) (e0 : a0 % 65536 = u0) (e1 : a1 % 65536 = u1) (e2 : a2 % 65536 = u2) (e3 : a3 % 65536 = u3)
    (ex : Int.tmod u1 1024 = x1) (ey : Int.tmod u0 1024 = y1) (ec : Int.tdiv u2 2 = c2) (eq : Int.tmod c2 1024 = q) (eP : Int.tmod u3 16 = P) (eh : Int.tdiv u3 4096 = h1) (et : Int.tmod h1 4 = 3) (es : Int.tdiv u3 256 = s1) (eb : Int.tmod s1 2 = 1) (ef1 : Int.tdiv u3 128 = g1) (ef2 : Int.tmod g1 2 = g2) (ef3 : (g2 == 1) = f) (eg1 : Int.tdiv u3 2048 = g3) (eg2 : Int.tmod g3 2 = g4) (eg3 : (g4 == 1) = fx) (ei1 : Int.tdiv u3 32768 = g5) (ei2 : (g5 == 1) = fy)
    (bc : 0 ≤ c2 ∧ c2 < 65536) (bh1 : 0 ≤ h1 ∧ h1 < 65536) (bs1 : 0 ≤ s1 ∧ s1 < 65536) (bg1 : 0 ≤ g1 ∧ g1 < 65536) (bg3 : 0 ≤ g3 ∧ g3 < 65536) (bg5 : 0 ≤ g5 ∧ g5 < 65536) (bx : 0 ≤ x1 ∧ x1 < 1024) (by1 : 0 ≤ y1 ∧ y1 < 1024) (bq : 0 ≤ q ∧ q < 1024) (EX : x1 - 32 = X) (EY : y1 - 64 = Y) (e4 : Int.tdiv q 2 = q2) (b2 : 0 ≤ q2 ∧ q2 < 1024) (e5 : Int.tdiv (q2 * 2) 2 = q3) (b3 : 0 ≤ q3 ∧ q3 < 1024) (e6 : Int.tmod q3 4 = q4) (b4 : 0 ≤ q4 ∧ q4 < 4) (EC : Hid (q2 * 2 - q4 * 2 = C)) :
    Calls Tryd.prog 47 #[.agg (tabL T).toArray, .int .i64 (k : Int)] w fun e w' => e = .returned (.agg #[.int .i64 X, .int .i64 Y, .int .i64 C, .int .i64 32, .int .i64 64, .int .i64 P, .bool f, .bool fx, .bool fy]) ∧ Below w.heap.size w w' := by
  go_enter Tryd.func47, Tryd.ntmps47
  go_upto_region 3 with fail
  refine under_name fun wa hwa => ?_
  obtain ⟨b0, b1, hs, BB⟩ := two_named hwa
  have T0 := hide (show HasTb wa w.heap.size T from b0)
  have R0 := hide (show HasQ wa (w.heap.size + 1) #[.int .i64 0, .int .i64 0, .int .i64 0, .int .i64 0, .int .i64 0, .int .i64 0, .bool false, .bool false, .bool false] from b1)
  have B0 := hide BB
  clear hwa b0 b1 hs BB
  obtain ⟨zr, hzr⟩ : ∃ z, w.heap.size + 1 = z := ⟨_, rfl⟩
  have HZ := hide (show w.heap.size ≤ zr by omega)
  rw [hzr] at R0 ⊢
  clear hzr
  obtain ⟨zt, hzt⟩ : ∃ z, w.heap.size = z := ⟨_, rfl⟩
  rw [hzt] at T0 ⊢
  clear hzt
  have i0 := T0.out.at p (by omega)
  have i1 := T0.out.at (p + 1) (by omega)
  have i2 := T0.out.at (p + 2) (by omega)
  have i3 := T0.out.at (p + 3) (by omega)
  rw [A0.out] at i0
  rw [A1.out] at i1
  rw [A2.out] at i2
  rw [A3.out] at i3
  have j0 := kept_cell i0 T0.out.lt
  have j1 := kept_cell i1 T0.out.lt
  have L0 := hide (show (∀ V, Below wa.heap.size wa V → V.cell? ⟨zt, p, none⟩ = some (.int .i64 a0) ∧ V.cell? ⟨zt, p + 1, none⟩ = some (.int .i64 a1) ∧ zt < V.heap.size) from fun V hV => ⟨(hV.cell (p := ⟨zt, p, none⟩) T0.out.lt).trans i0, (hV.cell (p := ⟨zt, p + 1, none⟩) T0.out.lt).trans i1, Nat.lt_of_lt_of_le T0.out.lt hV.size⟩)
  clear i0 i1 j0 j1
  go_wp2_with (first | (go_at_call 41; refine (rword_any _ _).mono ?_; rintro e w' ⟨rfl, hw⟩; subst w'))
  clear i2 i3
  refine wp_region_one _ _ _ (show _ = ([_, _, _, _, _, _, _, _, _, _, _, _, _, _, _, _, _, _, _, _, _] ++ [_]) ++ [_] from rfl) #[.int .i64 0, .int .i64 0, .int .i64 0, .int .i64 0, .int .i64 0, .int .i64 0, .bool false, .bool false, .bool false] 99 104 7 (by kernel_rfl) (by kernel_rfl) (by kernel_rfl) (by kernel_rfl) rfl ?_ ?_
  · intro a w
    set_option maxRecDepth 100000 in
    rfl
  apply Exists.intro
  refine ⟨fun V hV => ?_, ?_⟩
  · obtain ⟨v0, v1, vl⟩ := L0.out V hV
    have i0 := kept_cell v0 vl
    have i1 := kept_cell v1 vl
    clear hV v0 v1 vl
    haveI := kept_some V
    repeat (go_big_quiet_step ((first
      | (go_at_call 41; exact kept_same (rword_any _ _)))))
    refine wpQuiet_nil ?_
    rfl
  intro g wx nx hg lg
  have G0 := hide hg
  have hne : zr ≠ g := by have := lt_of_block R0.out; omega
  have G1 := hide (show HasQ (wx.setRow g #[.int .i64 X, .int .i64 Y, .int .i64 q, .int .i64 16, .int .i64 0, .int .i64 P, .bool false, .bool false, .bool false]) g #[.int .i64 X, .int .i64 Y, .int .i64 q, .int .i64 16, .int .i64 0, .int .i64 P, .bool false, .bool false, .bool false] from setRow_heap _ _ _ _ _ _ hg)
  have Z1 := hide (show HasQ (wx.setRow g #[.int .i64 X, .int .i64 Y, .int .i64 q, .int .i64 16, .int .i64 0, .int .i64 P, .bool false, .bool false, .bool false]) zr #[.int .i64 0, .int .i64 0, .int .i64 0, .int .i64 0, .int .i64 0, .int .i64 0, .bool false, .bool false, .bool false] from (setRow_other _ _ _ _ hne).trans ((nx.block _ (lt_of_block R0.out)).trans R0.out))
  have B1 := hide (below_setRow (bnext B0.out nx) (Nat.le_trans B0.out.size lg) #[.int .i64 X, .int .i64 Y, .int .i64 q, .int .i64 16, .int .i64 0, .int .i64 P, .bool false, .bool false, .bool false])
  have HG := hide (show w.heap.size ≤ g ∧ zr ≠ g from ⟨Nat.le_trans B0.out.size lg, hne⟩)
  clear nx hg lg hne B0 R0 T0 L0 ex ey eq eP ec EX EY bx by1 bc e0 e1 e2 e3
  simp only [Act.put, List.setIfInBounds_toArray, List.set_cons_succ, List.set_cons_zero]
  refine wpList_store_row rfl 99 (.tmp 7) (.tmp 47) rfl g _ rfl rfl 99 _ G0.out (by kernel_rfl) rfl (by kernel_rfl) ?_
  refine under_list fun wb hwb => ?_
  rw [← hwb] at G1 Z1 B1
  clear hwb G0
  simp only [Act.put]
  have d2 := (G1.out.cell 2).trans rfl
  have d3 := (G1.out.cell 3).trans rfl
  have d4 := (G1.out.cell 4).trans rfl
  have d6 := (G1.out.cell 6).trans rfl
  have d7 := (G1.out.cell 7).trans rfl
  have d8 := (G1.out.cell 8).trans rfl
  have k2 := G1.out.free 2
  have k3 := G1.out.free 3
  have k4 := G1.out.free 4
  have k6 := G1.out.free 6
  have k7 := G1.out.free 7
  have k8 := G1.out.free 8
  have hgl := lt_of_block G1.out
  go_upto_region 17 with fail
  refine under_name fun wz hwz => ?_
  have GZ := hide (show HasQ wz g #[.int .i64 X, .int .i64 Y, .int .i64 C, .int .i64 32, .int .i64 64, .int .i64 P, .bool f, .bool fx, .bool fy] by rw [hwz, ← EC.out]; exact (((((((G1.out.set 4 (.int .i64 64)).set 3 (.int .i64 32)).set 2 (.int .i64 (q2 * 2))).set 2 (.int .i64 (q2 * 2 - q4 * 2))).set 6 (.bool f)).set 7 (.bool fx)).set 8 (.bool fy)).new _)
  have ZZ := hide (show HasQ wz zr #[.int .i64 0, .int .i64 0, .int .i64 0, .int .i64 0, .int .i64 0, .int .i64 0, .bool false, .bool false, .bool false] by
    rw [hwz]
    refine HasQ.new ?_ _
    repeat (refine HasQ.far ?_ _ _ HG.out.2)
    exact Z1.out)
  have BZ := hide (show Below w.heap.size w wz by
    rw [hwz]
    refine Below.alloc ?_ (by have := B1.out.size; simpa [World.setCell] using this) _
    repeat (refine Below.setCell ?_ HG.out.1 _)
    exact B1.out)
  clear hwz d2 d3 d4 d6 d7 d8 k2 k3 k4 k6 k7 k8 hgl G1 Z1 B1
  go_wp2_with (first
    | (refine wpList_load_row rfl 99 (.tmp 7) rfl g rfl _ _ _ _ GZ.out Tryd.underlying99 rfl (by kernel_rfl) ?_)
    | (refine wpList_store_row rfl 99 (.tmp 4) (.tmp 103) rfl zr _ rfl rfl 99 _ ZZ.out (by kernel_rfl) rfl (by kernel_rfl) ?_)
    | (refine bodyPost_ret (results_cell_row rfl _ _ zr 99 _ (0, 0) _ rfl (setRow_heap _ _ _ _ _ _ ZZ.out) Tryd.underlying99 rfl (by kernel_rfl)) rfl ⟨rfl, below_setRow BZ.out HZ.out _⟩))
end Go.Proofs.YtnhjhmfiapjenaaDoor
