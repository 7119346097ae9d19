/- Package sprites: the contracts of isSet, own and made. -/
import Derived.Test.YtnhjhmfiapjenaaDoorPlain18
import Derived.Test.YtnhjhmfiapjenaaDoorTells
import Derived.Test.YtnhjhmfiapjenaaDoorGenA
namespace Go.Proofs.YtnhjhmfiapjenaaDoor
open Go.RowKit
set_option linter.unusedVariables false

/-- The heights, as their cells lie. -/
def highCells : Array Value := #[.int .i64 16, .int .i64 32, .int .i64 64, .int .i64 64]
def HasHigh (w : World) : Prop := ∃ t fr, w.heap[0]? = some (.cells highCells t fr)
theorem HasHigh.pos {w : World} (h : HasHigh w) : 0 < w.heap.size := by
  obtain ⟨t, fr, e⟩ := h
  exact lt_of_block e
theorem HasHigh.next {w w' : World} (h : HasHigh w) (b : Below w.heap.size w w') : HasHigh w' := by
  have k := h.pos
  obtain ⟨t, fr, e⟩ := h
  exact ⟨t, fr, (b.block 0 k).trans e⟩
theorem high_cell (d : Int) : highCells[(d / 4096 % 4).toNat]? = some (.int .i64 (sprH d)) := by
  unfold sprH
  rcases (show d / 4096 % 4 = 0 ∨ d / 4096 % 4 = 1 ∨ d / 4096 % 4 = 2 ∨ d / 4096 % 4 = 3 by omega) with h | h | h | h <;> rw [h] <;> rfl
theorem HasHigh.at {w : World} (h : HasHigh w) (d : Int) : w.cell? ⟨0, (d / 4096 % 4).toNat, none⟩ = some (.int .i64 (sprH d)) := by
  obtain ⟨t, fr, e⟩ := h
  rw [cell_of_row w 0 _ _ _ _ e, high_cell]
/-- Block b holds a sprite. -/
def HasO (w : World) (b : Nat) (X Y C W H P : Int) (f fx fy : Bool) : Prop := w.heap[b]? = some (.cells #[.int .i64 X, .int .i64 Y, .int .i64 C, .int .i64 W, .int .i64 H, .int .i64 P, .bool f, .bool fx, .bool fy] 86 (0, 0))
theorem HasO.lt {w : World} {b : Nat} {X Y C W H P : Int} {f fx fy : Bool} (h : HasO w b X Y C W H P f fx fy) : b < w.heap.size := lt_of_block h
theorem HasO.next {w : World} {b : Nat} {X Y C W H P : Int} {f fx fy : Bool} (h : HasO w b X Y C W H P f fx fy) {w' : World} (k : Below w.heap.size w w') : HasO w' b X Y C W H P f fx fy := (k.block b (lt_of_block h)).trans h
theorem HasO.c0 {w : World} {b : Nat} {X Y C W H P : Int} {f fx fy : Bool} (h : HasO w b X Y C W H P f fx fy) : w.cell? ⟨b, 0, none⟩ = some (.int .i64 X) := (cell_of_row w b 0 _ _ _ h).trans rfl
theorem HasO.c1 {w : World} {b : Nat} {X Y C W H P : Int} {f fx fy : Bool} (h : HasO w b X Y C W H P f fx fy) : w.cell? ⟨b, 1, none⟩ = some (.int .i64 Y) := (cell_of_row w b 1 _ _ _ h).trans rfl
theorem HasO.c2 {w : World} {b : Nat} {X Y C W H P : Int} {f fx fy : Bool} (h : HasO w b X Y C W H P f fx fy) : w.cell? ⟨b, 2, none⟩ = some (.int .i64 C) := (cell_of_row w b 2 _ _ _ h).trans rfl
theorem HasO.c3 {w : World} {b : Nat} {X Y C W H P : Int} {f fx fy : Bool} (h : HasO w b X Y C W H P f fx fy) : w.cell? ⟨b, 3, none⟩ = some (.int .i64 W) := (cell_of_row w b 3 _ _ _ h).trans rfl
theorem HasO.c4 {w : World} {b : Nat} {X Y C W H P : Int} {f fx fy : Bool} (h : HasO w b X Y C W H P f fx fy) : w.cell? ⟨b, 4, none⟩ = some (.int .i64 H) := (cell_of_row w b 4 _ _ _ h).trans rfl
theorem HasO.c5 {w : World} {b : Nat} {X Y C W H P : Int} {f fx fy : Bool} (h : HasO w b X Y C W H P f fx fy) : w.cell? ⟨b, 5, none⟩ = some (.int .i64 P) := (cell_of_row w b 5 _ _ _ h).trans rfl
theorem HasO.c6 {w : World} {b : Nat} {X Y C W H P : Int} {f fx fy : Bool} (h : HasO w b X Y C W H P f fx fy) : w.cell? ⟨b, 6, none⟩ = some (.bool f) := (cell_of_row w b 6 _ _ _ h).trans rfl
theorem HasO.c7 {w : World} {b : Nat} {X Y C W H P : Int} {f fx fy : Bool} (h : HasO w b X Y C W H P f fx fy) : w.cell? ⟨b, 7, none⟩ = some (.bool fx) := (cell_of_row w b 7 _ _ _ h).trans rfl
theorem HasO.c8 {w : World} {b : Nat} {X Y C W H P : Int} {f fx fy : Bool} (h : HasO w b X Y C W H P f fx fy) : w.cell? ⟨b, 8, none⟩ = some (.bool fy) := (cell_of_row w b 8 _ _ _ h).trans rfl
theorem HasO.frozen {w : World} {b : Nat} {X Y C W H P : Int} {f fx fy : Bool} (h : HasO w b X Y C W H P f fx fy) (j : Nat) : w.frozen? ⟨b, j, none⟩ = false := frozen_of_row w b j _ _ h
theorem HasO.set2 {w : World} {b : Nat} {X Y C W H P : Int} {f fx fy : Bool} (h : HasO w b X Y C W H P f fx fy) (c : Int) : HasO (w.setCell ⟨b, 2, none⟩ (.int .i64 c)) b X Y c W H P f fx fy := heap_setCell_same w b 2 _ _ _ h
theorem HasO.set3 {w : World} {b : Nat} {X Y C W H P : Int} {f fx fy : Bool} (h : HasO w b X Y C W H P f fx fy) (c : Int) : HasO (w.setCell ⟨b, 3, none⟩ (.int .i64 c)) b X Y C c H P f fx fy := heap_setCell_same w b 3 _ _ _ h
theorem and_1023 (n : Int) : bits .and .i64 n 1023 = n % 1024 := and_mask 10 (by decide) n

theorem isSet_any (d k : Int) (b : Bool) (hb : sprB d k = b) (w : World) : Calls Tryd.prog 53 #[.int .i64 d, .int .i64 k] w fun e w' => e = .returned (.bool b) ∧ w' = w := by
  have HB := hide (show (bitOf d k == 1) = b from hb)
  clear hb
  go_enter Tryd.func53, Tryd.ntmps53
  go_wp2_with (first | (go_at_call 29; refine (bit_any _ _ _).mono ?_; rintro e w' ⟨rfl, hw⟩; subst w'))
  go_ret
  exact ⟨ret_bool HB.out, rfl⟩
theorem own_any (W H m : Int) (hW : W = 16 ∨ W = 32) (hH : H = 16 ∨ H = 32 ∨ H = 64) (hm : W / 16 - 1 + (H / 16 - 1) * 2 = m) (w : World) : Calls Tryd.prog 54 #[.int .i64 W, .int .i64 H] w fun e w' => e = .returned (.int .i64 m) ∧ w' = w := by
  have HM := hide hm
  have e1 : Int.tdiv W 16 = W / 16 := Int.tdiv_eq_ediv_of_nonneg (by omega)
  have e2 : Int.tdiv H 16 = H / 16 := Int.tdiv_eq_ediv_of_nonneg (by omega)
  have l1 : 1 ≤ W / 16 ∧ W / 16 ≤ 2 := by omega
  have l2 : 1 ≤ H / 16 ∧ H / 16 ≤ 4 := by omega
  clear hm hW hH
  go_enter Tryd.func54, Tryd.ntmps54
  go_wp2
  go_ret
  exact ⟨ret_int HM.out, rfl⟩
set_option maxHeartbeats 1000000 in
theorem made_32 (a b c d X Y Cl H P t q m : Int) (f fx fy : Bool) (w : World) (HH : Hid (HasHigh w)) (e8 : Hid (sprB d 8 = true)) (ef : Hid (sprB d 7 = f)) (ex : Hid (sprB d 11 = fx)) (ey : Hid (sprB d 15 = fy)) (eX : b % 1024 - 32 = X) (eY : a % 1024 - 64 = Y) (eH : Hid (sprH d = H)) (eP : d % 16 = P)
    (et : d / 4096 % 4 = t) (t0 : 0 ≤ t) (t3 : t < 4) (eq : c / 2 % 1024 = q) (hq : 0 ≤ q) (hq1 : q < 1024) (eC : bits .andNot .i64 q m = Cl) (hH : H = 16 ∨ H = 32 ∨ H = 64) (em : Hid (32 / 16 - 1 + (H / 16 - 1) * 2 = m)) (m0 : 0 ≤ m) (m8 : m < 8) :
    Calls Tryd.prog 36 #[.int .i64 a, .int .i64 b, .int .i64 c, .int .i64 d] w fun e w' => e = .returned (.agg #[.int .i64 X, .int .i64 Y, .int .i64 Cl, .int .i64 32, .int .i64 H, .int .i64 P, .bool f, .bool fx, .bool fy]) ∧ Below w.heap.size w w' := by
  have r1 := and_1023 a
  have r2 := and_1023 b
  have r3 := and_3 (d / 4096)
  have r4 := and_15 d
  have r5 := and_1023 (c / 2)
  have C7 := hide (isSet_any d 7 f ef.out)
  have C11 := hide (isSet_any d 11 fx ex.out)
  have C15 := hide (isSet_any d 15 fy ey.out)
  have C8 := hide (isSet_any d 8 true e8.out)
  have CO := hide (own_any 32 H m (by omega) hH em.out)
  have HA := hide (fun (u : World) (h : HasHigh u) => h.at d)
  rw [et, eH.out] at HA
  go_enter Tryd.func36, Tryd.ntmps36
  go_wp2_with fail
  refine under_name fun wa hwa => ?_
  have R0 := hide (show wa.heap[w.heap.size]? = some (.cells #[.int .i64 0, .int .i64 0, .int .i64 0, .int .i64 0, .int .i64 0, .int .i64 0, .bool false, .bool false, .bool false] 86 (0, 0)) by rw [hwa]; exact heap_alloc_new _ _)
  have BA := hide (show Below w.heap.size w wa by rw [hwa]; exact (Below.refl _ w).alloc (Nat.le_refl _) _)
  clear hwa
  obtain ⟨z, hz⟩ : ∃ z, w.heap.size = z := ⟨_, rfl⟩
  rw [hz] at R0 ⊢
  have HZ := hide hz
  clear hz
  refine wp_region_one _ _ _ (show _ = ([_, _, _, _, _, _, _, _, _, _, _, _, _, _, _, _, _, _, _, _] ++ [_]) ++ [_] from rfl) #[.int .i64 0, .int .i64 0, .int .i64 0, .int .i64 0, .int .i64 0, .int .i64 0, .bool false, .bool false, .bool false] 86 44 9 (by kernel_rfl) (by kernel_rfl) (by kernel_rfl) (by kernel_rfl) rfl ?_ ?_
  · intro a w
    set_option maxRecDepth 100000 in
    rfl
  apply Exists.intro
  refine ⟨fun V hV => ?_, ?_⟩
  · have I := HH.out.next (bnext BA.out hV)
    have i0 := kept_cell (HA.out _ I) I.pos
    clear hV I
    haveI := kept_some V
    repeat (go_big_quiet_step ((first
      | (go_at_call_of 53 (Value.int .i64 7); exact kept_same (C7.out _))
      | (go_at_call_of 53 (Value.int .i64 11); exact kept_same (C11.out _))
      | (go_at_call_of 53 (Value.int .i64 15); exact kept_same (C15.out _)))))
    refine wpQuiet_nil ?_
    rfl
  intro g wx bx hg lg
  have G1 := hide (show HasO (wx.setRow g #[.int .i64 X, .int .i64 Y, .int .i64 0, .int .i64 16, .int .i64 H, .int .i64 P, .bool f, .bool fx, .bool fy]) g X Y 0 16 H P f fx fy from setRow_heap _ _ _ _ _ _ hg)
  have hne : z ≠ g := by have := lt_of_block R0.out; omega
  have R1 := hide (show (wx.setRow g #[.int .i64 X, .int .i64 Y, .int .i64 0, .int .i64 16, .int .i64 H, .int .i64 P, .bool f, .bool fx, .bool fy]).heap[z]? = some (.cells #[.int .i64 0, .int .i64 0, .int .i64 0, .int .i64 0, .int .i64 0, .int .i64 0, .bool false, .bool false, .bool false] 86 (0, 0)) from (setRow_other _ _ _ _ hne).trans ((bx.block z (lt_of_block R0.out)).trans R0.out))
  have B1 := hide (below_setRow (bnext BA.out bx) (Nat.le_trans BA.out.size lg) #[.int .i64 X, .int .i64 Y, .int .i64 0, .int .i64 16, .int .i64 H, .int .i64 P, .bool f, .bool fx, .bool fy])
  have HG := hide (show z ≠ g ∧ w.heap.size ≤ g from ⟨hne, Nat.le_trans BA.out.size lg⟩)
  have G0 := hide hg
  clear bx hg lg hne BA R0
  simp only [Act.put, List.setIfInBounds_toArray, List.set_cons_succ, List.set_cons_zero]
  refine wpList_store_row rfl 86 (.tmp 9) (.tmp 29) rfl g _ rfl rfl 86 _ G0.out (by kernel_rfl) rfl (by kernel_rfl) ?_
  refine under_list fun wb hwb => ?_
  rw [← hwb] at G1 R1 B1
  clear hwb G0
  simp only [Act.put]
  have z3 := G1.out.frozen 3
  have z2 := G1.out.frozen 2
  have c3 := G1.out.c3
  have c4 := G1.out.c4
  have c2 := G1.out.c2
  go_wp2_with (first
    | (go_at_call 53; refine (C8.out _).mono ?_; rintro e w' ⟨rfl, hw⟩; subst w')
    | (go_at_call 54; refine (CO.out _).mono ?_; rintro e w' ⟨rfl, hw⟩; subst w')
    | (refine wpList_load_row rfl 86 (.tmp 9) rfl g rfl _ _ _ _ ((G1.out.set3 32).set2 Cl) Tryd.underlying86 rfl (by kernel_rfl) ?_)
    | (refine wpList_store_row rfl 86 (.tmp 8) (.tmp 43) rfl z _ rfl rfl 86 _ ((Below.heap_setCell _ _ _ _ HG.out.1).trans ((Below.heap_setCell _ _ _ _ HG.out.1).trans R1.out)) (by kernel_rfl) rfl (by kernel_rfl) ?_)
    | (refine bodyPost_ret (results_cell_row rfl _ _ z 86 _ (0, 0) _ rfl (setRow_heap _ _ _ _ _ _ ((Below.heap_setCell _ _ _ _ HG.out.1).trans ((Below.heap_setCell _ _ _ _ HG.out.1).trans R1.out))) Tryd.underlying86 rfl (by kernel_rfl)) rfl ⟨rfl, below_setRow ((B1.out.setCell (p := ⟨g, 3, none⟩) HG.out.2 _).setCell (p := ⟨g, 2, none⟩) HG.out.2 _) (Nat.le_of_eq HZ.out) _⟩))
set_option maxHeartbeats 1000000 in
theorem made_16 (a b c d X Y Cl H P t q m : Int) (f fx fy : Bool) (w : World) (HH : Hid (HasHigh w)) (e8 : Hid (sprB d 8 = false)) (ef : Hid (sprB d 7 = f)) (ex : Hid (sprB d 11 = fx)) (ey : Hid (sprB d 15 = fy)) (eX : b % 1024 - 32 = X) (eY : a % 1024 - 64 = Y) (eH : Hid (sprH d = H)) (eP : d % 16 = P)
    (et : d / 4096 % 4 = t) (t0 : 0 ≤ t) (t3 : t < 4) (eq : c / 2 % 1024 = q) (hq : 0 ≤ q) (hq1 : q < 1024) (eC : bits .andNot .i64 q m = Cl) (hH : H = 16 ∨ H = 32 ∨ H = 64) (em : Hid (16 / 16 - 1 + (H / 16 - 1) * 2 = m)) (m0 : 0 ≤ m) (m8 : m < 8) :
    Calls Tryd.prog 36 #[.int .i64 a, .int .i64 b, .int .i64 c, .int .i64 d] w fun e w' => e = .returned (.agg #[.int .i64 X, .int .i64 Y, .int .i64 Cl, .int .i64 16, .int .i64 H, .int .i64 P, .bool f, .bool fx, .bool fy]) ∧ Below w.heap.size w w' := by
  have r1 := and_1023 a
  have r2 := and_1023 b
  have r3 := and_3 (d / 4096)
  have r4 := and_15 d
  have r5 := and_1023 (c / 2)
  have C7 := hide (isSet_any d 7 f ef.out)
  have C11 := hide (isSet_any d 11 fx ex.out)
  have C15 := hide (isSet_any d 15 fy ey.out)
  have C8 := hide (isSet_any d 8 false e8.out)
  have CO := hide (own_any 16 H m (by omega) hH em.out)
  have HA := hide (fun (u : World) (h : HasHigh u) => h.at d)
  rw [et, eH.out] at HA
  go_enter Tryd.func36, Tryd.ntmps36
  go_wp2_with fail
  refine under_name fun wa hwa => ?_
  have R0 := hide (show wa.heap[w.heap.size]? = some (.cells #[.int .i64 0, .int .i64 0, .int .i64 0, .int .i64 0, .int .i64 0, .int .i64 0, .bool false, .bool false, .bool false] 86 (0, 0)) by rw [hwa]; exact heap_alloc_new _ _)
  have BA := hide (show Below w.heap.size w wa by rw [hwa]; exact (Below.refl _ w).alloc (Nat.le_refl _) _)
  clear hwa
  obtain ⟨z, hz⟩ : ∃ z, w.heap.size = z := ⟨_, rfl⟩
  rw [hz] at R0 ⊢
  have HZ := hide hz
  clear hz
  refine wp_region_one _ _ _ (show _ = ([_, _, _, _, _, _, _, _, _, _, _, _, _, _, _, _, _, _, _, _] ++ [_]) ++ [_] from rfl) #[.int .i64 0, .int .i64 0, .int .i64 0, .int .i64 0, .int .i64 0, .int .i64 0, .bool false, .bool false, .bool false] 86 44 9 (by kernel_rfl) (by kernel_rfl) (by kernel_rfl) (by kernel_rfl) rfl ?_ ?_
  · intro a w
    set_option maxRecDepth 100000 in
    rfl
  apply Exists.intro
  refine ⟨fun V hV => ?_, ?_⟩
  · have I := HH.out.next (bnext BA.out hV)
    have i0 := kept_cell (HA.out _ I) I.pos
    clear hV I
    haveI := kept_some V
    repeat (go_big_quiet_step ((first
      | (go_at_call_of 53 (Value.int .i64 7); exact kept_same (C7.out _))
      | (go_at_call_of 53 (Value.int .i64 11); exact kept_same (C11.out _))
      | (go_at_call_of 53 (Value.int .i64 15); exact kept_same (C15.out _)))))
    refine wpQuiet_nil ?_
    rfl
  intro g wx bx hg lg
  have G1 := hide (show HasO (wx.setRow g #[.int .i64 X, .int .i64 Y, .int .i64 0, .int .i64 16, .int .i64 H, .int .i64 P, .bool f, .bool fx, .bool fy]) g X Y 0 16 H P f fx fy from setRow_heap _ _ _ _ _ _ hg)
  have hne : z ≠ g := by have := lt_of_block R0.out; omega
  have R1 := hide (show (wx.setRow g #[.int .i64 X, .int .i64 Y, .int .i64 0, .int .i64 16, .int .i64 H, .int .i64 P, .bool f, .bool fx, .bool fy]).heap[z]? = some (.cells #[.int .i64 0, .int .i64 0, .int .i64 0, .int .i64 0, .int .i64 0, .int .i64 0, .bool false, .bool false, .bool false] 86 (0, 0)) from (setRow_other _ _ _ _ hne).trans ((bx.block z (lt_of_block R0.out)).trans R0.out))
  have B1 := hide (below_setRow (bnext BA.out bx) (Nat.le_trans BA.out.size lg) #[.int .i64 X, .int .i64 Y, .int .i64 0, .int .i64 16, .int .i64 H, .int .i64 P, .bool f, .bool fx, .bool fy])
  have HG := hide (show z ≠ g ∧ w.heap.size ≤ g from ⟨hne, Nat.le_trans BA.out.size lg⟩)
  have G0 := hide hg
  clear bx hg lg hne BA R0
  simp only [Act.put, List.setIfInBounds_toArray, List.set_cons_succ, List.set_cons_zero]
  refine wpList_store_row rfl 86 (.tmp 9) (.tmp 29) rfl g _ rfl rfl 86 _ G0.out (by kernel_rfl) rfl (by kernel_rfl) ?_
  refine under_list fun wb hwb => ?_
  rw [← hwb] at G1 R1 B1
  clear hwb G0
  simp only [Act.put]
  have z3 := G1.out.frozen 3
  have z2 := G1.out.frozen 2
  have c3 := G1.out.c3
  have c4 := G1.out.c4
  have c2 := G1.out.c2
  go_wp2_with (first
    | (go_at_call 53; refine (C8.out _).mono ?_; rintro e w' ⟨rfl, hw⟩; subst w')
    | (go_at_call 54; refine (CO.out _).mono ?_; rintro e w' ⟨rfl, hw⟩; subst w')
    | (refine wpList_load_row rfl 86 (.tmp 9) rfl g rfl _ _ _ _ (G1.out.set2 Cl) Tryd.underlying86 rfl (by kernel_rfl) ?_)
    | (refine wpList_store_row rfl 86 (.tmp 8) (.tmp 43) rfl z _ rfl rfl 86 _ ((Below.heap_setCell _ _ _ _ HG.out.1).trans R1.out) (by kernel_rfl) rfl (by kernel_rfl) ?_)
    | (refine bodyPost_ret (results_cell_row rfl _ _ z 86 _ (0, 0) _ rfl (setRow_heap _ _ _ _ _ _ ((Below.heap_setCell _ _ _ _ HG.out.1).trans R1.out)) Tryd.underlying86 rfl (by kernel_rfl)) rfl ⟨rfl, below_setRow (B1.out.setCell (p := ⟨g, 2, none⟩) HG.out.2 _) (Nat.le_of_eq HZ.out) _⟩))
/-- A sprite, as made tells it. -/
def oneV (a b c d : Int) : Value := .agg #[.int .i64 (sprX b), .int .i64 (sprY a), .int .i64 (sprC c (sprW d) (sprH d)), .int .i64 (sprW d), .int .i64 (sprH d), .int .i64 (sprP d), .bool (sprB d 7), .bool (sprB d 11), .bool (sprB d 15)]
theorem made_any (a b c d : Int) (w : World) (h : HasHigh w) : Calls Tryd.prog 36 #[.int .i64 a, .int .i64 b, .int .i64 c, .int .i64 d] w fun e w' => e = .returned (oneV a b c d) ∧ Below w.heap.size w w' := by
  have hH := sprH_is d
  unfold oneV
  cases h8 : sprB d 8 with
  | true =>
    have e8 : bitOf d 8 = 1 := by simpa [sprB] using h8
    have eW : sprW d = 32 := by unfold sprW; rw [if_pos e8]
    rw [eW]
    exact made_32 a b c d _ _ _ (sprH d) _ _ _ (32 / 16 - 1 + (sprH d / 16 - 1) * 2) _ _ _ w (hide h) (hide h8) (hide rfl) (hide rfl) (hide rfl) rfl rfl (hide rfl) rfl rfl (by omega) (by omega) rfl (by omega) (by omega) (bic_own (c / 2 % 1024) 32 (sprH d) (by omega) (by omega) (.inr rfl) hH) hH (hide rfl) (by omega) (by omega)
  | false =>
    have e8 : ¬ bitOf d 8 = 1 := by simpa [sprB] using h8
    have eW : sprW d = 16 := by unfold sprW; rw [if_neg e8]
    rw [eW]
    exact made_16 a b c d _ _ _ (sprH d) _ _ _ (16 / 16 - 1 + (sprH d / 16 - 1) * 2) _ _ _ w (hide h) (hide h8) (hide rfl) (hide rfl) (hide rfl) rfl rfl (hide rfl) rfl rfl (by omega) (by omega) rfl (by omega) (by omega) (bic_own (c / 2 % 1024) 16 (sprH d) (by omega) (by omega) (.inl rfl) hH) hH (hide rfl) (by omega) (by omega)
end Go.Proofs.YtnhjhmfiapjenaaDoor
