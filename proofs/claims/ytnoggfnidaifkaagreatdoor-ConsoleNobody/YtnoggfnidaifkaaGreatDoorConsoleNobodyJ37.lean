/- The console: the contracts of Valid, where the answer is yes, and where it waits for less than nothing. -/
import Derived.Test.YtnoggfnidaifkaaGreatDoorConsoleNobodyJ35
import Derived.Test.YtnoggfnidaifkaaGreatDoorConsoleNobodyJ36
namespace Go.Proofs.YtnoggfnidaifkaaGreatDoor.L25
set_option maxRecDepth 20000
open A2 B4 C3 G6 I11 J23 K9 L24 M5 N8 O7 P22 R15 T10 V12 W13
open Go.RowKit
set_option linter.unusedVariables false
set_option linter.unusedSimpArgs false
theorem up_at (m x : Int) (hf : 0 ≤ x ∧ x ≤ m) (g : Nat) (w : World) (c : w.cell? ⟨g, 0, none⟩ = some (.int .i64 x)) : Calls Tryz.prog 22 #[.int .i64 m, .slice (some ⟨g, 0, none⟩) 1 1] w fun e w' => e = Ending.returned (.bool true) ∧ Below w.heap.size w w' :=
  (upTo_yes m g 0 1 1 (fun _ => x) w (by decide) (fun i hi => by obtain rfl : i = 0 := (by omega); simpa using c) (fun _ _ => hf)).mono fun e w' ⟨e1, hw⟩ => ⟨e1, by rw [hw]; exact Below.refl _ _⟩
theorem up_at2 (m x y : Int) (hf : 0 ≤ x ∧ x ≤ m) (hg : 0 ≤ y ∧ y ≤ m) (g : Nat) (w : World) (c : w.cell? ⟨g, 0, none⟩ = some (.int .i64 x)) (d : w.cell? ⟨g, 1, none⟩ = some (.int .i64 y)) : Calls Tryz.prog 22 #[.int .i64 m, .slice (some ⟨g, 0, none⟩) 2 2] w fun e w' => e = Ending.returned (.bool true) ∧ Below w.heap.size w w' :=
  (upTo_yes m g 0 2 2 (fun i => if i = 0 then x else y) w (by decide) (fun i hi => by rcases (show i = 0 ∨ i = 1 by omega) with rfl | rfl; simpa using c; simpa using d) (fun i _ => by by_cases e : i = 0; rw [if_pos e]; exact hf; rw [if_neg e]; exact hg)).mono fun e w' ⟨e1, hw⟩ => ⟨e1, by rw [hw]; exact Below.refl _ _⟩
set_option maxHeartbeats 8000000 in
theorem isMachine_yes {w : World} {b v c d : Nat} {bs : List Int} {Z : Nat → Nat → Int} (h : HasM w b v c d bs Z) (hv : VZ Z) : Calls Tryz.prog 23 #[.pointer (some ⟨b, 0, none⟩)] w fun e w' => e = Ending.returned (.bool true) ∧ Below w.heap.size w w' := by
  have LB := h.1.1.lt
  have g := good_of h.2.2.1
  have H0 := hide h
  have HV := hide hv
  have c7 : w.cell? ⟨b, 282, none⟩ = some (.int .i64 (Z 7 0)) := h.1.1.get1 7 rfl (a := 282) (h.1.isB.off 7 rfl) (by decide)
  have KA := hide hv.1
  have KB : Hid (0 ≤ Z 16 0 ∧ Z 16 0 ≤ 255) := hide (by have := g.2.2.2.2.2.2.2.2.2.1; omega)
  have KC : Hid ((0 ≤ Z 13 0 ∧ Z 13 0 ≤ 7) ∧ (0 ≤ Z 13 1 ∧ Z 13 1 ≤ 7)) := hide (by have := g.2.2.2.2.2.2.2.2.1; omega)
  have K17 : Hid (∀ u, Below w.heap.size w u → u.cell? ⟨b, 9262, none⟩ = some (.int .i64 0)) := hide (fun u hb => by
    have q := (h.next hb).1.1.get1 17 rfl (a := 9262) ((h.next hb).1.isB.off 17 rfl) (by decide)
    rw [hv.2.2.2.2.2.2.2.1] at q
    exact q)
  have KF := hide (fun (w : World) => M5.valid_any (Z 9) w)
  rw [show M5.isFile (Z 9) = true from decide_eq_true hv.2.2.2.1] at KF
  have KT : Hid (∀ w : World, Calls Tryz.prog 48 #[.agg (rowF (tvZ (Z 12)) 4)] w fun e w' => e = Ending.returned (.bool true) ∧ Below w.heap.size w w') := hide (fun w => by
    have k := T10.valid_any (Z 12 0) (Z 12 1) (isB (Z 12 2)) (Z 12 3) w
    rw [h.2.2.1 12] at k
    exact k)
  have KS : Hid (∀ w : World, Calls Tryz.prog 49 #[.agg (rowF (iv (Z 11)) 244)] w fun e w' => e = Ending.returned (.bool true) ∧ Below w.heap.size w w') := hide (fun w => by
    have k := P22.valid_any (Z 11) w
    rw [(P22.vB_iff _).1 (h.2.2.1 11)] at k
    exact k)
  clear h hv g
  go_enter Tryz.func23, Tryz.ntmps23
  go_wp2_with fail
  refine wp_region_facts (factR [eqF (.pointer (some ⟨b, 0, none⟩)), eqF (.pointer (some ⟨b, 0, none⟩)), eqF (.pointer (some ⟨b, 282, none⟩)), eqF (.int .i64 (Z 7 0)), sliceF (Z 7 0), eqF (.bool true), eqF (.bool true), eqF (.pointer (some ⟨b, 0, none⟩)), eqF (.pointer (some ⟨b, 0, none⟩)), eqF (.pointer (some ⟨b, 9261, none⟩)), eqF (.int .i64 (Z 16 0)), sliceF (Z 16 0), eqF (.bool true), eqF (.bool true), eqF (.bool true), eqF (.pointer (some ⟨b, 0, none⟩)), eqF (.pointer (some ⟨b, 0, none⟩)), eqF (.pointer (some ⟨b, 9245, none⟩)), eqF (.pointer (some ⟨b, 9245, none⟩)), eqF (.int .i64 (Z 13 0)), eqF (.pointer (some ⟨b, 0, none⟩)), eqF (.pointer (some ⟨b, 0, none⟩)), eqF (.pointer (some ⟨b, 9245, none⟩)), eqF (.pointer (some ⟨b, 9246, none⟩)), eqF (.int .i64 (Z 13 1)), slice2F (Z 13 0) (Z 13 1), eqF (.bool true), eqF (.bool true), eqF (.bool true), eqF (.pointer (some ⟨b, 0, none⟩)), eqF (.pointer (some ⟨b, 0, none⟩)), eqF (.pointer (some ⟨b, 9262, none⟩)), eqF (.int .i64 0), eqF (.bool true), eqF (.bool true), eqF (.bool true), eqF (.pointer (some ⟨b, 0, none⟩)), eqF (.pointer (some ⟨b, 0, none⟩)), eqF (.pointer (some ⟨b, 8475, none⟩)), eqF (.agg (rowF (iv (Z 9)) 8)), eqF (.bool true), eqF (.bool true), eqF (.bool true), eqF (.pointer (some ⟨b, 0, none⟩)), eqF (.pointer (some ⟨b, 0, none⟩)), eqF (.pointer (some ⟨b, 9241, none⟩)), eqF (.agg (rowF (tvZ (Z 12)) 4)), eqF (.bool true), eqF (.bool true), eqF (.bool true), eqF (.pointer (some ⟨b, 0, none⟩)), eqF (.pointer (some ⟨b, 0, none⟩)), eqF (.pointer (some ⟨b, 8997, none⟩)), eqF (.agg (rowF (iv (Z 11)) 244)), eqF (.bool true), eqF (.bool true), eqF (.bool true), eqF (.pointer (some ⟨b, 0, none⟩)), eqF (.pointer (some ⟨b, 0, none⟩)), eqF (.pointer (some ⟨b, 0, none⟩)), eqF (.bool true), eqF (.bool true), eqF (.bool true), eqF (.pointer (some ⟨b, 0, none⟩)), eqF (.pointer (some ⟨b, 0, none⟩)), eqF (.pointer (some ⟨b, 8483, none⟩)), eqF (.bool true), eqF (.bool true), eqF (.bool true), eqF (.pointer (some ⟨b, 0, none⟩)), eqF (.bool true), eqF (.bool true), eqF (.bool true)]) _ (fun vals => by simp only [List.append_eq, List.cons_append, List.nil_append, putAll, Act.put, List.setIfInBounds_toArray, List.set_cons_succ, List.set_cons_zero, Nat.reduceAdd]; rfl) (by kernel_rfl) (by kernel_rfl) (by kernel_rfl) (factR_next (by simp only [List.mem_cons, List.not_mem_nil, or_false, forall_eq_or_imp, forall_eq]; refine ⟨eqF_next, eqF_next, eqF_next, eqF_next, sliceF_next, eqF_next, eqF_next, eqF_next, eqF_next, eqF_next, eqF_next, sliceF_next, eqF_next, eqF_next, eqF_next, eqF_next, eqF_next, eqF_next, eqF_next, eqF_next, eqF_next, eqF_next, eqF_next, eqF_next, eqF_next, slice2F_next, eqF_next, eqF_next, eqF_next, eqF_next, eqF_next, eqF_next, eqF_next, eqF_next, eqF_next, eqF_next, eqF_next, eqF_next, eqF_next, eqF_next, eqF_next, eqF_next, eqF_next, eqF_next, eqF_next, eqF_next, eqF_next, eqF_next, eqF_next, eqF_next, eqF_next, eqF_next, eqF_next, eqF_next, eqF_next, eqF_next, eqF_next, eqF_next, eqF_next, eqF_next, eqF_next, eqF_next, eqF_next, eqF_next, eqF_next, eqF_next, eqF_next, eqF_next, eqF_next, eqF_next, eqF_next, eqF_next, eqF_next⟩)) ?_ ?_
  · refine steps_cons (fun vals u hb hf => ?_) (steps_cons (fun vals u hb hf => ?_) (steps_cons (fun vals u hb hf => ?_) (steps_cons (fun vals u hb hf => ?_) (steps_cons (fun vals u hb hf => ?_) (steps_cons (fun vals u hb hf => ?_) (steps_cons (fun vals u hb hf => ?_) (steps_cons (fun vals u hb hf => ?_) (steps_cons (fun vals u hb hf => ?_) (steps_cons (fun vals u hb hf => ?_) (steps_cons (fun vals u hb hf => ?_) (steps_cons (fun vals u hb hf => ?_) (steps_cons (fun vals u hb hf => ?_) (steps_cons (fun vals u hb hf => ?_) (steps_cons (fun vals u hb hf => ?_) (steps_cons (fun vals u hb hf => ?_) (steps_cons (fun vals u hb hf => ?_) (steps_cons (fun vals u hb hf => ?_) (steps_cons (fun vals u hb hf => ?_) (steps_cons (fun vals u hb hf => ?_) (steps_cons (fun vals u hb hf => ?_) (steps_cons (fun vals u hb hf => ?_) (steps_cons (fun vals u hb hf => ?_) (steps_cons (fun vals u hb hf => ?_) (steps_cons (fun vals u hb hf => ?_) (steps_cons (fun vals u hb hf => ?_) (steps_cons (fun vals u hb hf => ?_) (steps_cons (fun vals u hb hf => ?_) (steps_cons (fun vals u hb hf => ?_) (steps_cons (fun vals u hb hf => ?_) (steps_cons (fun vals u hb hf => ?_) (steps_cons (fun vals u hb hf => ?_) (steps_cons (fun vals u hb hf => ?_) (steps_cons (fun vals u hb hf => ?_) (steps_cons (fun vals u hb hf => ?_) (steps_cons (fun vals u hb hf => ?_) (steps_cons (fun vals u hb hf => ?_) (steps_cons (fun vals u hb hf => ?_) (steps_cons (fun vals u hb hf => ?_) (steps_cons (fun vals u hb hf => ?_) (steps_cons (fun vals u hb hf => ?_) (steps_cons (fun vals u hb hf => ?_) (steps_cons (fun vals u hb hf => ?_) (steps_cons (fun vals u hb hf => ?_) (steps_cons (fun vals u hb hf => ?_) (steps_cons (fun vals u hb hf => ?_) (steps_cons (fun vals u hb hf => ?_) (steps_cons (fun vals u hb hf => ?_) (steps_cons (fun vals u hb hf => ?_) (steps_cons (fun vals u hb hf => ?_) (steps_cons (fun vals u hb hf => ?_) (steps_cons (fun vals u hb hf => ?_) (steps_cons (fun vals u hb hf => ?_) (steps_cons (fun vals u hb hf => ?_) (steps_cons (fun vals u hb hf => ?_) (steps_cons (fun vals u hb hf => ?_) (steps_cons (fun vals u hb hf => ?_) (steps_cons (fun vals u hb hf => ?_) (steps_cons (fun vals u hb hf => ?_) (steps_cons (fun vals u hb hf => ?_) (steps_cons (fun vals u hb hf => ?_) (steps_cons (fun vals u hb hf => ?_) (steps_cons (fun vals u hb hf => ?_) (steps_cons (fun vals u hb hf => ?_) (steps_cons (fun vals u hb hf => ?_) (steps_cons (fun vals u hb hf => ?_) (steps_cons (fun vals u hb hf => ?_) (steps_cons (fun vals u hb hf => ?_) (steps_cons (fun vals u hb hf => ?_) (steps_cons (fun vals u hb hf => ?_) (steps_cons (fun vals u hb hf => ?_) (steps_cons (fun vals u hb hf => ?_) (steps_cons (fun vals u hb hf => ?_) steps_nil))))))))))))))))))))))))))))))))))))))))))))))))))))))))))))))))))))))))
    · set_option maxRecDepth 20000 in
      go_wp2_with fail
      exact stepPost_mk _ rfl rfl (Below.refl _ _)
    · obtain ⟨(h0 : vals 0 = .pointer (some ⟨b, 0, none⟩)), _⟩ := hf
      simp only [h0]
      clear h0
      go_wp2_with fail
      exact stepPost_mk _ rfl rfl (Below.refl _ _)
    · obtain ⟨(h1 : vals 1 = .pointer (some ⟨b, 0, none⟩)), _⟩ := hf
      simp only [h1]
      clear h1
      go_wp2_with fail
      exact stepPost_mk _ rfl rfl (Below.refl _ _)
    · obtain ⟨(h2 : vals 2 = .pointer (some ⟨b, 282, none⟩)), _⟩ := hf
      simp only [h2]
      clear h2
      have q := (H0.out.next hb).1.1.get1 7 rfl (a := 282) ((H0.out.next hb).1.isB.off 7 rfl) (by decide)
      go_wp2_with fail
      exact stepPost_mk _ rfl rfl (Below.refl _ _)
    · obtain ⟨(h3 : vals 3 = .int .i64 (Z 7 0)), _⟩ := hf
      simp only [h3]
      clear h3
      go_wp2_with fail
      exact stepPost_mk _ rfl ⟨_, rfl, (cell_of_row _ _ 0 _ _ _ (heap_alloc_new _ _)).trans rfl, by simp⟩ ((Below.refl _ _).alloc (Nat.le_refl _) _)
    · obtain ⟨⟨g4, (h4 : vals 4 = .slice (some ⟨g4, 0, none⟩) 1 1), c4, l4⟩, _⟩ := hf
      simp only [h4]
      clear h4
      go_wp2_with fail
      refine (up_at 3 (Z 7 0) KA.out g4 _ c4).mono ?_
      rintro e u2 ⟨rfl, b2⟩
      go_wp2_with fail
      exact stepPost_mk _ rfl rfl b2
    · obtain ⟨(h5 : vals 5 = .bool true), _, _⟩ := hf
      simp only [h5]
      clear h5
      go_wp2_with fail
      exact stepPost_mk _ rfl rfl (Below.refl _ _)
    · obtain ⟨(h6 : vals 6 = .bool true), _⟩ := hf
      simp only [h6]
      clear h6
      go_wp2_with fail
      exact stepPost_mk _ rfl rfl (Below.refl _ _)
    · obtain ⟨(h7 : vals 7 = .pointer (some ⟨b, 0, none⟩)), (h6 : vals 6 = .bool true), _⟩ := hf
      simp only [h7, h6]
      clear h7 h6
      go_wp2_with fail
      exact stepPost_mk _ rfl rfl (Below.refl _ _)
    · obtain ⟨(h8 : vals 8 = .pointer (some ⟨b, 0, none⟩)), (h6 : vals 6 = .bool true), _⟩ := hf
      simp only [h8, h6]
      clear h8 h6
      go_wp2_with fail
      exact stepPost_mk _ rfl rfl (Below.refl _ _)
    · obtain ⟨(h9 : vals 9 = .pointer (some ⟨b, 9261, none⟩)), (h6 : vals 6 = .bool true), _⟩ := hf
      simp only [h9, h6]
      clear h9 h6
      have q := (H0.out.next hb).1.1.get1 16 rfl (a := 9261) ((H0.out.next hb).1.isB.off 16 rfl) (by decide)
      go_wp2_with fail
      exact stepPost_mk _ rfl rfl (Below.refl _ _)
    · obtain ⟨(h10 : vals 10 = .int .i64 (Z 16 0)), (h6 : vals 6 = .bool true), _⟩ := hf
      simp only [h10, h6]
      clear h10 h6
      go_wp2_with fail
      exact stepPost_mk _ rfl ⟨_, rfl, (cell_of_row _ _ 0 _ _ _ (heap_alloc_new _ _)).trans rfl, by simp⟩ ((Below.refl _ _).alloc (Nat.le_refl _) _)
    · obtain ⟨⟨g11, (h11 : vals 11 = .slice (some ⟨g11, 0, none⟩) 1 1), c11, l11⟩, (h6 : vals 6 = .bool true), _, _⟩ := hf
      simp only [h11, h6]
      clear h11 h6
      go_wp2_with fail
      refine (up_at 255 (Z 16 0) KB.out g11 _ c11).mono ?_
      rintro e u2 ⟨rfl, b2⟩
      go_wp2_with fail
      exact stepPost_mk _ rfl rfl b2
    · obtain ⟨(h6 : vals 6 = .bool true), (h12 : vals 12 = .bool true), _⟩ := hf
      simp only [h6, h12]
      clear h6 h12
      go_wp2_with fail
      exact stepPost_mk _ rfl rfl (Below.refl _ _)
    · obtain ⟨(h13 : vals 13 = .bool true), (h12 : vals 12 = .bool true), _⟩ := hf
      simp only [h13, h12]
      clear h13 h12
      go_wp2_with fail
      exact stepPost_mk _ rfl rfl (Below.refl _ _)
    · obtain ⟨(h14 : vals 14 = .bool true), _⟩ := hf
      simp only [h14]
      clear h14
      go_wp2_with fail
      exact stepPost_mk _ rfl rfl (Below.refl _ _)
    · obtain ⟨(h15 : vals 15 = .pointer (some ⟨b, 0, none⟩)), (h14 : vals 14 = .bool true), _⟩ := hf
      simp only [h15, h14]
      clear h15 h14
      go_wp2_with fail
      exact stepPost_mk _ rfl rfl (Below.refl _ _)
    · obtain ⟨(h16 : vals 16 = .pointer (some ⟨b, 0, none⟩)), (h14 : vals 14 = .bool true), _⟩ := hf
      simp only [h16, h14]
      clear h16 h14
      go_wp2_with fail
      exact stepPost_mk _ rfl rfl (Below.refl _ _)
    · obtain ⟨(h17 : vals 17 = .pointer (some ⟨b, 9245, none⟩)), (h14 : vals 14 = .bool true), _⟩ := hf
      simp only [h17, h14]
      clear h17 h14
      go_wp2_with fail
      exact stepPost_mk _ rfl rfl (Below.refl _ _)
    · obtain ⟨(h18 : vals 18 = .pointer (some ⟨b, 9245, none⟩)), (h14 : vals 14 = .bool true), _⟩ := hf
      simp only [h18, h14]
      clear h18 h14
      have q := (H0.out.next hb).1.1.get 13 rfl 0 (by decide) (a := 9245) (by rw [(H0.out.next hb).1.isB.off 13 (a := 9245) rfl]) (by decide)
      go_wp2_with fail
      exact stepPost_mk _ rfl rfl (Below.refl _ _)
    · obtain ⟨(h14 : vals 14 = .bool true), _⟩ := hf
      simp only [h14]
      clear h14
      go_wp2_with fail
      exact stepPost_mk _ rfl rfl (Below.refl _ _)
    · obtain ⟨(h20 : vals 20 = .pointer (some ⟨b, 0, none⟩)), (h14 : vals 14 = .bool true), _⟩ := hf
      simp only [h20, h14]
      clear h20 h14
      go_wp2_with fail
      exact stepPost_mk _ rfl rfl (Below.refl _ _)
    · obtain ⟨(h21 : vals 21 = .pointer (some ⟨b, 0, none⟩)), (h14 : vals 14 = .bool true), _⟩ := hf
      simp only [h21, h14]
      clear h21 h14
      go_wp2_with fail
      exact stepPost_mk _ rfl rfl (Below.refl _ _)
    · obtain ⟨(h22 : vals 22 = .pointer (some ⟨b, 9245, none⟩)), (h14 : vals 14 = .bool true), _⟩ := hf
      simp only [h22, h14]
      clear h22 h14
      go_wp2_with fail
      exact stepPost_mk _ rfl rfl (Below.refl _ _)
    · obtain ⟨(h23 : vals 23 = .pointer (some ⟨b, 9246, none⟩)), (h14 : vals 14 = .bool true), _⟩ := hf
      simp only [h23, h14]
      clear h23 h14
      have q := (H0.out.next hb).1.1.get 13 rfl 1 (by decide) (a := 9246) (by rw [(H0.out.next hb).1.isB.off 13 (a := 9245) rfl]) (by decide)
      go_wp2_with fail
      exact stepPost_mk _ rfl rfl (Below.refl _ _)
    · obtain ⟨(h19 : vals 19 = .int .i64 (Z 13 0)), (h24 : vals 24 = .int .i64 (Z 13 1)), (h14 : vals 14 = .bool true), _⟩ := hf
      simp only [h19, h24, h14]
      clear h19 h24 h14
      go_wp2_with fail
      exact stepPost_mk _ rfl ⟨_, rfl, (cell_of_row _ _ 0 _ _ _ (heap_alloc_new _ _)).trans rfl, (cell_of_row _ _ 1 _ _ _ (heap_alloc_new _ _)).trans rfl, by simp⟩ ((Below.refl _ _).alloc (Nat.le_refl _) _)
    · obtain ⟨⟨g25, (h25 : vals 25 = .slice (some ⟨g25, 0, none⟩) 2 2), c25, d25, l25⟩, (h14 : vals 14 = .bool true), _, _⟩ := hf
      simp only [h25, h14]
      clear h25 h14
      go_wp2_with fail
      refine (up_at2 7 (Z 13 0) (Z 13 1) KC.out.1 KC.out.2 g25 _ c25 d25).mono ?_
      rintro e u2 ⟨rfl, b2⟩
      go_wp2_with fail
      exact stepPost_mk _ rfl rfl b2
    · obtain ⟨(h14 : vals 14 = .bool true), (h26 : vals 26 = .bool true), _⟩ := hf
      simp only [h14, h26]
      clear h14 h26
      go_wp2_with fail
      exact stepPost_mk _ rfl rfl (Below.refl _ _)
    · obtain ⟨(h27 : vals 27 = .bool true), (h26 : vals 26 = .bool true), _⟩ := hf
      simp only [h27, h26]
      clear h27 h26
      go_wp2_with fail
      exact stepPost_mk _ rfl rfl (Below.refl _ _)
    · obtain ⟨(h28 : vals 28 = .bool true), _⟩ := hf
      simp only [h28]
      clear h28
      go_wp2_with fail
      exact stepPost_mk _ rfl rfl (Below.refl _ _)
    · obtain ⟨(h29 : vals 29 = .pointer (some ⟨b, 0, none⟩)), (h28 : vals 28 = .bool true), _⟩ := hf
      simp only [h29, h28]
      clear h29 h28
      go_wp2_with fail
      exact stepPost_mk _ rfl rfl (Below.refl _ _)
    · obtain ⟨(h30 : vals 30 = .pointer (some ⟨b, 0, none⟩)), (h28 : vals 28 = .bool true), _⟩ := hf
      simp only [h30, h28]
      clear h30 h28
      go_wp2_with fail
      exact stepPost_mk _ rfl rfl (Below.refl _ _)
    · obtain ⟨(h31 : vals 31 = .pointer (some ⟨b, 9262, none⟩)), (h28 : vals 28 = .bool true), _⟩ := hf
      simp only [h31, h28]
      clear h31 h28
      have q := K17.out u hb
      go_wp2_with fail
      exact stepPost_mk _ rfl rfl (Below.refl _ _)
    · obtain ⟨(h32 : vals 32 = .int .i64 0), (h28 : vals 28 = .bool true), _⟩ := hf
      simp only [h32, h28]
      clear h32 h28
      go_wp2_with fail
      exact stepPost_mk _ rfl rfl (Below.refl _ _)
    · obtain ⟨(h28 : vals 28 = .bool true), (h33 : vals 33 = .bool true), _⟩ := hf
      simp only [h28, h33]
      clear h28 h33
      go_wp2_with fail
      exact stepPost_mk _ rfl rfl (Below.refl _ _)
    · obtain ⟨(h34 : vals 34 = .bool true), (h28 : vals 28 = .bool true), _⟩ := hf
      simp only [h34, h28]
      clear h34 h28
      go_wp2_with fail
      exact stepPost_mk _ rfl rfl (Below.refl _ _)
    · obtain ⟨(h35 : vals 35 = .bool true), _⟩ := hf
      simp only [h35]
      clear h35
      go_wp2_with fail
      exact stepPost_mk _ rfl rfl (Below.refl _ _)
    · obtain ⟨(h36 : vals 36 = .pointer (some ⟨b, 0, none⟩)), (h35 : vals 35 = .bool true), _⟩ := hf
      simp only [h36, h35]
      clear h36 h35
      go_wp2_with fail
      exact stepPost_mk _ rfl rfl (Below.refl _ _)
    · obtain ⟨(h37 : vals 37 = .pointer (some ⟨b, 0, none⟩)), (h35 : vals 35 = .bool true), _⟩ := hf
      simp only [h37, h35]
      clear h37 h35
      go_wp2_with fail
      exact stepPost_mk _ rfl rfl (Below.refl _ _)
    · obtain ⟨(h38 : vals 38 = .pointer (some ⟨b, 8475, none⟩)), (h35 : vals 35 = .bool true), _⟩ := hf
      simp only [h38, h35]
      clear h38 h35
      go_wp2_with (first | (refine wpList_part_wanted rfl 50 (.tmp 41) rfl b 8475 rfl (H0.out.next hb).1.1 8 (by decide) (iv (Z 9)) (seg_at (H0.out.next hb).1 9 rfl (a := 8475) rfl) _ Tryz.underlying50 rfl (by kernel_rfl) ?_))
      exact stepPost_mk _ rfl rfl (Below.refl _ _)
    · obtain ⟨(h39 : vals 39 = .agg (rowF (iv (Z 9)) 8)), (h35 : vals 35 = .bool true), _, _⟩ := hf
      simp only [h39, h35]
      clear h39 h35
      go_wp2_with fail
      refine (KF.out u).mono ?_
      rintro e u2 ⟨rfl, b2⟩
      go_wp2_with fail
      exact stepPost_mk _ rfl rfl b2
    · obtain ⟨(h35 : vals 35 = .bool true), (h40 : vals 40 = .bool true), _⟩ := hf
      simp only [h35, h40]
      clear h35 h40
      go_wp2_with fail
      exact stepPost_mk _ rfl rfl (Below.refl _ _)
    · obtain ⟨(h41 : vals 41 = .bool true), (h40 : vals 40 = .bool true), _⟩ := hf
      simp only [h41, h40]
      clear h41 h40
      go_wp2_with fail
      exact stepPost_mk _ rfl rfl (Below.refl _ _)
    · obtain ⟨(h42 : vals 42 = .bool true), _⟩ := hf
      simp only [h42]
      clear h42
      go_wp2_with fail
      exact stepPost_mk _ rfl rfl (Below.refl _ _)
    · obtain ⟨(h43 : vals 43 = .pointer (some ⟨b, 0, none⟩)), (h42 : vals 42 = .bool true), _⟩ := hf
      simp only [h43, h42]
      clear h43 h42
      go_wp2_with fail
      exact stepPost_mk _ rfl rfl (Below.refl _ _)
    · obtain ⟨(h44 : vals 44 = .pointer (some ⟨b, 0, none⟩)), (h42 : vals 42 = .bool true), _⟩ := hf
      simp only [h44, h42]
      clear h44 h42
      go_wp2_with fail
      exact stepPost_mk _ rfl rfl (Below.refl _ _)
    · obtain ⟨(h45 : vals 45 = .pointer (some ⟨b, 9241, none⟩)), (h42 : vals 42 = .bool true), _⟩ := hf
      simp only [h45, h42]
      clear h45 h42
      go_wp2_with (first | (refine wpList_part_wanted rfl 61 (.tmp 48) rfl b 9241 rfl (H0.out.next hb).1.1 4 (by decide) (tvZ (Z 12)) (seg_at (H0.out.next hb).1 12 rfl (a := 9241) rfl) _ Tryz.underlying61 rfl (by kernel_rfl) ?_))
      exact stepPost_mk _ rfl rfl (Below.refl _ _)
    · obtain ⟨(h46 : vals 46 = .agg (rowF (tvZ (Z 12)) 4)), (h42 : vals 42 = .bool true), _, _⟩ := hf
      simp only [h46, h42]
      clear h46 h42
      go_wp2_with fail
      refine (KT.out u).mono ?_
      rintro e u2 ⟨rfl, b2⟩
      go_wp2_with fail
      exact stepPost_mk _ rfl rfl b2
    · obtain ⟨(h42 : vals 42 = .bool true), (h47 : vals 47 = .bool true), _⟩ := hf
      simp only [h42, h47]
      clear h42 h47
      go_wp2_with fail
      exact stepPost_mk _ rfl rfl (Below.refl _ _)
    · obtain ⟨(h48 : vals 48 = .bool true), (h47 : vals 47 = .bool true), _⟩ := hf
      simp only [h48, h47]
      clear h48 h47
      go_wp2_with fail
      exact stepPost_mk _ rfl rfl (Below.refl _ _)
    · obtain ⟨(h49 : vals 49 = .bool true), _⟩ := hf
      simp only [h49]
      clear h49
      go_wp2_with fail
      exact stepPost_mk _ rfl rfl (Below.refl _ _)
    · obtain ⟨(h50 : vals 50 = .pointer (some ⟨b, 0, none⟩)), (h49 : vals 49 = .bool true), _⟩ := hf
      simp only [h50, h49]
      clear h50 h49
      go_wp2_with fail
      exact stepPost_mk _ rfl rfl (Below.refl _ _)
    · obtain ⟨(h51 : vals 51 = .pointer (some ⟨b, 0, none⟩)), (h49 : vals 49 = .bool true), _⟩ := hf
      simp only [h51, h49]
      clear h51 h49
      go_wp2_with fail
      exact stepPost_mk _ rfl rfl (Below.refl _ _)
    · obtain ⟨(h52 : vals 52 = .pointer (some ⟨b, 8997, none⟩)), (h49 : vals 49 = .bool true), _⟩ := hf
      simp only [h52, h49]
      clear h52 h49
      go_wp2_with (first | (refine wpList_part_wanted rfl 59 (.tmp 55) rfl b 8997 rfl (H0.out.next hb).1.1 244 (by decide) (iv (Z 11)) (seg_at (H0.out.next hb).1 11 rfl (a := 8997) rfl) _ Tryz.underlying59 rfl (by kernel_rfl) ?_))
      exact stepPost_mk _ rfl rfl (Below.refl _ _)
    · obtain ⟨(h53 : vals 53 = .agg (rowF (iv (Z 11)) 244)), (h49 : vals 49 = .bool true), _, _⟩ := hf
      simp only [h53, h49]
      clear h53 h49
      go_wp2_with fail
      refine (KS.out u).mono ?_
      rintro e u2 ⟨rfl, b2⟩
      go_wp2_with fail
      exact stepPost_mk _ rfl rfl b2
    · obtain ⟨(h49 : vals 49 = .bool true), (h54 : vals 54 = .bool true), _⟩ := hf
      simp only [h49, h54]
      clear h49 h54
      go_wp2_with fail
      exact stepPost_mk _ rfl rfl (Below.refl _ _)
    · obtain ⟨(h55 : vals 55 = .bool true), (h54 : vals 54 = .bool true), _⟩ := hf
      simp only [h55, h54]
      clear h55 h54
      go_wp2_with fail
      exact stepPost_mk _ rfl rfl (Below.refl _ _)
    · obtain ⟨(h56 : vals 56 = .bool true), _⟩ := hf
      simp only [h56]
      clear h56
      go_wp2_with fail
      exact stepPost_mk _ rfl rfl (Below.refl _ _)
    · obtain ⟨(h57 : vals 57 = .pointer (some ⟨b, 0, none⟩)), (h56 : vals 56 = .bool true), _⟩ := hf
      simp only [h57, h56]
      clear h57 h56
      go_wp2_with fail
      exact stepPost_mk _ rfl rfl (Below.refl _ _)
    · obtain ⟨(h58 : vals 58 = .pointer (some ⟨b, 0, none⟩)), (h56 : vals 56 = .bool true), _⟩ := hf
      simp only [h58, h56]
      clear h58 h56
      go_wp2_with fail
      exact stepPost_mk _ rfl rfl (Below.refl _ _)
    · obtain ⟨(h59 : vals 59 = .pointer (some ⟨b, 0, none⟩)), (h56 : vals 56 = .bool true), _, _⟩ := hf
      simp only [h59, h56]
      clear h59 h56
      go_wp2_with fail
      refine (isPicture_yes (H0.out.next hb) HV.out).mono ?_
      rintro e u2 ⟨rfl, b2⟩
      go_wp2_with fail
      exact stepPost_mk _ rfl rfl b2
    · obtain ⟨(h56 : vals 56 = .bool true), (h60 : vals 60 = .bool true), _⟩ := hf
      simp only [h56, h60]
      clear h56 h60
      go_wp2_with fail
      exact stepPost_mk _ rfl rfl (Below.refl _ _)
    · obtain ⟨(h61 : vals 61 = .bool true), (h60 : vals 60 = .bool true), _⟩ := hf
      simp only [h61, h60]
      clear h61 h60
      go_wp2_with fail
      exact stepPost_mk _ rfl rfl (Below.refl _ _)
    · obtain ⟨(h62 : vals 62 = .bool true), _⟩ := hf
      simp only [h62]
      clear h62
      go_wp2_with fail
      exact stepPost_mk _ rfl rfl (Below.refl _ _)
    · obtain ⟨(h63 : vals 63 = .pointer (some ⟨b, 0, none⟩)), (h62 : vals 62 = .bool true), _⟩ := hf
      simp only [h63, h62]
      clear h63 h62
      go_wp2_with fail
      exact stepPost_mk _ rfl rfl (Below.refl _ _)
    · obtain ⟨(h64 : vals 64 = .pointer (some ⟨b, 0, none⟩)), (h62 : vals 62 = .bool true), _⟩ := hf
      simp only [h64, h62]
      clear h64 h62
      go_wp2_with fail
      exact stepPost_mk _ rfl rfl (Below.refl _ _)
    · obtain ⟨(h65 : vals 65 = .pointer (some ⟨b, 8483, none⟩)), (h62 : vals 62 = .bool true), _, _⟩ := hf
      simp only [h65, h62]
      clear h65 h62
      go_wp2_with fail
      refine (isPalette_yes (H0.out.next hb) HV.out).mono ?_
      rintro e u2 ⟨rfl, b2⟩
      go_wp2_with fail
      exact stepPost_mk _ rfl rfl b2
    · obtain ⟨(h62 : vals 62 = .bool true), (h66 : vals 66 = .bool true), _⟩ := hf
      simp only [h62, h66]
      clear h62 h66
      go_wp2_with fail
      exact stepPost_mk _ rfl rfl (Below.refl _ _)
    · obtain ⟨(h67 : vals 67 = .bool true), (h66 : vals 66 = .bool true), _⟩ := hf
      simp only [h67, h66]
      clear h67 h66
      go_wp2_with fail
      exact stepPost_mk _ rfl rfl (Below.refl _ _)
    · obtain ⟨(h68 : vals 68 = .bool true), _⟩ := hf
      simp only [h68]
      clear h68
      go_wp2_with fail
      exact stepPost_mk _ rfl rfl (Below.refl _ _)
    · obtain ⟨(h69 : vals 69 = .pointer (some ⟨b, 0, none⟩)), (h68 : vals 68 = .bool true), _, _⟩ := hf
      simp only [h69, h68]
      clear h69 h68
      go_wp2_with fail
      refine (isPort_yes (H0.out.next hb) HV.out).mono ?_
      rintro e u2 ⟨rfl, b2⟩
      go_wp2_with fail
      exact stepPost_mk _ rfl rfl b2
    · obtain ⟨(h68 : vals 68 = .bool true), (h70 : vals 70 = .bool true), _⟩ := hf
      simp only [h68, h70]
      clear h68 h70
      go_wp2_with fail
      exact stepPost_mk _ rfl rfl (Below.refl _ _)
    · obtain ⟨(h71 : vals 71 = .bool true), (h70 : vals 70 = .bool true), (h0 : vals 0 = .pointer (some ⟨b, 0, none⟩)), (h1 : vals 1 = .pointer (some ⟨b, 0, none⟩)), (h2 : vals 2 = .pointer (some ⟨b, 282, none⟩)), (h3 : vals 3 = .int .i64 (Z 7 0)), ⟨g4, (h4 : vals 4 = .slice (some ⟨g4, 0, none⟩) 1 1), c4, l4⟩, (h5 : vals 5 = .bool true), (h6 : vals 6 = .bool true), (h7 : vals 7 = .pointer (some ⟨b, 0, none⟩)), (h8 : vals 8 = .pointer (some ⟨b, 0, none⟩)), (h9 : vals 9 = .pointer (some ⟨b, 9261, none⟩)), (h10 : vals 10 = .int .i64 (Z 16 0)), ⟨g11, (h11 : vals 11 = .slice (some ⟨g11, 0, none⟩) 1 1), c11, l11⟩, (h12 : vals 12 = .bool true), (h13 : vals 13 = .bool true), (h14 : vals 14 = .bool true), (h15 : vals 15 = .pointer (some ⟨b, 0, none⟩)), (h16 : vals 16 = .pointer (some ⟨b, 0, none⟩)), (h17 : vals 17 = .pointer (some ⟨b, 9245, none⟩)), (h18 : vals 18 = .pointer (some ⟨b, 9245, none⟩)), (h19 : vals 19 = .int .i64 (Z 13 0)), (h20 : vals 20 = .pointer (some ⟨b, 0, none⟩)), (h21 : vals 21 = .pointer (some ⟨b, 0, none⟩)), (h22 : vals 22 = .pointer (some ⟨b, 9245, none⟩)), (h23 : vals 23 = .pointer (some ⟨b, 9246, none⟩)), (h24 : vals 24 = .int .i64 (Z 13 1)), ⟨g25, (h25 : vals 25 = .slice (some ⟨g25, 0, none⟩) 2 2), c25, d25, l25⟩, (h26 : vals 26 = .bool true), (h27 : vals 27 = .bool true), (h28 : vals 28 = .bool true), (h29 : vals 29 = .pointer (some ⟨b, 0, none⟩)), (h30 : vals 30 = .pointer (some ⟨b, 0, none⟩)), (h31 : vals 31 = .pointer (some ⟨b, 9262, none⟩)), (h32 : vals 32 = .int .i64 0), (h33 : vals 33 = .bool true), (h34 : vals 34 = .bool true), (h35 : vals 35 = .bool true), (h36 : vals 36 = .pointer (some ⟨b, 0, none⟩)), (h37 : vals 37 = .pointer (some ⟨b, 0, none⟩)), (h38 : vals 38 = .pointer (some ⟨b, 8475, none⟩)), (h39 : vals 39 = .agg (rowF (iv (Z 9)) 8)), (h40 : vals 40 = .bool true), (h41 : vals 41 = .bool true), (h42 : vals 42 = .bool true), (h43 : vals 43 = .pointer (some ⟨b, 0, none⟩)), (h44 : vals 44 = .pointer (some ⟨b, 0, none⟩)), (h45 : vals 45 = .pointer (some ⟨b, 9241, none⟩)), (h46 : vals 46 = .agg (rowF (tvZ (Z 12)) 4)), (h47 : vals 47 = .bool true), (h48 : vals 48 = .bool true), (h49 : vals 49 = .bool true), (h50 : vals 50 = .pointer (some ⟨b, 0, none⟩)), (h51 : vals 51 = .pointer (some ⟨b, 0, none⟩)), (h52 : vals 52 = .pointer (some ⟨b, 8997, none⟩)), (h53 : vals 53 = .agg (rowF (iv (Z 11)) 244)), (h54 : vals 54 = .bool true), (h55 : vals 55 = .bool true), (h56 : vals 56 = .bool true), (h57 : vals 57 = .pointer (some ⟨b, 0, none⟩)), (h58 : vals 58 = .pointer (some ⟨b, 0, none⟩)), (h59 : vals 59 = .pointer (some ⟨b, 0, none⟩)), (h60 : vals 60 = .bool true), (h61 : vals 61 = .bool true), (h62 : vals 62 = .bool true), (h63 : vals 63 = .pointer (some ⟨b, 0, none⟩)), (h64 : vals 64 = .pointer (some ⟨b, 0, none⟩)), (h65 : vals 65 = .pointer (some ⟨b, 8483, none⟩)), (h66 : vals 66 = .bool true), (h67 : vals 67 = .bool true), (h68 : vals 68 = .bool true), (h69 : vals 69 = .pointer (some ⟨b, 0, none⟩)), _, _, _⟩ := hf
      simp only [h71, h70, h0, h1, h2, h3, h4, h5, h6, h7, h8, h9, h10, h11, h12, h13, h14, h15, h16, h17, h18, h19, h20, h21, h22, h23, h24, h25, h26, h27, h28, h29, h30, h31, h32, h33, h34, h35, h36, h37, h38, h39, h40, h41, h42, h43, h44, h45, h46, h47, h48, h49, h50, h51, h52, h53, h54, h55, h56, h57, h58, h59, h60, h61, h62, h63, h64, h65, h66, h67, h68, h69]
      clear h71 h70 h0 h1 h2 h3 h4 h5 h6 h7 h8 h9 h10 h11 h12 h13 h14 h15 h16 h17 h18 h19 h20 h21 h22 h23 h24 h25 h26 h27 h28 h29 h30 h31 h32 h33 h34 h35 h36 h37 h38 h39 h40 h41 h42 h43 h44 h45 h46 h47 h48 h49 h50 h51 h52 h53 h54 h55 h56 h57 h58 h59 h60 h61 h62 h63 h64 h65 h66 h67 h68 h69
      go_wp2_with fail
      exact stepPost_mk _ rfl rfl (Below.refl _ _)
  rintro vals wq hb hall
  obtain ⟨_, _, _, _, _, _, _, _, _, _, _, _, _, _, _, _, _, _, _, _, _, _, _, _, _, _, _, _, _, _, _, _, _, _, _, _, _, _, _, _, _, _, _, _, _, _, _, _, _, _, _, _, _, _, _, _, _, _, _, _, _, _, _, _, _, _, _, _, _, _, _, _, (h72 : vals 72 = .bool true), _⟩ := hall
  simp only [h72]
  clear h72
  go_wp2_with fail
  go_ret
  exact ⟨rfl, hb⟩
def conC (b : Nat) (R : Nat → Int) (f : Bool) (l x t v k n tick wait back : Int) : Array Value := #[.int .i64 (R 0), .int .i64 (R 1), .int .i64 (R 2), .int .i64 (R 3), .int .i64 (R 4), .int .i64 (R 5), .bool f, .int .i64 l, .pointer (some ⟨b, 0, none⟩), .int .i64 x, .int .i64 t, .int .i64 v, .int .i64 k, .int .i64 n, .int .i64 tick, .int .i64 wait, .int .i64 back]
def HasK (w : World) (g b : Nat) (R : Nat → Int) (f : Bool) (l x t v' k n tick wait back : Int) : Prop := w.heap[g]? = some (.cells (conC b R f l x t v' k n tick wait back) 40 (0, 0))
theorem HasK.next {w : World} {g b : Nat} {R : Nat → Int} {f : Bool} {l x t v' k n tick wait back : Int} (hk : HasK w g b R f l x t v' k n tick wait back) {w' : World} (q : Below w.heap.size w w') : HasK w' g b R f l x t v' k n tick wait back := (q.block g (lt_of_block hk)).trans hk
theorem HasK.at {w : World} {g b : Nat} {R : Nat → Int} {f : Bool} {l x t v' k n tick wait back : Int} (hk : HasK w g b R f l x t v' k n tick wait back) (j : Nat) {y : Value} (hj : (conC b R f l x t v' k n tick wait back)[j]? = some y) : w.cell? ⟨g, j, none⟩ = some y := (cell_of_row w g j _ _ _ hk).trans hj
theorem missing_made {w : World} {g b : Nat} {R : Nat → Int} {f : Bool} {l x t v' k n tick wait back : Int} (hk : HasK w g b R f l x t v' k n tick wait back) {v c d : Nat} {bs : List Int} {Z : Nat → Nat → Int} (h : HasM w b v c d bs Z) (hv : VZ Z) : Calls Tryz.prog 19 #[.pointer (some ⟨g, 0, none⟩)] w fun e w' => e = Ending.returned (.bool false) ∧ Below w.heap.size w w' := by
  have c8 := hk.at 8 (y := .pointer (some ⟨b, 0, none⟩)) rfl
  have KM := hide (isMade_yes h hv)
  clear h hv hk
  go_enter Tryz.func19, Tryz.ntmps19
  go_wp2_with fail
  refine KM.out.mono ?_
  rintro e w1 ⟨rfl, b1⟩
  go_wp2_with fail
  go_ret
  exact ⟨rfl, b1⟩
theorem range_of {w : World} {g : Nat} {cs : Array Value} {T : TypeId} (h : w.heap[g]? = some (.cells cs T (0, 0))) (o : Nat) (xs : List Value) (hx : ∀ j y, xs[j]? = some y → cs[o + j]? = some y) : w.rangeAt g o xs := by
  intro j y hy
  rw [cell_of_row w g (o + j) _ _ _ h]
  exact hx j y hy
end Go.Proofs.YtnoggfnidaifkaaGreatDoor.L25
