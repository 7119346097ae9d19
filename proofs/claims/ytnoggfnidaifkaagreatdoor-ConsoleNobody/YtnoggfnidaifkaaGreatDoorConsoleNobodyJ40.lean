/- Consoles that no call made: nothing is done, and nothing told. -/
import Derived.Test.YtnoggfnidaifkaaGreatDoorConsoleNobodyJ39
import Derived.Test.YtnoggfnidaifkaaGreatDoorConsoleNobodyJ36
namespace Go.Proofs.YtnoggfnidaifkaaGreatDoor.L25
set_option maxRecDepth 20000
open C3 G6 L24 P22 R15 W13
open Go.RowKit
set_option linter.unusedVariables false
set_option linter.unusedSimpArgs false
theorem isMade_nil (w : World) : Calls Tryz.prog 46 #[.pointer none] w fun e w' => e = Ending.returned (.bool false) ∧ w' = w := by
  go_enter Tryz.func46, Tryz.ntmps46
  go_wp2
  go_ret
  exact ⟨rfl, rfl⟩
theorem isMade_plain {w : World} {b : Nat} (h : w.cell? ⟨b, 281, none⟩ = some (.pointer none)) : Calls Tryz.prog 46 #[.pointer (some ⟨b, 0, none⟩)] w fun e w' => e = Ending.returned (.bool false) ∧ w' = w := by
  have K := hide (pages_nil w)
  go_enter Tryz.func46, Tryz.ntmps46
  go_wp2_with (first | (go_at_call 29; refine K.out.mono ?_; rintro e w' ⟨rfl, hw⟩; subst w'))
  go_ret
  exact ⟨rfl, rfl⟩
def MissK (p : Value) (w : World) : Prop := ∀ w', Below w.heap.size w w' → Calls Tryz.prog 19 #[p] w' fun e w'' => e = Ending.returned (.bool true) ∧ w'' = w'
theorem MissK.next {p : Value} {w w' : World} (h : MissK p w) (k : Below w.heap.size w w') : MissK p w' := fun w'' k2 => h w'' (bnext k k2)
theorem missK_nil (w : World) : MissK (.pointer none) w := fun w _ => by
  go_enter Tryz.func19, Tryz.ntmps19
  go_wp2
  go_ret
  exact ⟨rfl, rfl⟩
theorem missK_no {w : World} {g : Nat} {cs : Array Value} {t : TypeId} (h : w.heap[g]? = some (.cells cs t (0, 0))) (h8 : cs[8]? = some (.pointer none)) : MissK (.pointer (some ⟨g, 0, none⟩)) w := fun w2 k => by
  have c8 := (cell_of_row w2 g 8 _ _ _ ((k.block g (lt_of_block h)).trans h)).trans h8
  have K := hide (isMade_nil w2)
  clear h h8 k
  go_enter Tryz.func19, Tryz.ntmps19
  go_wp2_with (first | (go_at_call 46; refine K.out.mono ?_; rintro e w' ⟨rfl, hw⟩; subst w'))
  go_ret
  exact ⟨rfl, rfl⟩
theorem missK_plain {w : World} {g b : Nat} {cs ds : Array Value} {t s : TypeId} (h : w.heap[g]? = some (.cells cs t (0, 0))) (h8 : cs[8]? = some (.pointer (some ⟨b, 0, none⟩))) (hb : w.heap[b]? = some (.cells ds s (0, 0))) (h6 : ds[281]? = some (.pointer none)) : MissK (.pointer (some ⟨g, 0, none⟩)) w := fun w2 k => by
  have c8 := (cell_of_row w2 g 8 _ _ _ ((k.block g (lt_of_block h)).trans h)).trans h8
  have K := hide (isMade_plain (w := w2) (b := b) ((cell_of_row w2 b 281 _ _ _ ((k.block b (lt_of_block hb)).trans hb)).trans h6))
  clear h h8 k hb h6
  go_enter Tryz.func19, Tryz.ntmps19
  go_wp2_with (first | (go_at_call 46; refine K.out.mono ?_; rintro e w' ⟨rfl, hw⟩; subst w'))
  go_ret
  exact ⟨rfl, rfl⟩
theorem valid_miss {p : Value} {w : World} (K0 : MissK p w) : Calls Tryz.prog 6 #[p] w fun e w' => e = Ending.returned (.bool false) ∧ Below w.heap.size w w' := by
  have K := hide (fun u hb => (K0 u hb).mono fun e w' ⟨e1, hw⟩ => (⟨e1, by rw [hw]; exact Below.refl _ _⟩ : e = Ending.returned (.bool true) ∧ Below u.heap.size u w'))
  clear K0
  go_enter Tryz.func6, Tryz.ntmps6
  go_wp2_with fail
  refine wp_region_facts (factR [eqF (p), eqF (.bool true), eqF (.bool false), eqF (.bool false), eqF (undef), eqF (undef), eqF (undef), eqF (undef), eqF (undef), eqF (.bool false), eqF (.bool false), eqF (undef), eqF (undef), eqF (undef), eqF (undef), eqF (undef), eqF (.bool false), eqF (.bool false), eqF (undef), eqF (undef), eqF (undef), eqF (undef), eqF (undef), eqF (undef), eqF (undef), eqF (undef), eqF (undef), eqF (undef), eqF (undef), eqF (undef), eqF (.bool false), eqF (.bool false), eqF (undef), eqF (undef), eqF (undef), eqF (undef), eqF (undef), eqF (undef), eqF (.bool false), eqF (.bool false), eqF (undef), eqF (undef), eqF (undef), eqF (undef), eqF (undef), eqF (undef), eqF (.bool false), eqF (.bool false), eqF (undef), eqF (undef), eqF (undef), eqF (undef), eqF (undef), eqF (.bool false), eqF (.bool false)]) _ (fun vals => by simp only [List.append_eq, List.cons_append, List.nil_append, putAll, Act.put, List.setIfInBounds_toArray, List.set_cons_succ, List.set_cons_zero, Nat.reduceAdd]; rfl) (by kernel_rfl) (by kernel_rfl) (by kernel_rfl) (factR_next (by simp only [List.mem_cons, List.not_mem_nil, or_false, forall_eq_or_imp, forall_eq]; refine ⟨eqF_next, eqF_next, eqF_next, eqF_next, eqF_next, eqF_next, eqF_next, eqF_next, eqF_next, eqF_next, eqF_next, eqF_next, eqF_next, eqF_next, eqF_next, eqF_next, eqF_next, eqF_next, eqF_next, eqF_next, eqF_next, eqF_next, eqF_next, eqF_next, eqF_next, eqF_next, eqF_next, eqF_next, eqF_next, eqF_next, eqF_next, eqF_next, eqF_next, eqF_next, eqF_next, eqF_next, eqF_next, eqF_next, eqF_next, eqF_next, eqF_next, eqF_next, eqF_next, eqF_next, eqF_next, eqF_next, eqF_next, eqF_next, eqF_next, eqF_next, eqF_next, eqF_next, eqF_next, eqF_next, eqF_next⟩)) ?_ ?_
  · refine steps_cons (fun vals u hb hf => ?_) (steps_cons (fun vals u hb hf => ?_) (steps_cons (fun vals u hb hf => ?_) (steps_cons (fun vals u hb hf => ?_) (steps_cons (fun vals u hb hf => ?_) (steps_cons (fun vals u hb hf => ?_) (steps_cons (fun vals u hb hf => ?_) (steps_cons (fun vals u hb hf => ?_) (steps_cons (fun vals u hb hf => ?_) (steps_cons (fun vals u hb hf => ?_) (steps_cons (fun vals u hb hf => ?_) (steps_cons (fun vals u hb hf => ?_) (steps_cons (fun vals u hb hf => ?_) (steps_cons (fun vals u hb hf => ?_) (steps_cons (fun vals u hb hf => ?_) (steps_cons (fun vals u hb hf => ?_) (steps_cons (fun vals u hb hf => ?_) (steps_cons (fun vals u hb hf => ?_) (steps_cons (fun vals u hb hf => ?_) (steps_cons (fun vals u hb hf => ?_) (steps_cons (fun vals u hb hf => ?_) (steps_cons (fun vals u hb hf => ?_) (steps_cons (fun vals u hb hf => ?_) (steps_cons (fun vals u hb hf => ?_) (steps_cons (fun vals u hb hf => ?_) (steps_cons (fun vals u hb hf => ?_) (steps_cons (fun vals u hb hf => ?_) (steps_cons (fun vals u hb hf => ?_) (steps_cons (fun vals u hb hf => ?_) (steps_cons (fun vals u hb hf => ?_) (steps_cons (fun vals u hb hf => ?_) (steps_cons (fun vals u hb hf => ?_) (steps_cons (fun vals u hb hf => ?_) (steps_cons (fun vals u hb hf => ?_) (steps_cons (fun vals u hb hf => ?_) (steps_cons (fun vals u hb hf => ?_) (steps_cons (fun vals u hb hf => ?_) (steps_cons (fun vals u hb hf => ?_) (steps_cons (fun vals u hb hf => ?_) (steps_cons (fun vals u hb hf => ?_) (steps_cons (fun vals u hb hf => ?_) (steps_cons (fun vals u hb hf => ?_) (steps_cons (fun vals u hb hf => ?_) (steps_cons (fun vals u hb hf => ?_) (steps_cons (fun vals u hb hf => ?_) (steps_cons (fun vals u hb hf => ?_) (steps_cons (fun vals u hb hf => ?_) (steps_cons (fun vals u hb hf => ?_) (steps_cons (fun vals u hb hf => ?_) (steps_cons (fun vals u hb hf => ?_) (steps_cons (fun vals u hb hf => ?_) (steps_cons (fun vals u hb hf => ?_) (steps_cons (fun vals u hb hf => ?_) (steps_cons (fun vals u hb hf => ?_) (steps_cons (fun vals u hb hf => ?_) steps_nil))))))))))))))))))))))))))))))))))))))))))))))))))))))
    · set_option maxRecDepth 20000 in
      go_wp2_with fail
      exact stepPost_mk _ rfl rfl (Below.refl _ _)
    · obtain ⟨(h0 : vals 0 = p), _⟩ := hf
      simp only [h0]
      clear h0
      go_wp2_with fail
      refine (K.out u hb).mono ?_
      rintro e u2 ⟨rfl, b2⟩
      go_wp2_with fail
      exact stepPost_mk _ rfl rfl b2
    · obtain ⟨(h1 : vals 1 = .bool true), _⟩ := hf
      simp only [h1]
      clear h1
      go_wp2_with fail
      exact stepPost_mk _ rfl rfl (Below.refl _ _)
    · obtain ⟨(h2 : vals 2 = .bool false), (h1 : vals 1 = .bool true), _⟩ := hf
      simp only [h2, h1]
      clear h2 h1
      go_wp2_with fail
      exact stepPost_mk _ rfl rfl (Below.refl _ _)
    · obtain ⟨(h3 : vals 3 = .bool false), _⟩ := hf
      simp only [h3]
      clear h3
      go_wp2_with fail
      exact stepPost_mk _ rfl rfl (Below.refl _ _)
    · obtain ⟨(h4 : vals 4 = undef), (h3 : vals 3 = .bool false), _⟩ := hf
      simp only [h4, h3]
      clear h4 h3
      go_wp2_with fail
      exact stepPost_mk _ rfl rfl (Below.refl _ _)
    · obtain ⟨(h5 : vals 5 = undef), (h3 : vals 3 = .bool false), _⟩ := hf
      simp only [h5, h3]
      clear h5 h3
      go_wp2_with fail
      exact stepPost_mk _ rfl rfl (Below.refl _ _)
    · obtain ⟨(h6 : vals 6 = undef), (h3 : vals 3 = .bool false), _⟩ := hf
      simp only [h6, h3]
      clear h6 h3
      go_wp2_with fail
      exact stepPost_mk _ rfl rfl (Below.refl _ _)
    · obtain ⟨(h7 : vals 7 = undef), (h3 : vals 3 = .bool false), _, _⟩ := hf
      simp only [h7, h3]
      clear h7 h3
      go_wp2_with fail
      exact stepPost_mk _ rfl rfl (Below.refl _ _)
    · obtain ⟨(h3 : vals 3 = .bool false), (h8 : vals 8 = undef), _⟩ := hf
      simp only [h3, h8]
      clear h3 h8
      go_wp2_with fail
      exact stepPost_mk _ rfl rfl (Below.refl _ _)
    · obtain ⟨(h9 : vals 9 = .bool false), (h8 : vals 8 = undef), _⟩ := hf
      simp only [h9, h8]
      clear h9 h8
      go_wp2_with fail
      exact stepPost_mk _ rfl rfl (Below.refl _ _)
    · obtain ⟨(h10 : vals 10 = .bool false), _⟩ := hf
      simp only [h10]
      clear h10
      go_wp2_with fail
      exact stepPost_mk _ rfl rfl (Below.refl _ _)
    · obtain ⟨(h11 : vals 11 = undef), (h10 : vals 10 = .bool false), _⟩ := hf
      simp only [h11, h10]
      clear h11 h10
      go_wp2_with fail
      exact stepPost_mk _ rfl rfl (Below.refl _ _)
    · obtain ⟨(h12 : vals 12 = undef), (h10 : vals 10 = .bool false), _⟩ := hf
      simp only [h12, h10]
      clear h12 h10
      go_wp2_with fail
      exact stepPost_mk _ rfl rfl (Below.refl _ _)
    · obtain ⟨(h13 : vals 13 = undef), (h10 : vals 10 = .bool false), _⟩ := hf
      simp only [h13, h10]
      clear h13 h10
      go_wp2_with fail
      exact stepPost_mk _ rfl rfl (Below.refl _ _)
    · obtain ⟨(h14 : vals 14 = undef), (h10 : vals 10 = .bool false), _, _⟩ := hf
      simp only [h14, h10]
      clear h14 h10
      go_wp2_with fail
      exact stepPost_mk _ rfl rfl (Below.refl _ _)
    · obtain ⟨(h10 : vals 10 = .bool false), (h15 : vals 15 = undef), _⟩ := hf
      simp only [h10, h15]
      clear h10 h15
      go_wp2_with fail
      exact stepPost_mk _ rfl rfl (Below.refl _ _)
    · obtain ⟨(h16 : vals 16 = .bool false), (h15 : vals 15 = undef), _⟩ := hf
      simp only [h16, h15]
      clear h16 h15
      go_wp2_with fail
      exact stepPost_mk _ rfl rfl (Below.refl _ _)
    · obtain ⟨(h17 : vals 17 = .bool false), _⟩ := hf
      simp only [h17]
      clear h17
      go_wp2_with fail
      exact stepPost_mk _ rfl rfl (Below.refl _ _)
    · obtain ⟨(h18 : vals 18 = undef), (h17 : vals 17 = .bool false), _⟩ := hf
      simp only [h18, h17]
      clear h18 h17
      go_wp2_with fail
      exact stepPost_mk _ rfl rfl (Below.refl _ _)
    · obtain ⟨(h19 : vals 19 = undef), (h17 : vals 17 = .bool false), _⟩ := hf
      simp only [h19, h17]
      clear h19 h17
      go_wp2_with fail
      exact stepPost_mk _ rfl rfl (Below.refl _ _)
    · obtain ⟨(h20 : vals 20 = undef), (h17 : vals 17 = .bool false), _⟩ := hf
      simp only [h20, h17]
      clear h20 h17
      go_wp2_with fail
      exact stepPost_mk _ rfl rfl (Below.refl _ _)
    · obtain ⟨(h21 : vals 21 = undef), (h17 : vals 17 = .bool false), _, _⟩ := hf
      simp only [h21, h17]
      clear h21 h17
      go_wp2_with fail
      exact stepPost_mk _ rfl rfl (Below.refl _ _)
    · obtain ⟨(h22 : vals 22 = undef), (h17 : vals 17 = .bool false), _⟩ := hf
      simp only [h22, h17]
      clear h22 h17
      go_wp2_with fail
      exact stepPost_mk _ rfl rfl (Below.refl _ _)
    · obtain ⟨(h17 : vals 17 = .bool false), _⟩ := hf
      simp only [h17]
      clear h17
      go_wp2_with fail
      exact stepPost_mk _ rfl rfl (Below.refl _ _)
    · obtain ⟨(h24 : vals 24 = undef), (h17 : vals 17 = .bool false), _⟩ := hf
      simp only [h24, h17]
      clear h24 h17
      go_wp2_with fail
      exact stepPost_mk _ rfl rfl (Below.refl _ _)
    · obtain ⟨(h25 : vals 25 = undef), (h17 : vals 17 = .bool false), _⟩ := hf
      simp only [h25, h17]
      clear h25 h17
      go_wp2_with fail
      exact stepPost_mk _ rfl rfl (Below.refl _ _)
    · obtain ⟨(h26 : vals 26 = undef), (h17 : vals 17 = .bool false), _⟩ := hf
      simp only [h26, h17]
      clear h26 h17
      go_wp2_with fail
      exact stepPost_mk _ rfl rfl (Below.refl _ _)
    · obtain ⟨(h27 : vals 27 = undef), (h17 : vals 17 = .bool false), _⟩ := hf
      simp only [h27, h17]
      clear h27 h17
      go_wp2_with fail
      exact stepPost_mk _ rfl rfl (Below.refl _ _)
    · obtain ⟨(h23 : vals 23 = undef), (h28 : vals 28 = undef), (h22 : vals 22 = undef), (h17 : vals 17 = .bool false), _⟩ := hf
      simp only [h23, h28, h22, h17]
      clear h23 h28 h22 h17
      go_wp2_with fail
      exact stepPost_mk _ rfl rfl (Below.refl _ _)
    · obtain ⟨(h17 : vals 17 = .bool false), (h29 : vals 29 = undef), _⟩ := hf
      simp only [h17, h29]
      clear h17 h29
      go_wp2_with fail
      exact stepPost_mk _ rfl rfl (Below.refl _ _)
    · obtain ⟨(h30 : vals 30 = .bool false), (h29 : vals 29 = undef), _⟩ := hf
      simp only [h30, h29]
      clear h30 h29
      go_wp2_with fail
      exact stepPost_mk _ rfl rfl (Below.refl _ _)
    · obtain ⟨(h31 : vals 31 = .bool false), _⟩ := hf
      simp only [h31]
      clear h31
      go_wp2_with fail
      exact stepPost_mk _ rfl rfl (Below.refl _ _)
    · obtain ⟨(h32 : vals 32 = undef), (h31 : vals 31 = .bool false), _⟩ := hf
      simp only [h32, h31]
      clear h32 h31
      go_wp2_with fail
      exact stepPost_mk _ rfl rfl (Below.refl _ _)
    · obtain ⟨(h33 : vals 33 = undef), (h31 : vals 31 = .bool false), _⟩ := hf
      simp only [h33, h31]
      clear h33 h31
      go_wp2_with fail
      exact stepPost_mk _ rfl rfl (Below.refl _ _)
    · obtain ⟨(h34 : vals 34 = undef), (h31 : vals 31 = .bool false), _⟩ := hf
      simp only [h34, h31]
      clear h34 h31
      go_wp2_with fail
      exact stepPost_mk _ rfl rfl (Below.refl _ _)
    · obtain ⟨(h35 : vals 35 = undef), (h31 : vals 31 = .bool false), _⟩ := hf
      simp only [h35, h31]
      clear h35 h31
      go_wp2_with fail
      exact stepPost_mk _ rfl rfl (Below.refl _ _)
    · obtain ⟨(h36 : vals 36 = undef), (h31 : vals 31 = .bool false), _, _⟩ := hf
      simp only [h36, h31]
      clear h36 h31
      go_wp2_with fail
      exact stepPost_mk _ rfl rfl (Below.refl _ _)
    · obtain ⟨(h31 : vals 31 = .bool false), (h37 : vals 37 = undef), _⟩ := hf
      simp only [h31, h37]
      clear h31 h37
      go_wp2_with fail
      exact stepPost_mk _ rfl rfl (Below.refl _ _)
    · obtain ⟨(h38 : vals 38 = .bool false), (h37 : vals 37 = undef), _⟩ := hf
      simp only [h38, h37]
      clear h38 h37
      go_wp2_with fail
      exact stepPost_mk _ rfl rfl (Below.refl _ _)
    · obtain ⟨(h39 : vals 39 = .bool false), _⟩ := hf
      simp only [h39]
      clear h39
      go_wp2_with fail
      exact stepPost_mk _ rfl rfl (Below.refl _ _)
    · obtain ⟨(h40 : vals 40 = undef), (h39 : vals 39 = .bool false), _⟩ := hf
      simp only [h40, h39]
      clear h40 h39
      go_wp2_with fail
      exact stepPost_mk _ rfl rfl (Below.refl _ _)
    · obtain ⟨(h41 : vals 41 = undef), (h39 : vals 39 = .bool false), _⟩ := hf
      simp only [h41, h39]
      clear h41 h39
      go_wp2_with fail
      exact stepPost_mk _ rfl rfl (Below.refl _ _)
    · obtain ⟨(h42 : vals 42 = undef), (h39 : vals 39 = .bool false), _⟩ := hf
      simp only [h42, h39]
      clear h42 h39
      go_wp2_with fail
      exact stepPost_mk _ rfl rfl (Below.refl _ _)
    · obtain ⟨(h43 : vals 43 = undef), (h39 : vals 39 = .bool false), _⟩ := hf
      simp only [h43, h39]
      clear h43 h39
      go_wp2_with fail
      exact stepPost_mk _ rfl rfl (Below.refl _ _)
    · obtain ⟨(h44 : vals 44 = undef), (h39 : vals 39 = .bool false), _, _⟩ := hf
      simp only [h44, h39]
      clear h44 h39
      go_wp2_with fail
      exact stepPost_mk _ rfl rfl (Below.refl _ _)
    · obtain ⟨(h39 : vals 39 = .bool false), (h45 : vals 45 = undef), _⟩ := hf
      simp only [h39, h45]
      clear h39 h45
      go_wp2_with fail
      exact stepPost_mk _ rfl rfl (Below.refl _ _)
    · obtain ⟨(h46 : vals 46 = .bool false), (h45 : vals 45 = undef), _⟩ := hf
      simp only [h46, h45]
      clear h46 h45
      go_wp2_with fail
      exact stepPost_mk _ rfl rfl (Below.refl _ _)
    · obtain ⟨(h47 : vals 47 = .bool false), _⟩ := hf
      simp only [h47]
      clear h47
      go_wp2_with fail
      exact stepPost_mk _ rfl rfl (Below.refl _ _)
    · obtain ⟨(h48 : vals 48 = undef), (h47 : vals 47 = .bool false), _⟩ := hf
      simp only [h48, h47]
      clear h48 h47
      go_wp2_with fail
      exact stepPost_mk _ rfl rfl (Below.refl _ _)
    · obtain ⟨(h49 : vals 49 = undef), (h47 : vals 47 = .bool false), _⟩ := hf
      simp only [h49, h47]
      clear h49 h47
      go_wp2_with fail
      exact stepPost_mk _ rfl rfl (Below.refl _ _)
    · obtain ⟨(h50 : vals 50 = undef), (h47 : vals 47 = .bool false), _⟩ := hf
      simp only [h50, h47]
      clear h50 h47
      go_wp2_with fail
      exact stepPost_mk _ rfl rfl (Below.refl _ _)
    · obtain ⟨(h51 : vals 51 = undef), (h47 : vals 47 = .bool false), _, _⟩ := hf
      simp only [h51, h47]
      clear h51 h47
      go_wp2_with fail
      exact stepPost_mk _ rfl rfl (Below.refl _ _)
    · obtain ⟨(h47 : vals 47 = .bool false), (h52 : vals 52 = undef), _⟩ := hf
      simp only [h47, h52]
      clear h47 h52
      go_wp2_with fail
      exact stepPost_mk _ rfl rfl (Below.refl _ _)
    · obtain ⟨(h53 : vals 53 = .bool false), (h52 : vals 52 = undef), (h0 : vals 0 = p), (h1 : vals 1 = .bool true), (h2 : vals 2 = .bool false), (h3 : vals 3 = .bool false), (h4 : vals 4 = undef), (h5 : vals 5 = undef), (h6 : vals 6 = undef), (h7 : vals 7 = undef), (h8 : vals 8 = undef), (h9 : vals 9 = .bool false), (h10 : vals 10 = .bool false), (h11 : vals 11 = undef), (h12 : vals 12 = undef), (h13 : vals 13 = undef), (h14 : vals 14 = undef), (h15 : vals 15 = undef), (h16 : vals 16 = .bool false), (h17 : vals 17 = .bool false), (h18 : vals 18 = undef), (h19 : vals 19 = undef), (h20 : vals 20 = undef), (h21 : vals 21 = undef), (h22 : vals 22 = undef), (h23 : vals 23 = undef), (h24 : vals 24 = undef), (h25 : vals 25 = undef), (h26 : vals 26 = undef), (h27 : vals 27 = undef), (h28 : vals 28 = undef), (h29 : vals 29 = undef), (h30 : vals 30 = .bool false), (h31 : vals 31 = .bool false), (h32 : vals 32 = undef), (h33 : vals 33 = undef), (h34 : vals 34 = undef), (h35 : vals 35 = undef), (h36 : vals 36 = undef), (h37 : vals 37 = undef), (h38 : vals 38 = .bool false), (h39 : vals 39 = .bool false), (h40 : vals 40 = undef), (h41 : vals 41 = undef), (h42 : vals 42 = undef), (h43 : vals 43 = undef), (h44 : vals 44 = undef), (h45 : vals 45 = undef), (h46 : vals 46 = .bool false), (h47 : vals 47 = .bool false), (h48 : vals 48 = undef), (h49 : vals 49 = undef), (h50 : vals 50 = undef), (h51 : vals 51 = undef), _, _, _⟩ := hf
      simp only [h53, h52, h0, h1, h2, h3, h4, h5, h6, h7, h8, h9, h10, h11, h12, h13, h14, h15, h16, h17, h18, h19, h20, h21, h22, h23, h24, h25, h26, h27, h28, h29, h30, h31, h32, h33, h34, h35, h36, h37, h38, h39, h40, h41, h42, h43, h44, h45, h46, h47, h48, h49, h50, h51]
      clear h53 h52 h0 h1 h2 h3 h4 h5 h6 h7 h8 h9 h10 h11 h12 h13 h14 h15 h16 h17 h18 h19 h20 h21 h22 h23 h24 h25 h26 h27 h28 h29 h30 h31 h32 h33 h34 h35 h36 h37 h38 h39 h40 h41 h42 h43 h44 h45 h46 h47 h48 h49 h50 h51
      go_wp2_with fail
      exact stepPost_mk _ rfl rfl (Below.refl _ _)
  rintro vals wq hb hall
  obtain ⟨_, _, _, _, _, _, _, _, _, _, _, _, _, _, _, _, _, _, _, _, _, _, _, _, _, _, _, _, _, _, _, _, _, _, _, _, _, _, _, _, _, _, _, _, _, _, _, _, _, _, _, _, _, _, (h54 : vals 54 = .bool false), _⟩ := hall
  simp only [h54]
  clear h54
  go_wp2_with fail
  go_ret
  exact ⟨rfl, hb⟩
theorem reset_miss {p : Value} {w : World} (K0 : MissK p w) : Calls Tryz.prog 7 #[p] w fun e w' => e = Ending.returned (.tuple #[]) ∧ w' = w := by
  have K := hide (K0 w (Below.refl _ _))
  clear K0
  go_enter Tryz.func7, Tryz.ntmps7
  go_wp2_with (first | (go_at_call 19; refine K.out.mono ?_; rintro e w' ⟨rfl, hw⟩; subst w'))
  refine bodyPost_ret (results_none rfl _ _ _) rfl ?_
  exact ⟨rfl, rfl⟩
theorem press_miss {p : Value} {w : World} (K0 : MissK p w) : Calls Tryz.prog 8 #[p, .agg #[.int .i64 0, .bool false, .int .i64 0, .bool false, .int .i64 0, .bool false, .int .i64 0, .bool false, .int .i64 0, .bool false]] w fun e w' => e = Ending.returned (.tuple #[]) ∧ Below w.heap.size w w' := by
  have b1 := (Below.refl w.heap.size w).alloc (Nat.le_refl _) (.cells #[.int .i64 0, .bool false, .int .i64 0, .bool false, .int .i64 0, .bool false, .int .i64 0, .bool false, .int .i64 0, .bool false] 68)
  have K := hide (K0 _ b1)
  clear K0
  go_enter Tryz.func8, Tryz.ntmps8
  go_wp2_with (first | (go_at_call 19; refine K.out.mono ?_; rintro e w' ⟨rfl, hw⟩; subst w'))
  refine bodyPost_ret (results_none rfl _ _ _) rfl ?_
  exact ⟨rfl, b1⟩
def NoV (p : Value) (w : World) : Prop := ∀ w', Below w.heap.size w w' → Calls Tryz.prog 6 #[p] w' fun e w'' => e = Ending.returned (.bool false) ∧ Below w'.heap.size w' w''
theorem NoV.next {p : Value} {w w' : World} (h : NoV p w) (k : Below w.heap.size w w') : NoV p w' := fun w'' k2 => h w'' (bnext k k2)
theorem noV_miss {p : Value} {w : World} (K : MissK p w) : NoV p w := fun w' k => valid_miss (K.next k)
theorem run_no {p : Value} {w : World} (K0 : NoV p w) (n : Int) : Calls Tryz.prog 9 #[p, .int .i64 n] w fun e w' => e = Ending.returned (.agg #[.slice none 0 0, .slice none 0 0]) ∧ Below w.heap.size w w' := by
  have b1 := (Below.refl w.heap.size w).alloc (Nat.le_refl _) (.cells #[.slice none 0 0, .slice none 0 0] 76)
  have K := hide (K0 _ b1)
  clear K0
  go_enter Tryz.func9, Tryz.ntmps9
  go_wp2_with fail
  refine K.out.mono ?_
  rintro e w2 ⟨rfl, b2⟩
  have R0 := hide (show w2.heap[w.heap.size]? = some (.cells #[.slice none 0 0, .slice none 0 0] 76 (0, 0)) from (b2.block _ (by simp)).trans (heap_alloc_new w _))
  have B2 := hide (b1.trans (b2.mono b1.size))
  clear b1 b2 K
  go_wp2_with (first | (refine wpList_store_row rfl 76 (.tmp 4) (.tmp 19) rfl w.heap.size _ rfl rfl 76 _ R0.out (by kernel_rfl) rfl (by kernel_rfl) ?_))
  refine bodyPost_ret (results_cell_row rfl _ _ w.heap.size 76 _ (0, 0) _ rfl (setRow_heap _ _ _ _ _ _ R0.out) Tryz.underlying76 rfl (by kernel_rfl)) rfl ?_
  exact ⟨rfl, below_setRow B2.out (Nat.le_refl _) _⟩
theorem runFrame_no {p : Value} {w : World} (K0 : NoV p w) : Calls Tryz.prog 10 #[p] w fun e w' => e = Ending.returned (.agg #[.slice none 0 0, .slice none 0 0]) ∧ Below w.heap.size w w' := by
  have b1 := (Below.refl w.heap.size w).alloc (Nat.le_refl _) (.cells #[.slice none 0 0, .slice none 0 0] 76)
  have K := hide (K0 _ b1)
  clear K0
  go_enter Tryz.func10, Tryz.ntmps10
  go_wp2_with fail
  refine K.out.mono ?_
  rintro e w2 ⟨rfl, b2⟩
  have R0 := hide (show w2.heap[w.heap.size]? = some (.cells #[.slice none 0 0, .slice none 0 0] 76 (0, 0)) from (b2.block _ (by simp)).trans (heap_alloc_new w _))
  have B2 := hide (b1.trans (b2.mono b1.size))
  clear b1 b2 K
  go_wp2_with (first | (refine wpList_store_row rfl 76 (.tmp 2) (.tmp 7) rfl w.heap.size _ rfl rfl 76 _ R0.out (by kernel_rfl) rfl (by kernel_rfl) ?_))
  refine bodyPost_ret (results_cell_row rfl _ _ w.heap.size 76 _ (0, 0) _ rfl (setRow_heap _ _ _ _ _ _ R0.out) Tryz.underlying76 rfl (by kernel_rfl)) rfl ?_
  exact ⟨rfl, below_setRow B2.out (Nat.le_refl _) _⟩
end Go.Proofs.YtnoggfnidaifkaaGreatDoor.L25
