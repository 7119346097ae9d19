/- The console: the contract of Valid, where the answer is yes. -/
import Derived.Test.YtnoggfnidaifkaaGreatDoorConsoleNobodyJ37
import Derived.Test.YtnoggfnidaifkaaGreatDoorConsoleNobodyJ36
namespace Go.Proofs.YtnoggfnidaifkaaGreatDoor.L25
set_option maxRecDepth 20000
open A2 B4 C3 G6 I11 J23 K9 L24 M5 N8 O7 P22 R15 T10 V12 W13
open Go.RowKit
set_option linter.unusedVariables false
set_option linter.unusedSimpArgs false
def ConOk (R : Nat → Int) (l x t v' k n tick wait back : Int) : Prop := CoreOk R l ∧ GeoOk x t v' k n ∧ (0 ≤ tick ∧ tick ≤ n * 1365 - 1) ∧ (0 ≤ wait ∧ wait ≤ 16777215) ∧ (0 ≤ back ∧ back ≤ 65535)
set_option maxHeartbeats 8000000 in
theorem valid_yes {w : World} {g b v c d : Nat} {bs : List Int} {Z : Nat → Nat → Int} {R : Nat → Int} {f : Bool} {l x t v' k n tick wait back : Int} (hk : HasK w g b R f l x t v' k n tick wait back) (h : HasM w b v c d bs Z) (hv : VZ Z) (hc : ConOk R l x t v' k n tick wait back) :
    Calls Tryz.prog 6 #[.pointer (some ⟨g, 0, none⟩)] w fun e w' => e = Ending.returned (.bool true) ∧ Below w.heap.size w w' := by
  have HK := hide hk
  have H := hide h
  have HV := hide hv
  have HC := hide hc
  have n0 := hc.2.1.1
  have hn : 0 ≤ n ∧ n ≤ 1000 := by omega
  have HN := hide hn
  have RC := hide (show ∀ j y, (#[.int .i64 (R 0), .int .i64 (R 1), .int .i64 (R 2), .int .i64 (R 3), .int .i64 (R 4), .int .i64 (R 5), .bool f, .int .i64 l].toList)[j]? = some y → (conC b R f l x t v' k n tick wait back)[0 + j]? = some y from by
    intro j y hy
    rcases j with _ | _ | _ | _ | _ | _ | _ | _ | j <;> first | exact hy | exact absurd hy (by simp))
  have RG := hide (show ∀ j y, (#[.int .i64 x, .int .i64 t, .int .i64 v', .int .i64 k, .int .i64 n].toList)[j]? = some y → (conC b R f l x t v' k n tick wait back)[9 + j]? = some y from by
    intro j y hy
    rcases j with _ | _ | _ | _ | _ | j <;> first | exact hy | exact absurd hy (by simp))
  clear hk h hv hc n0
  go_enter Tryz.func6, Tryz.ntmps6
  go_wp2_with fail
  refine wp_region_facts (factR [eqF (.pointer (some ⟨g, 0, none⟩)), eqF (.bool false), eqF (.bool true), eqF (.bool true), eqF (.pointer (some ⟨g, 0, none⟩)), eqF (.pointer (some ⟨g, 0, none⟩)), eqF (.pointer (some ⟨g, 0, none⟩)), eqF (.agg #[.int .i64 (R 0), .int .i64 (R 1), .int .i64 (R 2), .int .i64 (R 3), .int .i64 (R 4), .int .i64 (R 5), .bool f, .int .i64 l]), eqF (.bool true), eqF (.bool true), eqF (.bool true), eqF (.pointer (some ⟨g, 0, none⟩)), eqF (.pointer (some ⟨g, 0, none⟩)), eqF (.pointer (some ⟨g, 9, none⟩)), eqF (.agg #[.int .i64 x, .int .i64 t, .int .i64 v', .int .i64 k, .int .i64 n]), eqF (.bool true), eqF (.bool true), eqF (.bool true), eqF (.pointer (some ⟨g, 0, none⟩)), eqF (.pointer (some ⟨g, 0, none⟩)), eqF (.pointer (some ⟨g, 9, none⟩)), eqF (.agg #[.int .i64 x, .int .i64 t, .int .i64 v', .int .i64 k, .int .i64 n]), eqF (.int .i64 (n * 1365)), eqF (.int .i64 (n * 1365 - 1)), eqF (.pointer (some ⟨g, 0, none⟩)), eqF (.pointer (some ⟨g, 0, none⟩)), eqF (.pointer (some ⟨g, 14, none⟩)), eqF (.int .i64 tick), sliceF (tick), eqF (.bool true), eqF (.bool true), eqF (.bool true), eqF (.pointer (some ⟨g, 0, none⟩)), eqF (.pointer (some ⟨g, 0, none⟩)), eqF (.pointer (some ⟨g, 15, none⟩)), eqF (.int .i64 wait), sliceF (wait), eqF (.bool true), eqF (.bool true), eqF (.bool true), eqF (.pointer (some ⟨g, 0, none⟩)), eqF (.pointer (some ⟨g, 0, none⟩)), eqF (.pointer (some ⟨g, 16, none⟩)), eqF (.int .i64 back), sliceF (back), eqF (.bool true), eqF (.bool true), eqF (.bool true), eqF (.pointer (some ⟨g, 0, none⟩)), eqF (.pointer (some ⟨g, 0, none⟩)), eqF (.pointer (some ⟨g, 8, none⟩)), eqF (.pointer (some ⟨b, 0, none⟩)), eqF (.bool true), eqF (.bool true), eqF (.bool true)]) _ (fun vals => by simp only [List.append_eq, List.cons_append, List.nil_append, putAll, Act.put, List.setIfInBounds_toArray, List.set_cons_succ, List.set_cons_zero, Nat.reduceAdd]; rfl) (by kernel_rfl) (by kernel_rfl) (by kernel_rfl) (factR_next (by simp only [List.mem_cons, List.not_mem_nil, or_false, forall_eq_or_imp, forall_eq]; refine ⟨eqF_next, eqF_next, eqF_next, eqF_next, eqF_next, eqF_next, eqF_next, eqF_next, eqF_next, eqF_next, eqF_next, eqF_next, eqF_next, eqF_next, eqF_next, eqF_next, eqF_next, eqF_next, eqF_next, eqF_next, eqF_next, eqF_next, eqF_next, eqF_next, eqF_next, eqF_next, eqF_next, eqF_next, sliceF_next, eqF_next, eqF_next, eqF_next, eqF_next, eqF_next, eqF_next, eqF_next, sliceF_next, eqF_next, eqF_next, eqF_next, eqF_next, eqF_next, eqF_next, eqF_next, sliceF_next, eqF_next, eqF_next, eqF_next, eqF_next, eqF_next, eqF_next, eqF_next, eqF_next, eqF_next, eqF_next⟩)) ?_ ?_
  · refine steps_cons (fun vals u hb hf => ?_) (steps_cons (fun vals u hb hf => ?_) (steps_cons (fun vals u hb hf => ?_) (steps_cons (fun vals u hb hf => ?_) (steps_cons (fun vals u hb hf => ?_) (steps_cons (fun vals u hb hf => ?_) (steps_cons (fun vals u hb hf => ?_) (steps_cons (fun vals u hb hf => ?_) (steps_cons (fun vals u hb hf => ?_) (steps_cons (fun vals u hb hf => ?_) (steps_cons (fun vals u hb hf => ?_) (steps_cons (fun vals u hb hf => ?_) (steps_cons (fun vals u hb hf => ?_) (steps_cons (fun vals u hb hf => ?_) (steps_cons (fun vals u hb hf => ?_) (steps_cons (fun vals u hb hf => ?_) (steps_cons (fun vals u hb hf => ?_) (steps_cons (fun vals u hb hf => ?_) (steps_cons (fun vals u hb hf => ?_) (steps_cons (fun vals u hb hf => ?_) (steps_cons (fun vals u hb hf => ?_) (steps_cons (fun vals u hb hf => ?_) (steps_cons (fun vals u hb hf => ?_) (steps_cons (fun vals u hb hf => ?_) (steps_cons (fun vals u hb hf => ?_) (steps_cons (fun vals u hb hf => ?_) (steps_cons (fun vals u hb hf => ?_) (steps_cons (fun vals u hb hf => ?_) (steps_cons (fun vals u hb hf => ?_) (steps_cons (fun vals u hb hf => ?_) (steps_cons (fun vals u hb hf => ?_) (steps_cons (fun vals u hb hf => ?_) (steps_cons (fun vals u hb hf => ?_) (steps_cons (fun vals u hb hf => ?_) (steps_cons (fun vals u hb hf => ?_) (steps_cons (fun vals u hb hf => ?_) (steps_cons (fun vals u hb hf => ?_) (steps_cons (fun vals u hb hf => ?_) (steps_cons (fun vals u hb hf => ?_) (steps_cons (fun vals u hb hf => ?_) (steps_cons (fun vals u hb hf => ?_) (steps_cons (fun vals u hb hf => ?_) (steps_cons (fun vals u hb hf => ?_) (steps_cons (fun vals u hb hf => ?_) (steps_cons (fun vals u hb hf => ?_) (steps_cons (fun vals u hb hf => ?_) (steps_cons (fun vals u hb hf => ?_) (steps_cons (fun vals u hb hf => ?_) (steps_cons (fun vals u hb hf => ?_) (steps_cons (fun vals u hb hf => ?_) (steps_cons (fun vals u hb hf => ?_) (steps_cons (fun vals u hb hf => ?_) (steps_cons (fun vals u hb hf => ?_) (steps_cons (fun vals u hb hf => ?_) (steps_cons (fun vals u hb hf => ?_) steps_nil))))))))))))))))))))))))))))))))))))))))))))))))))))))
    · set_option maxRecDepth 20000 in
      go_wp2_with fail
      exact stepPost_mk _ rfl rfl (Below.refl _ _)
    · obtain ⟨(h0 : vals 0 = .pointer (some ⟨g, 0, none⟩)), _⟩ := hf
      simp only [h0]
      clear h0
      go_wp2_with fail
      refine (missing_made (HK.out.next hb) (H.out.next hb) HV.out).mono ?_
      rintro e u2 ⟨rfl, b2⟩
      go_wp2_with fail
      exact stepPost_mk _ rfl rfl b2
    · obtain ⟨(h1 : vals 1 = .bool false), _⟩ := hf
      simp only [h1]
      clear h1
      go_wp2_with fail
      exact stepPost_mk _ rfl rfl (Below.refl _ _)
    · obtain ⟨(h2 : vals 2 = .bool true), (h1 : vals 1 = .bool false), _⟩ := hf
      simp only [h2, h1]
      clear h2 h1
      go_wp2_with fail
      exact stepPost_mk _ rfl rfl (Below.refl _ _)
    · obtain ⟨(h3 : vals 3 = .bool true), _⟩ := hf
      simp only [h3]
      clear h3
      go_wp2_with fail
      exact stepPost_mk _ rfl rfl (Below.refl _ _)
    · obtain ⟨(h4 : vals 4 = .pointer (some ⟨g, 0, none⟩)), (h3 : vals 3 = .bool true), _⟩ := hf
      simp only [h4, h3]
      clear h4 h3
      go_wp2_with fail
      exact stepPost_mk _ rfl rfl (Below.refl _ _)
    · obtain ⟨(h5 : vals 5 = .pointer (some ⟨g, 0, none⟩)), (h3 : vals 3 = .bool true), _⟩ := hf
      simp only [h5, h3]
      clear h5 h3
      go_wp2_with fail
      exact stepPost_mk _ rfl rfl (Below.refl _ _)
    · obtain ⟨(h6 : vals 6 = .pointer (some ⟨g, 0, none⟩)), (h3 : vals 3 = .bool true), _⟩ := hf
      simp only [h6, h3]
      clear h6 h3
      go_wp2_with (first | (refine wpList_mid_wanted rfl 35 (.tmp 9) rfl g 0 rfl _ _ (range_of (HK.out.next hb) 0 _ RC.out) Tryz.underlying35 rfl (by kernel_rfl) ?_))
      exact stepPost_mk _ rfl rfl (Below.refl _ _)
    · obtain ⟨(h7 : vals 7 = .agg #[.int .i64 (R 0), .int .i64 (R 1), .int .i64 (R 2), .int .i64 (R 3), .int .i64 (R 4), .int .i64 (R 5), .bool f, .int .i64 l]), (h3 : vals 3 = .bool true), _, _⟩ := hf
      simp only [h7, h3]
      clear h7 h3
      go_wp2_with fail
      refine (isCore_yes R f l HC.out.1 _).mono ?_
      rintro e u2 ⟨rfl, b2⟩
      go_wp2_with fail
      exact stepPost_mk _ rfl rfl b2
    · obtain ⟨(h3 : vals 3 = .bool true), (h8 : vals 8 = .bool true), _⟩ := hf
      simp only [h3, h8]
      clear h3 h8
      go_wp2_with fail
      exact stepPost_mk _ rfl rfl (Below.refl _ _)
    · obtain ⟨(h9 : vals 9 = .bool true), (h8 : vals 8 = .bool true), _⟩ := hf
      simp only [h9, h8]
      clear h9 h8
      go_wp2_with fail
      exact stepPost_mk _ rfl rfl (Below.refl _ _)
    · obtain ⟨(h10 : vals 10 = .bool true), _⟩ := hf
      simp only [h10]
      clear h10
      go_wp2_with fail
      exact stepPost_mk _ rfl rfl (Below.refl _ _)
    · obtain ⟨(h11 : vals 11 = .pointer (some ⟨g, 0, none⟩)), (h10 : vals 10 = .bool true), _⟩ := hf
      simp only [h11, h10]
      clear h11 h10
      go_wp2_with fail
      exact stepPost_mk _ rfl rfl (Below.refl _ _)
    · obtain ⟨(h12 : vals 12 = .pointer (some ⟨g, 0, none⟩)), (h10 : vals 10 = .bool true), _⟩ := hf
      simp only [h12, h10]
      clear h12 h10
      go_wp2_with fail
      exact stepPost_mk _ rfl rfl (Below.refl _ _)
    · obtain ⟨(h13 : vals 13 = .pointer (some ⟨g, 9, none⟩)), (h10 : vals 10 = .bool true), _⟩ := hf
      simp only [h13, h10]
      clear h13 h10
      go_wp2_with (first | (refine wpList_mid_wanted rfl 38 (.tmp 16) rfl g 9 rfl _ _ (range_of (HK.out.next hb) 9 _ RG.out) Tryz.underlying38 rfl (by kernel_rfl) ?_))
      exact stepPost_mk _ rfl rfl (Below.refl _ _)
    · obtain ⟨(h14 : vals 14 = .agg #[.int .i64 x, .int .i64 t, .int .i64 v', .int .i64 k, .int .i64 n]), (h10 : vals 10 = .bool true), _, _⟩ := hf
      simp only [h14, h10]
      clear h14 h10
      go_wp2_with fail
      refine (isGeometry_yes x t v' k n HC.out.2.1 _).mono ?_
      rintro e u2 ⟨rfl, b2⟩
      go_wp2_with fail
      exact stepPost_mk _ rfl rfl b2
    · obtain ⟨(h10 : vals 10 = .bool true), (h15 : vals 15 = .bool true), _⟩ := hf
      simp only [h10, h15]
      clear h10 h15
      go_wp2_with fail
      exact stepPost_mk _ rfl rfl (Below.refl _ _)
    · obtain ⟨(h16 : vals 16 = .bool true), (h15 : vals 15 = .bool true), _⟩ := hf
      simp only [h16, h15]
      clear h16 h15
      go_wp2_with fail
      exact stepPost_mk _ rfl rfl (Below.refl _ _)
    · obtain ⟨(h17 : vals 17 = .bool true), _⟩ := hf
      simp only [h17]
      clear h17
      go_wp2_with fail
      exact stepPost_mk _ rfl rfl (Below.refl _ _)
    · obtain ⟨(h18 : vals 18 = .pointer (some ⟨g, 0, none⟩)), (h17 : vals 17 = .bool true), _⟩ := hf
      simp only [h18, h17]
      clear h18 h17
      go_wp2_with fail
      exact stepPost_mk _ rfl rfl (Below.refl _ _)
    · obtain ⟨(h19 : vals 19 = .pointer (some ⟨g, 0, none⟩)), (h17 : vals 17 = .bool true), _⟩ := hf
      simp only [h19, h17]
      clear h19 h17
      go_wp2_with fail
      exact stepPost_mk _ rfl rfl (Below.refl _ _)
    · obtain ⟨(h20 : vals 20 = .pointer (some ⟨g, 9, none⟩)), (h17 : vals 17 = .bool true), _⟩ := hf
      simp only [h20, h17]
      clear h20 h17
      go_wp2_with (first | (refine wpList_mid_wanted rfl 38 (.tmp 23) rfl g 9 rfl _ _ (range_of (HK.out.next hb) 9 _ RG.out) Tryz.underlying38 rfl (by kernel_rfl) ?_))
      exact stepPost_mk _ rfl rfl (Below.refl _ _)
    · obtain ⟨(h21 : vals 21 = .agg #[.int .i64 x, .int .i64 t, .int .i64 v', .int .i64 k, .int .i64 n]), (h17 : vals 17 = .bool true), _, _⟩ := hf
      simp only [h21, h17]
      clear h21 h17
      go_wp2_with fail
      refine (frame_any x t v' k n _ HN.out.1 HN.out.2).mono ?_
      rintro e u2 ⟨rfl, b2⟩
      go_wp2_with fail
      exact stepPost_mk _ rfl rfl b2
    · obtain ⟨(h22 : vals 22 = .int .i64 (n * 1365)), (h17 : vals 17 = .bool true), _⟩ := hf
      simp only [h22, h17]
      clear h22 h17
      go_wp2_with fail
      exact stepPost_mk _ rfl rfl (Below.refl _ _)
    · obtain ⟨(h17 : vals 17 = .bool true), _⟩ := hf
      simp only [h17]
      clear h17
      go_wp2_with fail
      exact stepPost_mk _ rfl rfl (Below.refl _ _)
    · obtain ⟨(h24 : vals 24 = .pointer (some ⟨g, 0, none⟩)), (h17 : vals 17 = .bool true), _⟩ := hf
      simp only [h24, h17]
      clear h24 h17
      go_wp2_with fail
      exact stepPost_mk _ rfl rfl (Below.refl _ _)
    · obtain ⟨(h25 : vals 25 = .pointer (some ⟨g, 0, none⟩)), (h17 : vals 17 = .bool true), _⟩ := hf
      simp only [h25, h17]
      clear h25 h17
      go_wp2_with fail
      exact stepPost_mk _ rfl rfl (Below.refl _ _)
    · obtain ⟨(h26 : vals 26 = .pointer (some ⟨g, 14, none⟩)), (h17 : vals 17 = .bool true), _⟩ := hf
      simp only [h26, h17]
      clear h26 h17
      have q := (HK.out.next hb).at 14 (y := .int .i64 tick) rfl
      go_wp2_with fail
      exact stepPost_mk _ rfl rfl (Below.refl _ _)
    · obtain ⟨(h27 : vals 27 = .int .i64 tick), (h17 : vals 17 = .bool true), _⟩ := hf
      simp only [h27, h17]
      clear h27 h17
      go_wp2_with fail
      exact stepPost_mk _ rfl ⟨_, rfl, (cell_of_row _ _ 0 _ _ _ (heap_alloc_new _ _)).trans rfl, by simp⟩ ((Below.refl _ _).alloc (Nat.le_refl _) _)
    · obtain ⟨(h23 : vals 23 = .int .i64 (n * 1365 - 1)), ⟨g28, (h28 : vals 28 = .slice (some ⟨g28, 0, none⟩) 1 1), c28, l28⟩, (h22 : vals 22 = .int .i64 (n * 1365)), (h17 : vals 17 = .bool true), _⟩ := hf
      simp only [h23, h28, h22, h17]
      clear h23 h28 h22 h17
      go_wp2_with fail
      refine (up_at (n * 1365 - 1) tick HC.out.2.2.1 g28 _ c28).mono ?_
      rintro e u2 ⟨rfl, b2⟩
      go_wp2_with fail
      exact stepPost_mk _ rfl rfl b2
    · obtain ⟨(h17 : vals 17 = .bool true), (h29 : vals 29 = .bool true), _⟩ := hf
      simp only [h17, h29]
      clear h17 h29
      go_wp2_with fail
      exact stepPost_mk _ rfl rfl (Below.refl _ _)
    · obtain ⟨(h30 : vals 30 = .bool true), (h29 : vals 29 = .bool true), _⟩ := hf
      simp only [h30, h29]
      clear h30 h29
      go_wp2_with fail
      exact stepPost_mk _ rfl rfl (Below.refl _ _)
    · obtain ⟨(h31 : vals 31 = .bool true), _⟩ := hf
      simp only [h31]
      clear h31
      go_wp2_with fail
      exact stepPost_mk _ rfl rfl (Below.refl _ _)
    · obtain ⟨(h32 : vals 32 = .pointer (some ⟨g, 0, none⟩)), (h31 : vals 31 = .bool true), _⟩ := hf
      simp only [h32, h31]
      clear h32 h31
      go_wp2_with fail
      exact stepPost_mk _ rfl rfl (Below.refl _ _)
    · obtain ⟨(h33 : vals 33 = .pointer (some ⟨g, 0, none⟩)), (h31 : vals 31 = .bool true), _⟩ := hf
      simp only [h33, h31]
      clear h33 h31
      go_wp2_with fail
      exact stepPost_mk _ rfl rfl (Below.refl _ _)
    · obtain ⟨(h34 : vals 34 = .pointer (some ⟨g, 15, none⟩)), (h31 : vals 31 = .bool true), _⟩ := hf
      simp only [h34, h31]
      clear h34 h31
      have q := (HK.out.next hb).at 15 (y := .int .i64 wait) rfl
      go_wp2_with fail
      exact stepPost_mk _ rfl rfl (Below.refl _ _)
    · obtain ⟨(h35 : vals 35 = .int .i64 wait), (h31 : vals 31 = .bool true), _⟩ := hf
      simp only [h35, h31]
      clear h35 h31
      go_wp2_with fail
      exact stepPost_mk _ rfl ⟨_, rfl, (cell_of_row _ _ 0 _ _ _ (heap_alloc_new _ _)).trans rfl, by simp⟩ ((Below.refl _ _).alloc (Nat.le_refl _) _)
    · obtain ⟨⟨g36, (h36 : vals 36 = .slice (some ⟨g36, 0, none⟩) 1 1), c36, l36⟩, (h31 : vals 31 = .bool true), _, _⟩ := hf
      simp only [h36, h31]
      clear h36 h31
      go_wp2_with fail
      refine (up_at 16777215 wait HC.out.2.2.2.1 g36 _ c36).mono ?_
      rintro e u2 ⟨rfl, b2⟩
      go_wp2_with fail
      exact stepPost_mk _ rfl rfl b2
    · obtain ⟨(h31 : vals 31 = .bool true), (h37 : vals 37 = .bool true), _⟩ := hf
      simp only [h31, h37]
      clear h31 h37
      go_wp2_with fail
      exact stepPost_mk _ rfl rfl (Below.refl _ _)
    · obtain ⟨(h38 : vals 38 = .bool true), (h37 : vals 37 = .bool true), _⟩ := hf
      simp only [h38, h37]
      clear h38 h37
      go_wp2_with fail
      exact stepPost_mk _ rfl rfl (Below.refl _ _)
    · obtain ⟨(h39 : vals 39 = .bool true), _⟩ := hf
      simp only [h39]
      clear h39
      go_wp2_with fail
      exact stepPost_mk _ rfl rfl (Below.refl _ _)
    · obtain ⟨(h40 : vals 40 = .pointer (some ⟨g, 0, none⟩)), (h39 : vals 39 = .bool true), _⟩ := hf
      simp only [h40, h39]
      clear h40 h39
      go_wp2_with fail
      exact stepPost_mk _ rfl rfl (Below.refl _ _)
    · obtain ⟨(h41 : vals 41 = .pointer (some ⟨g, 0, none⟩)), (h39 : vals 39 = .bool true), _⟩ := hf
      simp only [h41, h39]
      clear h41 h39
      go_wp2_with fail
      exact stepPost_mk _ rfl rfl (Below.refl _ _)
    · obtain ⟨(h42 : vals 42 = .pointer (some ⟨g, 16, none⟩)), (h39 : vals 39 = .bool true), _⟩ := hf
      simp only [h42, h39]
      clear h42 h39
      have q := (HK.out.next hb).at 16 (y := .int .i64 back) rfl
      go_wp2_with fail
      exact stepPost_mk _ rfl rfl (Below.refl _ _)
    · obtain ⟨(h43 : vals 43 = .int .i64 back), (h39 : vals 39 = .bool true), _⟩ := hf
      simp only [h43, h39]
      clear h43 h39
      go_wp2_with fail
      exact stepPost_mk _ rfl ⟨_, rfl, (cell_of_row _ _ 0 _ _ _ (heap_alloc_new _ _)).trans rfl, by simp⟩ ((Below.refl _ _).alloc (Nat.le_refl _) _)
    · obtain ⟨⟨g44, (h44 : vals 44 = .slice (some ⟨g44, 0, none⟩) 1 1), c44, l44⟩, (h39 : vals 39 = .bool true), _, _⟩ := hf
      simp only [h44, h39]
      clear h44 h39
      go_wp2_with fail
      refine (up_at 65535 back HC.out.2.2.2.2 g44 _ c44).mono ?_
      rintro e u2 ⟨rfl, b2⟩
      go_wp2_with fail
      exact stepPost_mk _ rfl rfl b2
    · obtain ⟨(h39 : vals 39 = .bool true), (h45 : vals 45 = .bool true), _⟩ := hf
      simp only [h39, h45]
      clear h39 h45
      go_wp2_with fail
      exact stepPost_mk _ rfl rfl (Below.refl _ _)
    · obtain ⟨(h46 : vals 46 = .bool true), (h45 : vals 45 = .bool true), _⟩ := hf
      simp only [h46, h45]
      clear h46 h45
      go_wp2_with fail
      exact stepPost_mk _ rfl rfl (Below.refl _ _)
    · obtain ⟨(h47 : vals 47 = .bool true), _⟩ := hf
      simp only [h47]
      clear h47
      go_wp2_with fail
      exact stepPost_mk _ rfl rfl (Below.refl _ _)
    · obtain ⟨(h48 : vals 48 = .pointer (some ⟨g, 0, none⟩)), (h47 : vals 47 = .bool true), _⟩ := hf
      simp only [h48, h47]
      clear h48 h47
      go_wp2_with fail
      exact stepPost_mk _ rfl rfl (Below.refl _ _)
    · obtain ⟨(h49 : vals 49 = .pointer (some ⟨g, 0, none⟩)), (h47 : vals 47 = .bool true), _⟩ := hf
      simp only [h49, h47]
      clear h49 h47
      go_wp2_with fail
      exact stepPost_mk _ rfl rfl (Below.refl _ _)
    · obtain ⟨(h50 : vals 50 = .pointer (some ⟨g, 8, none⟩)), (h47 : vals 47 = .bool true), _⟩ := hf
      simp only [h50, h47]
      clear h50 h47
      have q := (HK.out.next hb).at 8 (y := .pointer (some ⟨b, 0, none⟩)) rfl
      go_wp2_with fail
      exact stepPost_mk _ rfl rfl (Below.refl _ _)
    · obtain ⟨(h51 : vals 51 = .pointer (some ⟨b, 0, none⟩)), (h47 : vals 47 = .bool true), _, _⟩ := hf
      simp only [h51, h47]
      clear h51 h47
      go_wp2_with fail
      refine (isMachine_yes (H.out.next hb) HV.out).mono ?_
      rintro e u2 ⟨rfl, b2⟩
      go_wp2_with fail
      exact stepPost_mk _ rfl rfl b2
    · obtain ⟨(h47 : vals 47 = .bool true), (h52 : vals 52 = .bool true), _⟩ := hf
      simp only [h47, h52]
      clear h47 h52
      go_wp2_with fail
      exact stepPost_mk _ rfl rfl (Below.refl _ _)
    · obtain ⟨(h53 : vals 53 = .bool true), (h52 : vals 52 = .bool true), (h0 : vals 0 = .pointer (some ⟨g, 0, none⟩)), (h1 : vals 1 = .bool false), (h2 : vals 2 = .bool true), (h3 : vals 3 = .bool true), (h4 : vals 4 = .pointer (some ⟨g, 0, none⟩)), (h5 : vals 5 = .pointer (some ⟨g, 0, none⟩)), (h6 : vals 6 = .pointer (some ⟨g, 0, none⟩)), (h7 : vals 7 = .agg #[.int .i64 (R 0), .int .i64 (R 1), .int .i64 (R 2), .int .i64 (R 3), .int .i64 (R 4), .int .i64 (R 5), .bool f, .int .i64 l]), (h8 : vals 8 = .bool true), (h9 : vals 9 = .bool true), (h10 : vals 10 = .bool true), (h11 : vals 11 = .pointer (some ⟨g, 0, none⟩)), (h12 : vals 12 = .pointer (some ⟨g, 0, none⟩)), (h13 : vals 13 = .pointer (some ⟨g, 9, none⟩)), (h14 : vals 14 = .agg #[.int .i64 x, .int .i64 t, .int .i64 v', .int .i64 k, .int .i64 n]), (h15 : vals 15 = .bool true), (h16 : vals 16 = .bool true), (h17 : vals 17 = .bool true), (h18 : vals 18 = .pointer (some ⟨g, 0, none⟩)), (h19 : vals 19 = .pointer (some ⟨g, 0, none⟩)), (h20 : vals 20 = .pointer (some ⟨g, 9, none⟩)), (h21 : vals 21 = .agg #[.int .i64 x, .int .i64 t, .int .i64 v', .int .i64 k, .int .i64 n]), (h22 : vals 22 = .int .i64 (n * 1365)), (h23 : vals 23 = .int .i64 (n * 1365 - 1)), (h24 : vals 24 = .pointer (some ⟨g, 0, none⟩)), (h25 : vals 25 = .pointer (some ⟨g, 0, none⟩)), (h26 : vals 26 = .pointer (some ⟨g, 14, none⟩)), (h27 : vals 27 = .int .i64 tick), ⟨g28, (h28 : vals 28 = .slice (some ⟨g28, 0, none⟩) 1 1), c28, l28⟩, (h29 : vals 29 = .bool true), (h30 : vals 30 = .bool true), (h31 : vals 31 = .bool true), (h32 : vals 32 = .pointer (some ⟨g, 0, none⟩)), (h33 : vals 33 = .pointer (some ⟨g, 0, none⟩)), (h34 : vals 34 = .pointer (some ⟨g, 15, none⟩)), (h35 : vals 35 = .int .i64 wait), ⟨g36, (h36 : vals 36 = .slice (some ⟨g36, 0, none⟩) 1 1), c36, l36⟩, (h37 : vals 37 = .bool true), (h38 : vals 38 = .bool true), (h39 : vals 39 = .bool true), (h40 : vals 40 = .pointer (some ⟨g, 0, none⟩)), (h41 : vals 41 = .pointer (some ⟨g, 0, none⟩)), (h42 : vals 42 = .pointer (some ⟨g, 16, none⟩)), (h43 : vals 43 = .int .i64 back), ⟨g44, (h44 : vals 44 = .slice (some ⟨g44, 0, none⟩) 1 1), c44, l44⟩, (h45 : vals 45 = .bool true), (h46 : vals 46 = .bool true), (h47 : vals 47 = .bool true), (h48 : vals 48 = .pointer (some ⟨g, 0, none⟩)), (h49 : vals 49 = .pointer (some ⟨g, 0, none⟩)), (h50 : vals 50 = .pointer (some ⟨g, 8, none⟩)), (h51 : vals 51 = .pointer (some ⟨b, 0, none⟩)), _, _, _⟩ := hf
      simp only [h53, h52, h0, h1, h2, h3, h4, h5, h6, h7, h8, h9, h10, h11, h12, h13, h14, h15, h16, h17, h18, h19, h20, h21, h22, h23, h24, h25, h26, h27, h28, h29, h30, h31, h32, h33, h34, h35, h36, h37, h38, h39, h40, h41, h42, h43, h44, h45, h46, h47, h48, h49, h50, h51]
      clear h53 h52 h0 h1 h2 h3 h4 h5 h6 h7 h8 h9 h10 h11 h12 h13 h14 h15 h16 h17 h18 h19 h20 h21 h22 h23 h24 h25 h26 h27 h28 h29 h30 h31 h32 h33 h34 h35 h36 h37 h38 h39 h40 h41 h42 h43 h44 h45 h46 h47 h48 h49 h50 h51
      go_wp2_with fail
      exact stepPost_mk _ rfl rfl (Below.refl _ _)
  rintro vals wq hb hall
  obtain ⟨_, _, _, _, _, _, _, _, _, _, _, _, _, _, _, _, _, _, _, _, _, _, _, _, _, _, _, _, _, _, _, _, _, _, _, _, _, _, _, _, _, _, _, _, _, _, _, _, _, _, _, _, _, _, (h54 : vals 54 = .bool true), _⟩ := hall
  simp only [h54]
  clear h54
  go_wp2_with fail
  go_ret
  exact ⟨rfl, hb⟩
end Go.Proofs.YtnoggfnidaifkaaGreatDoor.L25
