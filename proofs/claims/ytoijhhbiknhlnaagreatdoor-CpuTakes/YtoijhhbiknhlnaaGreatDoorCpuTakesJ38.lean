/- The program's processor: the place that an instruction means. -/
import Derived.Test.YtoijhhbiknhlnaaGreatDoorCpuTakesJ37
namespace Go.Proofs.YtoijhhbiknhlnaaGreatDoor.L25
set_option maxRecDepth 20000
open B4 C3 G6 I11 J23 K9 L24 M5 N8 O7 P22 R15 T10 V12 W13
open Go.RowKit
set_option linter.unusedVariables false
theorem pointer_is (m x o : Int) (w : World) : Calls Tryz.prog 91 #[.int .i64 m, .int .i64 x, .int .i64 o] w fun e w' => e = Ending.returned (.tuple #[.int .i64 (ptrOf m x o), .bool (wrpOf m), .bool (hasPt m)]) ∧ Below w.heap.size w w' := by
  by_cases h6 : m = 6
  · subst h6; exact pointer_6 x o w
  by_cases h7 : m = 7
  · subst h7; exact pointer_7 x o w
  by_cases h8 : m = 8
  · subst h8; exact pointer_8 x o w
  by_cases h12 : m = 12
  · subst h12; exact pointer_12 x o w
  by_cases h13 : m = 13
  · subst h13; exact pointer_13 x o w
  have e1 : ptrOf m x o = 0 := by unfold ptrOf; rw [if_neg h6, if_neg (by omega), if_neg h12, if_neg h13]
  have e2 : wrpOf m = false := by unfold wrpOf; simp [h6, h7, h8]
  have e3 : hasPt m = false := by unfold hasPt; simp [h6, h7, h8, h12, h13]
  rw [e1, e2, e3]
  exact pointer_no m x o w h6 h7 h8 h12 h13
theorem address_is (m x y o p : Int) (w : World) : Calls Tryz.prog 92 #[.int .i64 m, .agg #[.int .i64 x, .int .i64 y], .int .i64 o, .int .i64 p] w fun e w' => e = Ending.returned (.tuple #[.int .i64 (adrOf m x y o p), .bool (hasAd m)]) ∧ Below w.heap.size w w' := by
  by_cases h3 : m = 3
  · subst h3; exact address_3 x y o p w
  by_cases h4 : m = 4
  · subst h4; exact address_4 x y o p w
  by_cases h5 : m = 5
  · subst h5; exact address_5 x y o p w
  by_cases h6 : m = 6
  · subst h6; exact address_6 x y o p w
  by_cases h7 : m = 7
  · subst h7; exact address_7 x y o p w
  by_cases h8 : m = 8
  · subst h8; exact address_8 x y o p w
  by_cases h9 : m = 9
  · subst h9; exact address_9 x y o p w
  by_cases h10 : m = 10
  · subst h10; exact address_10 x y o p w
  by_cases h11 : m = 11
  · subst h11; exact address_11 x y o p w
  by_cases h12 : m = 12
  · subst h12; exact address_12 x y o p w
  by_cases h13 : m = 13
  · subst h13; exact address_13 x y o p w
  by_cases h15 : m = 15
  · subst h15; exact address_15 x y o p w
  by_cases h17 : m = 17
  · subst h17; exact address_17 x y o p w
  by_cases h18 : m = 18
  · subst h18; exact address_18 x y o p w
  by_cases h19 : m = 19
  · subst h19; exact address_19 x y o p w
  by_cases h20 : m = 20
  · subst h20; exact address_20 x y o p w
  have e1 : adrOf m x y o p = 0 := by unfold adrOf; rw [if_neg (by omega), if_neg (by omega), if_neg h5, if_neg (by omega), if_neg (by omega), if_neg h11, if_neg (by omega), if_neg h7]
  have e2 : hasAd m = false := by unfold hasAd; simp [h3, h4, h5, h6, h7, h8, h9, h10, h11, h12, h13, h15, h17, h18, h19, h20]
  rw [e1, e2]
  exact address_no m x y o p w h3 h4 h5 h6 h7 h8 h9 h10 h11 h12 h13 h15 h17 h18 h19 h20
theorem after_is (m a : Int) (w : World) : Calls Tryz.prog 65 #[.int .i64 a, .bool (wrpOf m)] w fun e w' => e = Ending.returned (.int .i64 (aftOf m a)) ∧ Below w.heap.size w w' := by
  unfold aftOf
  cases wrpOf m with
  | true => exact after_yes a w
  | false => exact after_not a w
set_option maxHeartbeats 1000000 in
theorem find_no {w : World} {s b v c d : Nat} {bs : List Int} {nm : ByteArray} {I B : Nat → Int} {t : Bool} {Z : Nat → Nat → Int} (h : HasQ w s b v c d bs nm I B t Z) (hp : hasPt (I 0) = false) : Calls Tryz.prog 42 #[.pointer (some ⟨s, 0, none⟩)] w fun e w' => e = Ending.returned (.tuple #[]) ∧ HasQ w' s b v c d bs nm (up I 6 (adrOf (I 0) (Z 20 1) (Z 20 2) (I 3) 0)) B t Z ∧ OnlyE (EQ s b v) w w' := by
  have HE := hide h
  obtain ⟨A, hA⟩ : ∃ A, ptrOf (I 0) (Z 20 1) (I 3) = A := ⟨_, rfl⟩
  obtain ⟨W, hW⟩ : ∃ W, wrpOf (I 0) = W := ⟨_, rfl⟩
  have KP : Hid (∀ w, Calls Tryz.prog 91 #[.int .i64 (I 0), .int .i64 (Z 20 1), .int .i64 (I 3)] w fun e w' => e = Ending.returned (.tuple #[.int .i64 A, .bool W, .bool false]) ∧ Below w.heap.size w w') := hide (fun w => by rw [← hA, ← hW, ← hp]; exact pointer_is _ _ _ w)
  obtain ⟨V, hV⟩ : ∃ V, adrOf (I 0) (Z 20 1) (Z 20 2) (I 3) 0 = V := ⟨_, rfl⟩
  obtain ⟨U, hU⟩ : ∃ U, hasAd (I 0) = U := ⟨_, rfl⟩
  have KA : Hid (∀ w, Calls Tryz.prog 92 #[.int .i64 (I 0), .agg #[.int .i64 (Z 20 1), .int .i64 (Z 20 2)], .int .i64 (I 3), .int .i64 0] w fun e w' => e = Ending.returned (.tuple #[.int .i64 V, .bool U]) ∧ Below w.heap.size w w') := hide (fun w => by rw [← hV, ← hU]; exact address_is _ _ _ _ _ w)
  have HV := hide hV
  clear hA hW hV hU hp
  clear h
  go_enter Tryz.func42, Tryz.ntmps42
  go_wp2_with fail
  refine wp_region_state (ofList [.pointer (some ⟨s, 0, none⟩), .pointer (some ⟨s, 0, none⟩), .pointer (some ⟨s, 10, none⟩), .pointer (some ⟨s, 11, none⟩), .int .i64 (I 0), .pointer (some ⟨s, 0, none⟩), .pointer (some ⟨s, 0, none⟩), .pointer (some ⟨s, 0, none⟩), .pointer (some ⟨s, 0, none⟩), .pointer (some ⟨s, 1, none⟩), .int .i64 (Z 20 1), .pointer (some ⟨s, 0, none⟩), .pointer (some ⟨s, 0, none⟩), .pointer (some ⟨s, 20, none⟩), .int .i64 (I 3), .tuple #[.int .i64 A, .bool W, .bool false], .tuple #[.int .i64 A, .bool W, .bool false], .int .i64 A, .bool W, .bool false, .int .i64 A, .bool W, .bool false]) (fun dd ww => (stgs [QA w s b v c d bs nm I B t Z]) (cntD [] dd) ww) _ (fun vals => by simp only [putAll, Act.put, List.setIfInBounds_toArray, List.set_cons_succ, List.set_cons_zero, Nat.reduceAdd]; rfl) (by kernel_rfl) (by kernel_rfl) (by kernel_rfl) (fun dn hd => stage_none (A := (stgs [QA w s b v c d bs nm I B t Z])) hd (QA.mk HE.out)) ?_ ?_
  · refine stepsS_cons (fun vals dn x hi hc hk hs => ?_) (stepsS_cons (fun vals dn x hi hc hk hs => ?_) (stepsS_cons (fun vals dn x hi hc hk hs => ?_) (stepsS_cons (fun vals dn x hi hc hk hs => ?_) (stepsS_cons (fun vals dn x hi hc hk hs => ?_) (stepsS_cons (fun vals dn x hi hc hk hs => ?_) (stepsS_cons (fun vals dn x hi hc hk hs => ?_) (stepsS_cons (fun vals dn x hi hc hk hs => ?_) (stepsS_cons (fun vals dn x hi hc hk hs => ?_) (stepsS_cons (fun vals dn x hi hc hk hs => ?_) (stepsS_cons (fun vals dn x hi hc hk hs => ?_) (stepsS_cons (fun vals dn x hi hc hk hs => ?_) (stepsS_cons (fun vals dn x hi hc hk hs => ?_) (stepsS_cons (fun vals dn x hi hc hk hs => ?_) (stepsS_cons (fun vals dn x hi hc hk hs => ?_) (stepsS_cons (fun vals dn x hi hc hk hs => ?_) (stepsS_cons (fun vals dn x hi hc hk hs => ?_) (stepsS_cons (fun vals dn x hi hc hk hs => ?_) (stepsS_cons (fun vals dn x hi hc hk hs => ?_) (stepsS_cons (fun vals dn x hi hc hk hs => ?_) (stepsS_cons (fun vals dn x hi hc hk hs => ?_) (stepsS_cons (fun vals dn x hi hc hk hs => ?_) (stepsS_cons (fun vals dn x hi hc hk hs => ?_) stepsS_nil))))))))))))))))))))))
    · set_option maxRecDepth 20000 in
      go_wp2_with fail
      exact postS_mk _ rfl rfl (stage_keep (A := (stgs [QA w s b v c d bs nm I B t Z])) (ps := []) (i := 0) rfl hs)
    · obtain ⟨⟨(h0 : vals 0 = .pointer (some ⟨s, 0, none⟩)), t0⟩, _⟩ := hk
      simp only [h0]
      clear h0
      go_wp2_with fail
      exact postS_mk _ rfl rfl (stage_keep (A := (stgs [QA w s b v c d bs nm I B t Z])) (ps := []) (i := 1) rfl hs)
    · obtain ⟨⟨(h1 : vals 1 = .pointer (some ⟨s, 0, none⟩)), t1⟩, _⟩ := hk
      simp only [h1]
      clear h1
      go_wp2_with fail
      exact postS_mk _ rfl rfl (stage_keep (A := (stgs [QA w s b v c d bs nm I B t Z])) (ps := []) (i := 2) rfl hs)
    · obtain ⟨⟨(h2 : vals 2 = .pointer (some ⟨s, 10, none⟩)), t2⟩, _⟩ := hk
      simp only [h2]
      clear h2
      go_wp2_with fail
      exact postS_mk _ rfl rfl (stage_keep (A := (stgs [QA w s b v c d bs nm I B t Z])) (ps := []) (i := 3) rfl hs)
    · obtain ⟨⟨(h3 : vals 3 = .pointer (some ⟨s, 11, none⟩)), t3⟩, _⟩ := hk
      simp only [h3]
      clear h3
      have hs1 := hs
      have q := (show QA w s b v c d bs nm I B t Z x from hs1).1.mode
      go_wp2_with fail
      exact postS_mk _ rfl rfl (stage_keep (A := (stgs [QA w s b v c d bs nm I B t Z])) (ps := []) (i := 4) rfl hs)
    · set_option maxRecDepth 20000 in
      go_wp2_with fail
      exact postS_mk _ rfl rfl (stage_keep (A := (stgs [QA w s b v c d bs nm I B t Z])) (ps := []) (i := 5) rfl hs)
    · obtain ⟨⟨(h5 : vals 5 = .pointer (some ⟨s, 0, none⟩)), t5⟩, _⟩ := hk
      simp only [h5]
      clear h5
      go_wp2_with fail
      exact postS_mk _ rfl rfl (stage_keep (A := (stgs [QA w s b v c d bs nm I B t Z])) (ps := []) (i := 6) rfl hs)
    · obtain ⟨⟨(h6 : vals 6 = .pointer (some ⟨s, 0, none⟩)), t6⟩, _⟩ := hk
      simp only [h6]
      clear h6
      go_wp2_with fail
      exact postS_mk _ rfl rfl (stage_keep (A := (stgs [QA w s b v c d bs nm I B t Z])) (ps := []) (i := 7) rfl hs)
    · obtain ⟨⟨(h7 : vals 7 = .pointer (some ⟨s, 0, none⟩)), t7⟩, _⟩ := hk
      simp only [h7]
      clear h7
      go_wp2_with fail
      exact postS_mk _ rfl rfl (stage_keep (A := (stgs [QA w s b v c d bs nm I B t Z])) (ps := []) (i := 8) rfl hs)
    · obtain ⟨⟨(h8 : vals 8 = .pointer (some ⟨s, 0, none⟩)), t8⟩, _⟩ := hk
      simp only [h8]
      clear h8
      go_wp2_with fail
      exact postS_mk _ rfl rfl (stage_keep (A := (stgs [QA w s b v c d bs nm I B t Z])) (ps := []) (i := 9) rfl hs)
    · obtain ⟨⟨(h9 : vals 9 = .pointer (some ⟨s, 1, none⟩)), t9⟩, _⟩ := hk
      simp only [h9]
      clear h9
      have hs1 := hs
      have q := (show QA w s b v c d bs nm I B t Z x from hs1).1.reg 1 (by decide)
      go_wp2_with fail
      exact postS_mk _ rfl rfl (stage_keep (A := (stgs [QA w s b v c d bs nm I B t Z])) (ps := []) (i := 10) rfl hs)
    · set_option maxRecDepth 20000 in
      go_wp2_with fail
      exact postS_mk _ rfl rfl (stage_keep (A := (stgs [QA w s b v c d bs nm I B t Z])) (ps := []) (i := 11) rfl hs)
    · obtain ⟨⟨(h11 : vals 11 = .pointer (some ⟨s, 0, none⟩)), t11⟩, _⟩ := hk
      simp only [h11]
      clear h11
      go_wp2_with fail
      exact postS_mk _ rfl rfl (stage_keep (A := (stgs [QA w s b v c d bs nm I B t Z])) (ps := []) (i := 12) rfl hs)
    · obtain ⟨⟨(h12 : vals 12 = .pointer (some ⟨s, 0, none⟩)), t12⟩, _⟩ := hk
      simp only [h12]
      clear h12
      go_wp2_with fail
      exact postS_mk _ rfl rfl (stage_keep (A := (stgs [QA w s b v c d bs nm I B t Z])) (ps := []) (i := 13) rfl hs)
    · obtain ⟨⟨(h13 : vals 13 = .pointer (some ⟨s, 20, none⟩)), t13⟩, _⟩ := hk
      simp only [h13]
      clear h13
      have hs1 := hs
      have q := (show QA w s b v c d bs nm I B t Z x from hs1).1.oper
      go_wp2_with fail
      exact postS_mk _ rfl rfl (stage_keep (A := (stgs [QA w s b v c d bs nm I B t Z])) (ps := []) (i := 14) rfl hs)
    · obtain ⟨⟨(h4 : vals 4 = .int .i64 (I 0)), t4⟩, ⟨(h10 : vals 10 = .int .i64 (Z 20 1)), t10⟩, ⟨(h14 : vals 14 = .int .i64 (I 3)), t14⟩, _⟩ := hk
      simp only [h4, h10, h14]
      clear h4 h10 h14
      have hs1 := hs
      have HS := hide hs
      have HS1 := hide hs1
      clear hs hs1
      go_wp2_with fail
      refine (KP.out _).mono ?_
      rintro e x2 ⟨rfl, b2⟩
      have H2 := hide (stgs_next (stab1 QA.stab) HS.out b2)
      clear b2 HS HS1
      go_wp2_with fail
      exact postS_mk _ rfl rfl (stage_keep (A := (stgs [QA w s b v c d bs nm I B t Z])) (ps := []) (i := 15) rfl H2.out)
    · obtain ⟨⟨(h15 : vals 15 = .tuple #[.int .i64 A, .bool W, .bool false]), t15⟩, _⟩ := hk
      simp only [h15]
      clear h15
      go_wp2_with fail
      exact postS_mk _ rfl rfl (stage_keep (A := (stgs [QA w s b v c d bs nm I B t Z])) (ps := []) (i := 16) rfl hs)
    · obtain ⟨⟨(h16 : vals 16 = .tuple #[.int .i64 A, .bool W, .bool false]), t16⟩, _⟩ := hk
      simp only [h16]
      clear h16
      go_wp2_with fail
      exact postS_mk _ rfl rfl (stage_keep (A := (stgs [QA w s b v c d bs nm I B t Z])) (ps := []) (i := 17) rfl hs)
    · obtain ⟨⟨(h16 : vals 16 = .tuple #[.int .i64 A, .bool W, .bool false]), t16⟩, _, _⟩ := hk
      simp only [h16]
      clear h16
      go_wp2_with fail
      exact postS_mk _ rfl rfl (stage_keep (A := (stgs [QA w s b v c d bs nm I B t Z])) (ps := []) (i := 18) rfl hs)
    · obtain ⟨⟨(h16 : vals 16 = .tuple #[.int .i64 A, .bool W, .bool false]), t16⟩, _, _⟩ := hk
      simp only [h16]
      clear h16
      go_wp2_with fail
      exact postS_mk _ rfl rfl (stage_keep (A := (stgs [QA w s b v c d bs nm I B t Z])) (ps := []) (i := 19) rfl hs)
    · obtain ⟨⟨(h17 : vals 17 = .int .i64 A), t17⟩, ⟨(h15 : vals 15 = .tuple #[.int .i64 A, .bool W, .bool false]), t15⟩, ⟨(h0 : vals 0 = .pointer (some ⟨s, 0, none⟩)), t0⟩, ⟨(h1 : vals 1 = .pointer (some ⟨s, 0, none⟩)), t1⟩, ⟨(h2 : vals 2 = .pointer (some ⟨s, 10, none⟩)), t2⟩, ⟨(h3 : vals 3 = .pointer (some ⟨s, 11, none⟩)), t3⟩, ⟨(h4 : vals 4 = .int .i64 (I 0)), t4⟩, ⟨(h5 : vals 5 = .pointer (some ⟨s, 0, none⟩)), t5⟩, ⟨(h6 : vals 6 = .pointer (some ⟨s, 0, none⟩)), t6⟩, ⟨(h7 : vals 7 = .pointer (some ⟨s, 0, none⟩)), t7⟩, ⟨(h8 : vals 8 = .pointer (some ⟨s, 0, none⟩)), t8⟩, ⟨(h9 : vals 9 = .pointer (some ⟨s, 1, none⟩)), t9⟩, ⟨(h10 : vals 10 = .int .i64 (Z 20 1)), t10⟩, ⟨(h11 : vals 11 = .pointer (some ⟨s, 0, none⟩)), t11⟩, ⟨(h12 : vals 12 = .pointer (some ⟨s, 0, none⟩)), t12⟩, ⟨(h13 : vals 13 = .pointer (some ⟨s, 20, none⟩)), t13⟩, ⟨(h14 : vals 14 = .int .i64 (I 3)), t14⟩, _, ⟨(h16 : vals 16 = .tuple #[.int .i64 A, .bool W, .bool false]), t16⟩, _, _, _, _⟩ := hk
      simp only [h17]
      clear h17 h15 h0 h1 h2 h3 h4 h5 h6 h7 h8 h9 h10 h11 h12 h13 h14 h16
      go_wp2_with fail
      exact postS_mk _ rfl rfl (stage_keep (A := (stgs [QA w s b v c d bs nm I B t Z])) (ps := []) (i := 20) rfl hs)
    · obtain ⟨⟨(h18 : vals 18 = .bool W), t18⟩, ⟨(h20 : vals 20 = .int .i64 A), t20⟩, ⟨(h0 : vals 0 = .pointer (some ⟨s, 0, none⟩)), t0⟩, ⟨(h1 : vals 1 = .pointer (some ⟨s, 0, none⟩)), t1⟩, ⟨(h2 : vals 2 = .pointer (some ⟨s, 10, none⟩)), t2⟩, ⟨(h3 : vals 3 = .pointer (some ⟨s, 11, none⟩)), t3⟩, ⟨(h4 : vals 4 = .int .i64 (I 0)), t4⟩, ⟨(h5 : vals 5 = .pointer (some ⟨s, 0, none⟩)), t5⟩, ⟨(h6 : vals 6 = .pointer (some ⟨s, 0, none⟩)), t6⟩, ⟨(h7 : vals 7 = .pointer (some ⟨s, 0, none⟩)), t7⟩, ⟨(h8 : vals 8 = .pointer (some ⟨s, 0, none⟩)), t8⟩, ⟨(h9 : vals 9 = .pointer (some ⟨s, 1, none⟩)), t9⟩, ⟨(h10 : vals 10 = .int .i64 (Z 20 1)), t10⟩, ⟨(h11 : vals 11 = .pointer (some ⟨s, 0, none⟩)), t11⟩, ⟨(h12 : vals 12 = .pointer (some ⟨s, 0, none⟩)), t12⟩, ⟨(h13 : vals 13 = .pointer (some ⟨s, 20, none⟩)), t13⟩, ⟨(h14 : vals 14 = .int .i64 (I 3)), t14⟩, ⟨(h15 : vals 15 = .tuple #[.int .i64 A, .bool W, .bool false]), t15⟩, ⟨(h16 : vals 16 = .tuple #[.int .i64 A, .bool W, .bool false]), t16⟩, ⟨(h17 : vals 17 = .int .i64 A), t17⟩, _, _, _, _⟩ := hk
      simp only [h18]
      clear h18 h20 h0 h1 h2 h3 h4 h5 h6 h7 h8 h9 h10 h11 h12 h13 h14 h15 h16 h17
      go_wp2_with fail
      exact postS_mk _ rfl rfl (stage_keep (A := (stgs [QA w s b v c d bs nm I B t Z])) (ps := []) (i := 21) rfl hs)
    · obtain ⟨⟨(h19 : vals 19 = .bool false), t19⟩, ⟨(h21 : vals 21 = .bool W), t21⟩, ⟨(h0 : vals 0 = .pointer (some ⟨s, 0, none⟩)), t0⟩, ⟨(h1 : vals 1 = .pointer (some ⟨s, 0, none⟩)), t1⟩, ⟨(h2 : vals 2 = .pointer (some ⟨s, 10, none⟩)), t2⟩, ⟨(h3 : vals 3 = .pointer (some ⟨s, 11, none⟩)), t3⟩, ⟨(h4 : vals 4 = .int .i64 (I 0)), t4⟩, ⟨(h5 : vals 5 = .pointer (some ⟨s, 0, none⟩)), t5⟩, ⟨(h6 : vals 6 = .pointer (some ⟨s, 0, none⟩)), t6⟩, ⟨(h7 : vals 7 = .pointer (some ⟨s, 0, none⟩)), t7⟩, ⟨(h8 : vals 8 = .pointer (some ⟨s, 0, none⟩)), t8⟩, ⟨(h9 : vals 9 = .pointer (some ⟨s, 1, none⟩)), t9⟩, ⟨(h10 : vals 10 = .int .i64 (Z 20 1)), t10⟩, ⟨(h11 : vals 11 = .pointer (some ⟨s, 0, none⟩)), t11⟩, ⟨(h12 : vals 12 = .pointer (some ⟨s, 0, none⟩)), t12⟩, ⟨(h13 : vals 13 = .pointer (some ⟨s, 20, none⟩)), t13⟩, ⟨(h14 : vals 14 = .int .i64 (I 3)), t14⟩, ⟨(h15 : vals 15 = .tuple #[.int .i64 A, .bool W, .bool false]), t15⟩, ⟨(h16 : vals 16 = .tuple #[.int .i64 A, .bool W, .bool false]), t16⟩, ⟨(h17 : vals 17 = .int .i64 A), t17⟩, ⟨(h18 : vals 18 = .bool W), t18⟩, _, ⟨(h20 : vals 20 = .int .i64 A), t20⟩, _, _⟩ := hk
      simp only [h19]
      clear h19 h21 h0 h1 h2 h3 h4 h5 h6 h7 h8 h9 h10 h11 h12 h13 h14 h15 h16 h17 h18 h20
      go_wp2_with fail
      exact postS_mk _ rfl rfl (stage_keep (A := (stgs [QA w s b v c d bs nm I B t Z])) (ps := []) (i := 22) rfl hs)
  rintro vals dn x hall hs hv
  obtain ⟨_, _, _, _, _, _, _, _, _, _, _, _, _, _, _, _, _, _, _, _, (h20 : vals 20 = .int .i64 A), (h21 : vals 21 = .bool W), (h22 : vals 22 = .bool false), _⟩ := hv
  simp only [h20, h21, h22]
  clear h20 h21 h22
  obtain ⟨h1, o1⟩ : QA w s b v c d bs nm I B t Z x := hs
  have H1 := hide h1
  have O1 := hide o1
  clear h1 o1 hall HE KP
  go_wp2_with fail
  refine under_name fun w3 hw3 => ?_
  have H3 : Hid (HasQ w3 s b v c d bs nm I B t Z) := hide (by rw [hw3]; exact H1.out)
  have O3 : Hid (OnlyE (EQ s b v) w w3) := hide (by rw [hw3]; exact O1.out)
  clear hw3 H1 O1
  refine wp_region_state (ofList [.pointer (some ⟨s, 0, none⟩), .pointer (some ⟨s, 0, none⟩), .pointer (some ⟨s, 0, none⟩), .pointer (some ⟨s, 10, none⟩), .pointer (some ⟨s, 11, none⟩), .int .i64 (I 0), .pointer (some ⟨s, 0, none⟩), .pointer (some ⟨s, 0, none⟩), .pointer (some ⟨s, 0, none⟩), .pointer (some ⟨s, 0, none⟩), .pointer (some ⟨s, 1, none⟩), .int .i64 (Z 20 1), .pointer (some ⟨s, 0, none⟩), .pointer (some ⟨s, 0, none⟩), .pointer (some ⟨s, 0, none⟩), .pointer (some ⟨s, 0, none⟩), .pointer (some ⟨s, 2, none⟩), .int .i64 (Z 20 2), .agg #[.int .i64 (Z 20 1), .int .i64 (Z 20 2)], .pointer (some ⟨s, 0, none⟩), .pointer (some ⟨s, 0, none⟩), .pointer (some ⟨s, 20, none⟩), .int .i64 (I 3), .int .i64 0, .tuple #[.int .i64 V, .bool U], .tuple #[.int .i64 V, .bool U], .int .i64 V, .bool U, .pointer (some ⟨s, 0, none⟩), .pointer (some ⟨s, 23, none⟩), undef]) (fun dd ww => (stgs [QA w3 s b v c d bs nm I B t Z, QA w3 s b v c d bs nm (up I 6 V) B t Z]) (cntD [30] dd) ww) _ (fun vals => by simp only [putAll, Act.put, List.setIfInBounds_toArray, List.set_cons_succ, List.set_cons_zero, Nat.reduceAdd]; rfl) (by kernel_rfl) (by kernel_rfl) (by kernel_rfl) (fun dn hd => stage_none (A := (stgs [QA w3 s b v c d bs nm I B t Z, QA w3 s b v c d bs nm (up I 6 V) B t Z])) hd (QA.mk H3.out)) ?_ ?_
  · refine stepsS_cons (fun vals dn x hi hc hk hs => ?_) (stepsS_cons (fun vals dn x hi hc hk hs => ?_) (stepsS_cons (fun vals dn x hi hc hk hs => ?_) (stepsS_cons (fun vals dn x hi hc hk hs => ?_) (stepsS_cons (fun vals dn x hi hc hk hs => ?_) (stepsS_cons (fun vals dn x hi hc hk hs => ?_) (stepsS_cons (fun vals dn x hi hc hk hs => ?_) (stepsS_cons (fun vals dn x hi hc hk hs => ?_) (stepsS_cons (fun vals dn x hi hc hk hs => ?_) (stepsS_cons (fun vals dn x hi hc hk hs => ?_) (stepsS_cons (fun vals dn x hi hc hk hs => ?_) (stepsS_cons (fun vals dn x hi hc hk hs => ?_) (stepsS_cons (fun vals dn x hi hc hk hs => ?_) (stepsS_cons (fun vals dn x hi hc hk hs => ?_) (stepsS_cons (fun vals dn x hi hc hk hs => ?_) (stepsS_cons (fun vals dn x hi hc hk hs => ?_) (stepsS_cons (fun vals dn x hi hc hk hs => ?_) (stepsS_cons (fun vals dn x hi hc hk hs => ?_) (stepsS_cons (fun vals dn x hi hc hk hs => ?_) (stepsS_cons (fun vals dn x hi hc hk hs => ?_) (stepsS_cons (fun vals dn x hi hc hk hs => ?_) (stepsS_cons (fun vals dn x hi hc hk hs => ?_) (stepsS_cons (fun vals dn x hi hc hk hs => ?_) (stepsS_cons (fun vals dn x hi hc hk hs => ?_) (stepsS_cons (fun vals dn x hi hc hk hs => ?_) (stepsS_cons (fun vals dn x hi hc hk hs => ?_) (stepsS_cons (fun vals dn x hi hc hk hs => ?_) (stepsS_cons (fun vals dn x hi hc hk hs => ?_) (stepsS_cons (fun vals dn x hi hc hk hs => ?_) (stepsS_cons (fun vals dn x hi hc hk hs => ?_) (stepsS_cons (fun vals dn x hi hc hk hs => ?_) stepsS_nil))))))))))))))))))))))))))))))
    · set_option maxRecDepth 20000 in
      go_wp2_with fail
      exact postS_mk _ rfl rfl (stage_keep (A := (stgs [QA w3 s b v c d bs nm I B t Z, QA w3 s b v c d bs nm (up I 6 V) B t Z])) (ps := [30]) (i := 0) rfl hs)
    · set_option maxRecDepth 20000 in
      go_wp2_with fail
      exact postS_mk _ rfl rfl (stage_keep (A := (stgs [QA w3 s b v c d bs nm I B t Z, QA w3 s b v c d bs nm (up I 6 V) B t Z])) (ps := [30]) (i := 1) rfl hs)
    · obtain ⟨⟨(h1 : vals 1 = .pointer (some ⟨s, 0, none⟩)), t1⟩, _⟩ := hk
      simp only [h1]
      clear h1
      go_wp2_with fail
      exact postS_mk _ rfl rfl (stage_keep (A := (stgs [QA w3 s b v c d bs nm I B t Z, QA w3 s b v c d bs nm (up I 6 V) B t Z])) (ps := [30]) (i := 2) rfl hs)
    · obtain ⟨⟨(h2 : vals 2 = .pointer (some ⟨s, 0, none⟩)), t2⟩, _⟩ := hk
      simp only [h2]
      clear h2
      go_wp2_with fail
      exact postS_mk _ rfl rfl (stage_keep (A := (stgs [QA w3 s b v c d bs nm I B t Z, QA w3 s b v c d bs nm (up I 6 V) B t Z])) (ps := [30]) (i := 3) rfl hs)
    · obtain ⟨⟨(h3 : vals 3 = .pointer (some ⟨s, 10, none⟩)), t3⟩, _⟩ := hk
      simp only [h3]
      clear h3
      go_wp2_with fail
      exact postS_mk _ rfl rfl (stage_keep (A := (stgs [QA w3 s b v c d bs nm I B t Z, QA w3 s b v c d bs nm (up I 6 V) B t Z])) (ps := [30]) (i := 4) rfl hs)
    · obtain ⟨⟨(h4 : vals 4 = .pointer (some ⟨s, 11, none⟩)), t4⟩, _⟩ := hk
      simp only [h4]
      clear h4
      have d30 := not_yet hc hi 30 60 (by kernel_rfl)
      have hn : cntD [30] dn = 0 := by show (if dn 30 = true then 1 else 0) + 0 = 0; rw [d30]; rfl
      have hs1 := stage_at (A := (stgs [QA w3 s b v c d bs nm I B t Z, QA w3 s b v c d bs nm (up I 6 V) B t Z])) hn hs
      have q := (show QA w3 s b v c d bs nm I B t Z x from hs1).1.mode
      go_wp2_with fail
      exact postS_mk _ rfl rfl (stage_keep (A := (stgs [QA w3 s b v c d bs nm I B t Z, QA w3 s b v c d bs nm (up I 6 V) B t Z])) (ps := [30]) (i := 5) rfl hs)
    · set_option maxRecDepth 20000 in
      go_wp2_with fail
      exact postS_mk _ rfl rfl (stage_keep (A := (stgs [QA w3 s b v c d bs nm I B t Z, QA w3 s b v c d bs nm (up I 6 V) B t Z])) (ps := [30]) (i := 6) rfl hs)
    · obtain ⟨⟨(h6 : vals 6 = .pointer (some ⟨s, 0, none⟩)), t6⟩, _⟩ := hk
      simp only [h6]
      clear h6
      go_wp2_with fail
      exact postS_mk _ rfl rfl (stage_keep (A := (stgs [QA w3 s b v c d bs nm I B t Z, QA w3 s b v c d bs nm (up I 6 V) B t Z])) (ps := [30]) (i := 7) rfl hs)
    · obtain ⟨⟨(h7 : vals 7 = .pointer (some ⟨s, 0, none⟩)), t7⟩, _⟩ := hk
      simp only [h7]
      clear h7
      go_wp2_with fail
      exact postS_mk _ rfl rfl (stage_keep (A := (stgs [QA w3 s b v c d bs nm I B t Z, QA w3 s b v c d bs nm (up I 6 V) B t Z])) (ps := [30]) (i := 8) rfl hs)
    · obtain ⟨⟨(h8 : vals 8 = .pointer (some ⟨s, 0, none⟩)), t8⟩, _⟩ := hk
      simp only [h8]
      clear h8
      go_wp2_with fail
      exact postS_mk _ rfl rfl (stage_keep (A := (stgs [QA w3 s b v c d bs nm I B t Z, QA w3 s b v c d bs nm (up I 6 V) B t Z])) (ps := [30]) (i := 9) rfl hs)
    · obtain ⟨⟨(h9 : vals 9 = .pointer (some ⟨s, 0, none⟩)), t9⟩, _⟩ := hk
      simp only [h9]
      clear h9
      go_wp2_with fail
      exact postS_mk _ rfl rfl (stage_keep (A := (stgs [QA w3 s b v c d bs nm I B t Z, QA w3 s b v c d bs nm (up I 6 V) B t Z])) (ps := [30]) (i := 10) rfl hs)
    · obtain ⟨⟨(h10 : vals 10 = .pointer (some ⟨s, 1, none⟩)), t10⟩, _⟩ := hk
      simp only [h10]
      clear h10
      have d30 := not_yet hc hi 30 60 (by kernel_rfl)
      have hn : cntD [30] dn = 0 := by show (if dn 30 = true then 1 else 0) + 0 = 0; rw [d30]; rfl
      have hs1 := stage_at (A := (stgs [QA w3 s b v c d bs nm I B t Z, QA w3 s b v c d bs nm (up I 6 V) B t Z])) hn hs
      have q := ((show QA w3 s b v c d bs nm I B t Z x from hs1).1.reg 1 (by decide)).trans rfl
      go_wp2_with fail
      exact postS_mk _ rfl rfl (stage_keep (A := (stgs [QA w3 s b v c d bs nm I B t Z, QA w3 s b v c d bs nm (up I 6 V) B t Z])) (ps := [30]) (i := 11) rfl hs)
    · set_option maxRecDepth 20000 in
      go_wp2_with fail
      exact postS_mk _ rfl rfl (stage_keep (A := (stgs [QA w3 s b v c d bs nm I B t Z, QA w3 s b v c d bs nm (up I 6 V) B t Z])) (ps := [30]) (i := 12) rfl hs)
    · obtain ⟨⟨(h12 : vals 12 = .pointer (some ⟨s, 0, none⟩)), t12⟩, _⟩ := hk
      simp only [h12]
      clear h12
      go_wp2_with fail
      exact postS_mk _ rfl rfl (stage_keep (A := (stgs [QA w3 s b v c d bs nm I B t Z, QA w3 s b v c d bs nm (up I 6 V) B t Z])) (ps := [30]) (i := 13) rfl hs)
    · obtain ⟨⟨(h13 : vals 13 = .pointer (some ⟨s, 0, none⟩)), t13⟩, _⟩ := hk
      simp only [h13]
      clear h13
      go_wp2_with fail
      exact postS_mk _ rfl rfl (stage_keep (A := (stgs [QA w3 s b v c d bs nm I B t Z, QA w3 s b v c d bs nm (up I 6 V) B t Z])) (ps := [30]) (i := 14) rfl hs)
    · obtain ⟨⟨(h14 : vals 14 = .pointer (some ⟨s, 0, none⟩)), t14⟩, _⟩ := hk
      simp only [h14]
      clear h14
      go_wp2_with fail
      exact postS_mk _ rfl rfl (stage_keep (A := (stgs [QA w3 s b v c d bs nm I B t Z, QA w3 s b v c d bs nm (up I 6 V) B t Z])) (ps := [30]) (i := 15) rfl hs)
    · obtain ⟨⟨(h15 : vals 15 = .pointer (some ⟨s, 0, none⟩)), t15⟩, _⟩ := hk
      simp only [h15]
      clear h15
      go_wp2_with fail
      exact postS_mk _ rfl rfl (stage_keep (A := (stgs [QA w3 s b v c d bs nm I B t Z, QA w3 s b v c d bs nm (up I 6 V) B t Z])) (ps := [30]) (i := 16) rfl hs)
    · obtain ⟨⟨(h16 : vals 16 = .pointer (some ⟨s, 2, none⟩)), t16⟩, _⟩ := hk
      simp only [h16]
      clear h16
      have d30 := not_yet hc hi 30 60 (by kernel_rfl)
      have hn : cntD [30] dn = 0 := by show (if dn 30 = true then 1 else 0) + 0 = 0; rw [d30]; rfl
      have hs1 := stage_at (A := (stgs [QA w3 s b v c d bs nm I B t Z, QA w3 s b v c d bs nm (up I 6 V) B t Z])) hn hs
      have q := ((show QA w3 s b v c d bs nm I B t Z x from hs1).1.reg 2 (by decide)).trans rfl
      go_wp2_with fail
      exact postS_mk _ rfl rfl (stage_keep (A := (stgs [QA w3 s b v c d bs nm I B t Z, QA w3 s b v c d bs nm (up I 6 V) B t Z])) (ps := [30]) (i := 17) rfl hs)
    · obtain ⟨⟨(h11 : vals 11 = .int .i64 (Z 20 1)), t11⟩, ⟨(h17 : vals 17 = .int .i64 (Z 20 2)), t17⟩, _⟩ := hk
      simp only [h11, h17]
      clear h11 h17
      go_wp2_with fail
      exact postS_mk _ rfl rfl (stage_keep (A := (stgs [QA w3 s b v c d bs nm I B t Z, QA w3 s b v c d bs nm (up I 6 V) B t Z])) (ps := [30]) (i := 18) rfl hs)
    · set_option maxRecDepth 20000 in
      go_wp2_with fail
      exact postS_mk _ rfl rfl (stage_keep (A := (stgs [QA w3 s b v c d bs nm I B t Z, QA w3 s b v c d bs nm (up I 6 V) B t Z])) (ps := [30]) (i := 19) rfl hs)
    · obtain ⟨⟨(h19 : vals 19 = .pointer (some ⟨s, 0, none⟩)), t19⟩, _⟩ := hk
      simp only [h19]
      clear h19
      go_wp2_with fail
      exact postS_mk _ rfl rfl (stage_keep (A := (stgs [QA w3 s b v c d bs nm I B t Z, QA w3 s b v c d bs nm (up I 6 V) B t Z])) (ps := [30]) (i := 20) rfl hs)
    · obtain ⟨⟨(h20 : vals 20 = .pointer (some ⟨s, 0, none⟩)), t20⟩, _⟩ := hk
      simp only [h20]
      clear h20
      go_wp2_with fail
      exact postS_mk _ rfl rfl (stage_keep (A := (stgs [QA w3 s b v c d bs nm I B t Z, QA w3 s b v c d bs nm (up I 6 V) B t Z])) (ps := [30]) (i := 21) rfl hs)
    · obtain ⟨⟨(h21 : vals 21 = .pointer (some ⟨s, 20, none⟩)), t21⟩, _⟩ := hk
      simp only [h21]
      clear h21
      have d30 := not_yet hc hi 30 60 (by kernel_rfl)
      have hn : cntD [30] dn = 0 := by show (if dn 30 = true then 1 else 0) + 0 = 0; rw [d30]; rfl
      have hs1 := stage_at (A := (stgs [QA w3 s b v c d bs nm I B t Z, QA w3 s b v c d bs nm (up I 6 V) B t Z])) hn hs
      have q := (show QA w3 s b v c d bs nm I B t Z x from hs1).1.oper
      go_wp2_with fail
      exact postS_mk _ rfl rfl (stage_keep (A := (stgs [QA w3 s b v c d bs nm I B t Z, QA w3 s b v c d bs nm (up I 6 V) B t Z])) (ps := [30]) (i := 22) rfl hs)
    · set_option maxRecDepth 20000 in
      go_wp2_with fail
      exact postS_mk _ rfl rfl (stage_keep (A := (stgs [QA w3 s b v c d bs nm I B t Z, QA w3 s b v c d bs nm (up I 6 V) B t Z])) (ps := [30]) (i := 23) rfl hs)
    · obtain ⟨⟨(h5 : vals 5 = .int .i64 (I 0)), t5⟩, ⟨(h18 : vals 18 = .agg #[.int .i64 (Z 20 1), .int .i64 (Z 20 2)]), t18⟩, ⟨(h22 : vals 22 = .int .i64 (I 3)), t22⟩, ⟨(h23 : vals 23 = .int .i64 0), t23⟩, _⟩ := hk
      simp only [h5, h18, h22, h23]
      clear h5 h18 h22 h23
      have d30 := not_yet hc hi 30 60 (by kernel_rfl)
      have hn : cntD [30] dn = 0 := by show (if dn 30 = true then 1 else 0) + 0 = 0; rw [d30]; rfl
      have hs1 := stage_at (A := (stgs [QA w3 s b v c d bs nm I B t Z, QA w3 s b v c d bs nm (up I 6 V) B t Z])) hn hs
      have HS := hide hs
      have HS1 := hide hs1
      clear hs hs1
      go_wp2_with fail
      refine (KA.out _).mono ?_
      rintro e x2 ⟨rfl, b2⟩
      have H2 := hide (stgs_next (stab2 QA.stab QA.stab) HS.out b2)
      clear b2 HS HS1
      go_wp2_with fail
      exact postS_mk _ rfl rfl (stage_keep (A := (stgs [QA w3 s b v c d bs nm I B t Z, QA w3 s b v c d bs nm (up I 6 V) B t Z])) (ps := [30]) (i := 24) rfl H2.out)
    · obtain ⟨⟨(h24 : vals 24 = .tuple #[.int .i64 V, .bool U]), t24⟩, _⟩ := hk
      simp only [h24]
      clear h24
      go_wp2_with fail
      exact postS_mk _ rfl rfl (stage_keep (A := (stgs [QA w3 s b v c d bs nm I B t Z, QA w3 s b v c d bs nm (up I 6 V) B t Z])) (ps := [30]) (i := 25) rfl hs)
    · obtain ⟨⟨(h25 : vals 25 = .tuple #[.int .i64 V, .bool U]), t25⟩, _⟩ := hk
      simp only [h25]
      clear h25
      go_wp2_with fail
      exact postS_mk _ rfl rfl (stage_keep (A := (stgs [QA w3 s b v c d bs nm I B t Z, QA w3 s b v c d bs nm (up I 6 V) B t Z])) (ps := [30]) (i := 26) rfl hs)
    · obtain ⟨⟨(h25 : vals 25 = .tuple #[.int .i64 V, .bool U]), t25⟩, _, _⟩ := hk
      simp only [h25]
      clear h25
      go_wp2_with fail
      exact postS_mk _ rfl rfl (stage_keep (A := (stgs [QA w3 s b v c d bs nm I B t Z, QA w3 s b v c d bs nm (up I 6 V) B t Z])) (ps := [30]) (i := 27) rfl hs)
    · obtain ⟨⟨(h0 : vals 0 = .pointer (some ⟨s, 0, none⟩)), t0⟩, _, ⟨(h1 : vals 1 = .pointer (some ⟨s, 0, none⟩)), t1⟩, ⟨(h2 : vals 2 = .pointer (some ⟨s, 0, none⟩)), t2⟩, ⟨(h3 : vals 3 = .pointer (some ⟨s, 10, none⟩)), t3⟩, ⟨(h4 : vals 4 = .pointer (some ⟨s, 11, none⟩)), t4⟩, ⟨(h5 : vals 5 = .int .i64 (I 0)), t5⟩, ⟨(h6 : vals 6 = .pointer (some ⟨s, 0, none⟩)), t6⟩, ⟨(h7 : vals 7 = .pointer (some ⟨s, 0, none⟩)), t7⟩, ⟨(h8 : vals 8 = .pointer (some ⟨s, 0, none⟩)), t8⟩, ⟨(h9 : vals 9 = .pointer (some ⟨s, 0, none⟩)), t9⟩, ⟨(h10 : vals 10 = .pointer (some ⟨s, 1, none⟩)), t10⟩, ⟨(h11 : vals 11 = .int .i64 (Z 20 1)), t11⟩, ⟨(h12 : vals 12 = .pointer (some ⟨s, 0, none⟩)), t12⟩, ⟨(h13 : vals 13 = .pointer (some ⟨s, 0, none⟩)), t13⟩, ⟨(h14 : vals 14 = .pointer (some ⟨s, 0, none⟩)), t14⟩, ⟨(h15 : vals 15 = .pointer (some ⟨s, 0, none⟩)), t15⟩, ⟨(h16 : vals 16 = .pointer (some ⟨s, 2, none⟩)), t16⟩, ⟨(h17 : vals 17 = .int .i64 (Z 20 2)), t17⟩, ⟨(h18 : vals 18 = .agg #[.int .i64 (Z 20 1), .int .i64 (Z 20 2)]), t18⟩, ⟨(h19 : vals 19 = .pointer (some ⟨s, 0, none⟩)), t19⟩, ⟨(h20 : vals 20 = .pointer (some ⟨s, 0, none⟩)), t20⟩, ⟨(h21 : vals 21 = .pointer (some ⟨s, 20, none⟩)), t21⟩, ⟨(h22 : vals 22 = .int .i64 (I 3)), t22⟩, ⟨(h23 : vals 23 = .int .i64 0), t23⟩, ⟨(h24 : vals 24 = .tuple #[.int .i64 V, .bool U]), t24⟩, ⟨(h25 : vals 25 = .tuple #[.int .i64 V, .bool U]), t25⟩, ⟨(h26 : vals 26 = .int .i64 V), t26⟩, _, _⟩ := hk
      simp only [h0]
      clear h0 h1 h2 h3 h4 h5 h6 h7 h8 h9 h10 h11 h12 h13 h14 h15 h16 h17 h18 h19 h20 h21 h22 h23 h24 h25 h26
      go_wp2_with fail
      exact postS_mk _ rfl rfl (stage_keep (A := (stgs [QA w3 s b v c d bs nm I B t Z, QA w3 s b v c d bs nm (up I 6 V) B t Z])) (ps := [30]) (i := 28) rfl hs)
    · obtain ⟨⟨(h28 : vals 28 = .pointer (some ⟨s, 0, none⟩)), t28⟩, ⟨(h0 : vals 0 = .pointer (some ⟨s, 0, none⟩)), t0⟩, ⟨(h1 : vals 1 = .pointer (some ⟨s, 0, none⟩)), t1⟩, ⟨(h2 : vals 2 = .pointer (some ⟨s, 0, none⟩)), t2⟩, ⟨(h3 : vals 3 = .pointer (some ⟨s, 10, none⟩)), t3⟩, ⟨(h4 : vals 4 = .pointer (some ⟨s, 11, none⟩)), t4⟩, ⟨(h5 : vals 5 = .int .i64 (I 0)), t5⟩, ⟨(h6 : vals 6 = .pointer (some ⟨s, 0, none⟩)), t6⟩, ⟨(h7 : vals 7 = .pointer (some ⟨s, 0, none⟩)), t7⟩, ⟨(h8 : vals 8 = .pointer (some ⟨s, 0, none⟩)), t8⟩, ⟨(h9 : vals 9 = .pointer (some ⟨s, 0, none⟩)), t9⟩, ⟨(h10 : vals 10 = .pointer (some ⟨s, 1, none⟩)), t10⟩, ⟨(h11 : vals 11 = .int .i64 (Z 20 1)), t11⟩, ⟨(h12 : vals 12 = .pointer (some ⟨s, 0, none⟩)), t12⟩, ⟨(h13 : vals 13 = .pointer (some ⟨s, 0, none⟩)), t13⟩, ⟨(h14 : vals 14 = .pointer (some ⟨s, 0, none⟩)), t14⟩, ⟨(h15 : vals 15 = .pointer (some ⟨s, 0, none⟩)), t15⟩, ⟨(h16 : vals 16 = .pointer (some ⟨s, 2, none⟩)), t16⟩, ⟨(h17 : vals 17 = .int .i64 (Z 20 2)), t17⟩, ⟨(h18 : vals 18 = .agg #[.int .i64 (Z 20 1), .int .i64 (Z 20 2)]), t18⟩, ⟨(h19 : vals 19 = .pointer (some ⟨s, 0, none⟩)), t19⟩, ⟨(h20 : vals 20 = .pointer (some ⟨s, 0, none⟩)), t20⟩, ⟨(h21 : vals 21 = .pointer (some ⟨s, 20, none⟩)), t21⟩, ⟨(h22 : vals 22 = .int .i64 (I 3)), t22⟩, ⟨(h23 : vals 23 = .int .i64 0), t23⟩, ⟨(h24 : vals 24 = .tuple #[.int .i64 V, .bool U]), t24⟩, ⟨(h25 : vals 25 = .tuple #[.int .i64 V, .bool U]), t25⟩, ⟨(h26 : vals 26 = .int .i64 V), t26⟩, _, _⟩ := hk
      simp only [h28]
      clear h28 h0 h1 h2 h3 h4 h5 h6 h7 h8 h9 h10 h11 h12 h13 h14 h15 h16 h17 h18 h19 h20 h21 h22 h23 h24 h25 h26
      go_wp2_with fail
      exact postS_mk _ rfl rfl (stage_keep (A := (stgs [QA w3 s b v c d bs nm I B t Z, QA w3 s b v c d bs nm (up I 6 V) B t Z])) (ps := [30]) (i := 29) rfl hs)
    · obtain ⟨⟨(h29 : vals 29 = .pointer (some ⟨s, 23, none⟩)), t29⟩, ⟨(h26 : vals 26 = .int .i64 V), t26⟩, ⟨(h24 : vals 24 = .tuple #[.int .i64 V, .bool U]), t24⟩, ⟨(h0 : vals 0 = .pointer (some ⟨s, 0, none⟩)), t0⟩, ⟨(h1 : vals 1 = .pointer (some ⟨s, 0, none⟩)), t1⟩, ⟨(h2 : vals 2 = .pointer (some ⟨s, 0, none⟩)), t2⟩, ⟨(h3 : vals 3 = .pointer (some ⟨s, 10, none⟩)), t3⟩, ⟨(h4 : vals 4 = .pointer (some ⟨s, 11, none⟩)), t4⟩, ⟨(h5 : vals 5 = .int .i64 (I 0)), t5⟩, ⟨(h6 : vals 6 = .pointer (some ⟨s, 0, none⟩)), t6⟩, ⟨(h7 : vals 7 = .pointer (some ⟨s, 0, none⟩)), t7⟩, ⟨(h8 : vals 8 = .pointer (some ⟨s, 0, none⟩)), t8⟩, ⟨(h9 : vals 9 = .pointer (some ⟨s, 0, none⟩)), t9⟩, ⟨(h10 : vals 10 = .pointer (some ⟨s, 1, none⟩)), t10⟩, ⟨(h11 : vals 11 = .int .i64 (Z 20 1)), t11⟩, ⟨(h12 : vals 12 = .pointer (some ⟨s, 0, none⟩)), t12⟩, ⟨(h13 : vals 13 = .pointer (some ⟨s, 0, none⟩)), t13⟩, ⟨(h14 : vals 14 = .pointer (some ⟨s, 0, none⟩)), t14⟩, ⟨(h15 : vals 15 = .pointer (some ⟨s, 0, none⟩)), t15⟩, ⟨(h16 : vals 16 = .pointer (some ⟨s, 2, none⟩)), t16⟩, ⟨(h17 : vals 17 = .int .i64 (Z 20 2)), t17⟩, ⟨(h18 : vals 18 = .agg #[.int .i64 (Z 20 1), .int .i64 (Z 20 2)]), t18⟩, ⟨(h19 : vals 19 = .pointer (some ⟨s, 0, none⟩)), t19⟩, ⟨(h20 : vals 20 = .pointer (some ⟨s, 0, none⟩)), t20⟩, ⟨(h21 : vals 21 = .pointer (some ⟨s, 20, none⟩)), t21⟩, ⟨(h22 : vals 22 = .int .i64 (I 3)), t22⟩, ⟨(h23 : vals 23 = .int .i64 0), t23⟩, _, ⟨(h25 : vals 25 = .tuple #[.int .i64 V, .bool U]), t25⟩, _, _, _⟩ := hk
      simp only [h29, h26]
      clear h29 h26 h24 h0 h1 h2 h3 h4 h5 h6 h7 h8 h9 h10 h11 h12 h13 h14 h15 h16 h17 h18 h19 h20 h21 h22 h23 h25
      have d30 := hi
      have hn : cntD [30] dn = 0 := by show (if dn 30 = true then 1 else 0) + 0 = 0; rw [d30]; rfl
      have hs1 := stage_at (A := (stgs [QA w3 s b v c d bs nm I B t Z, QA w3 s b v c d bs nm (up I 6 V) B t Z])) hn hs
      have hn2 : cntD [30] (updD dn 30) = 1 := by show (if updD dn 30 30 = true then 1 else 0) + 0 = 1; rw [updD_same]; rfl
      have HN2 := hide hn2
      clear hn hn2 
      have q := (fun h : QA w3 s b v c d bs nm I B t Z x => h.1.plac) hs1
      have z := (fun h : QA w3 s b v c d bs nm I B t Z x => h.1.frz 23) hs1
      have H2 := hide ((fun h : QA w3 s b v c d bs nm I B t Z x => show QA w3 s b v c d bs nm (up I 6 V) B t Z _ from ⟨h.1.putI 3 (by decide) V (a := 23) rfl, eq_set h.2 23 _⟩) hs1)
      clear hs hs1
      go_wp2_with fail
      exact postS_mk _ rfl rfl (stage_of (A := (stgs [QA w3 s b v c d bs nm I B t Z, QA w3 s b v c d bs nm (up I 6 V) B t Z])) HN2.out H2.out)
  rintro vals dn x hall hs hv
  clear hv
  have hn : cntD [30] dn = 1 := by show (if dn 30 = true then 1 else 0) + 0 = 1; rw [hall 30 (by decide)]; rfl
  have hs := stage_at (A := (stgs [QA w3 s b v c d bs nm I B t Z, QA w3 s b v c d bs nm (up I 6 V) B t Z])) hn hs
  clear hn hall
  obtain ⟨h4, o4⟩ : QA w3 s b v c d bs nm (up I 6 V) B t Z x := hs
  have H4 := hide h4
  have O4 := hide (O3.out.trans o4)
  clear h4 o4 hs
  go_wp2
  go_end0
  rw [HV.out]
  exact ⟨rfl, H4.out, O4.out⟩
set_option maxHeartbeats 1000000 in
theorem find_yes {w : World} {s b v c d : Nat} {bs : List Int} {nm : ByteArray} {I B : Nat → Int} {t : Bool} {Z : Nat → Nat → Int} (h : HasQ w s b v c d bs nm I B t Z) (hp : hasPt (I 0) = true) (A0 AF Q0 : Int) (hA0 : ptrOf (I 0) (Z 20 1) (I 3) = A0) (hAF : aftOf (I 0) A0 = AF) (hQ0 : pV bs Z A0 AF = Q0) : Calls Tryz.prog 42 #[.pointer (some ⟨s, 0, none⟩)] w fun e w' => e = Ending.returned (.tuple #[]) ∧ HasQ w' s b v c d bs nm (up I 6 (adrOf (I 0) (Z 20 1) (Z 20 2) (I 3) Q0)) B t (pS Z A0 AF) ∧ OnlyE (EQ s b v) w w' := by
  have HE := hide h
  obtain ⟨A, hA⟩ : ∃ A, ptrOf (I 0) (Z 20 1) (I 3) = A := ⟨_, rfl⟩
  obtain ⟨W, hW⟩ : ∃ W, wrpOf (I 0) = W := ⟨_, rfl⟩
  have KP : Hid (∀ w, Calls Tryz.prog 91 #[.int .i64 (I 0), .int .i64 (Z 20 1), .int .i64 (I 3)] w fun e w' => e = Ending.returned (.tuple #[.int .i64 A, .bool W, .bool true]) ∧ Below w.heap.size w w') := hide (fun w => by rw [← hA, ← hW, ← hp]; exact pointer_is _ _ _ w)
  obtain rfl : A = A0 := hA.symm.trans hA0
  obtain ⟨Q, hQ⟩ : ∃ Q, pV bs Z A AF = Q := ⟨_, rfl⟩
  obtain rfl : Q = Q0 := hQ.symm.trans hQ0
  obtain ⟨V, hV⟩ : ∃ V, adrOf (I 0) (Z 20 1) (Z 20 2) (I 3) Q = V := ⟨_, rfl⟩
  obtain ⟨U, hU⟩ : ∃ U, hasAd (I 0) = U := ⟨_, rfl⟩
  have KA : Hid (∀ w, Calls Tryz.prog 92 #[.int .i64 (I 0), .agg #[.int .i64 (Z 20 1), .int .i64 (Z 20 2)], .int .i64 (I 3), .int .i64 Q] w fun e w' => e = Ending.returned (.tuple #[.int .i64 V, .bool U]) ∧ Below w.heap.size w w') := hide (fun w => by rw [← hV, ← hU]; exact address_is _ _ _ _ _ w)
  have KF : Hid (∀ w, Calls Tryz.prog 65 #[.int .i64 A, .bool W] w fun e w' => e = Ending.returned (.int .i64 AF) ∧ Below w.heap.size w w') := hide (fun w => by rw [← hAF, ← hW]; exact after_is _ _ w)
  have KQ : Hid (∀ w', HasQ w' s b v c d bs nm I B t Z → Calls Tryz.prog 64 #[.pointer (some ⟨s, 0, none⟩), .int .i64 A, .int .i64 AF] w' fun e w'' => e = Ending.returned (.int .i64 Q) ∧ HasQ w'' s b v c d bs nm I B t (pS Z A AF) ∧ OnlyE (EQ s b v) w' w'') := hide (fun w' h' => by rw [← hQ]; exact readPair_is h' A AF)
  have HV := hide hV
  have E20 : Hid (pS Z A AF 20 = Z 20) := hide (by unfold pS; rw [rS_keep _ _ _ (by decide), rS_keep _ _ _ (by decide)])
  clear hA hW hV hU hp hA0 hAF hQ hQ0
  clear h
  go_enter Tryz.func42, Tryz.ntmps42
  go_wp2_with fail
  refine wp_region_state (ofList [.pointer (some ⟨s, 0, none⟩), .pointer (some ⟨s, 0, none⟩), .pointer (some ⟨s, 10, none⟩), .pointer (some ⟨s, 11, none⟩), .int .i64 (I 0), .pointer (some ⟨s, 0, none⟩), .pointer (some ⟨s, 0, none⟩), .pointer (some ⟨s, 0, none⟩), .pointer (some ⟨s, 0, none⟩), .pointer (some ⟨s, 1, none⟩), .int .i64 (Z 20 1), .pointer (some ⟨s, 0, none⟩), .pointer (some ⟨s, 0, none⟩), .pointer (some ⟨s, 20, none⟩), .int .i64 (I 3), .tuple #[.int .i64 A, .bool W, .bool true], .tuple #[.int .i64 A, .bool W, .bool true], .int .i64 A, .bool W, .bool true, .int .i64 A, .bool W, .bool true]) (fun dd ww => (stgs [QA w s b v c d bs nm I B t Z]) (cntD [] dd) ww) _ (fun vals => by simp only [putAll, Act.put, List.setIfInBounds_toArray, List.set_cons_succ, List.set_cons_zero, Nat.reduceAdd]; rfl) (by kernel_rfl) (by kernel_rfl) (by kernel_rfl) (fun dn hd => stage_none (A := (stgs [QA w s b v c d bs nm I B t Z])) hd (QA.mk HE.out)) ?_ ?_
  · refine stepsS_cons (fun vals dn x hi hc hk hs => ?_) (stepsS_cons (fun vals dn x hi hc hk hs => ?_) (stepsS_cons (fun vals dn x hi hc hk hs => ?_) (stepsS_cons (fun vals dn x hi hc hk hs => ?_) (stepsS_cons (fun vals dn x hi hc hk hs => ?_) (stepsS_cons (fun vals dn x hi hc hk hs => ?_) (stepsS_cons (fun vals dn x hi hc hk hs => ?_) (stepsS_cons (fun vals dn x hi hc hk hs => ?_) (stepsS_cons (fun vals dn x hi hc hk hs => ?_) (stepsS_cons (fun vals dn x hi hc hk hs => ?_) (stepsS_cons (fun vals dn x hi hc hk hs => ?_) (stepsS_cons (fun vals dn x hi hc hk hs => ?_) (stepsS_cons (fun vals dn x hi hc hk hs => ?_) (stepsS_cons (fun vals dn x hi hc hk hs => ?_) (stepsS_cons (fun vals dn x hi hc hk hs => ?_) (stepsS_cons (fun vals dn x hi hc hk hs => ?_) (stepsS_cons (fun vals dn x hi hc hk hs => ?_) (stepsS_cons (fun vals dn x hi hc hk hs => ?_) (stepsS_cons (fun vals dn x hi hc hk hs => ?_) (stepsS_cons (fun vals dn x hi hc hk hs => ?_) (stepsS_cons (fun vals dn x hi hc hk hs => ?_) (stepsS_cons (fun vals dn x hi hc hk hs => ?_) (stepsS_cons (fun vals dn x hi hc hk hs => ?_) stepsS_nil))))))))))))))))))))))
    · set_option maxRecDepth 20000 in
      go_wp2_with fail
      exact postS_mk _ rfl rfl (stage_keep (A := (stgs [QA w s b v c d bs nm I B t Z])) (ps := []) (i := 0) rfl hs)
    · obtain ⟨⟨(h0 : vals 0 = .pointer (some ⟨s, 0, none⟩)), t0⟩, _⟩ := hk
      simp only [h0]
      clear h0
      go_wp2_with fail
      exact postS_mk _ rfl rfl (stage_keep (A := (stgs [QA w s b v c d bs nm I B t Z])) (ps := []) (i := 1) rfl hs)
    · obtain ⟨⟨(h1 : vals 1 = .pointer (some ⟨s, 0, none⟩)), t1⟩, _⟩ := hk
      simp only [h1]
      clear h1
      go_wp2_with fail
      exact postS_mk _ rfl rfl (stage_keep (A := (stgs [QA w s b v c d bs nm I B t Z])) (ps := []) (i := 2) rfl hs)
    · obtain ⟨⟨(h2 : vals 2 = .pointer (some ⟨s, 10, none⟩)), t2⟩, _⟩ := hk
      simp only [h2]
      clear h2
      go_wp2_with fail
      exact postS_mk _ rfl rfl (stage_keep (A := (stgs [QA w s b v c d bs nm I B t Z])) (ps := []) (i := 3) rfl hs)
    · obtain ⟨⟨(h3 : vals 3 = .pointer (some ⟨s, 11, none⟩)), t3⟩, _⟩ := hk
      simp only [h3]
      clear h3
      have hs1 := hs
      have q := (show QA w s b v c d bs nm I B t Z x from hs1).1.mode
      go_wp2_with fail
      exact postS_mk _ rfl rfl (stage_keep (A := (stgs [QA w s b v c d bs nm I B t Z])) (ps := []) (i := 4) rfl hs)
    · set_option maxRecDepth 20000 in
      go_wp2_with fail
      exact postS_mk _ rfl rfl (stage_keep (A := (stgs [QA w s b v c d bs nm I B t Z])) (ps := []) (i := 5) rfl hs)
    · obtain ⟨⟨(h5 : vals 5 = .pointer (some ⟨s, 0, none⟩)), t5⟩, _⟩ := hk
      simp only [h5]
      clear h5
      go_wp2_with fail
      exact postS_mk _ rfl rfl (stage_keep (A := (stgs [QA w s b v c d bs nm I B t Z])) (ps := []) (i := 6) rfl hs)
    · obtain ⟨⟨(h6 : vals 6 = .pointer (some ⟨s, 0, none⟩)), t6⟩, _⟩ := hk
      simp only [h6]
      clear h6
      go_wp2_with fail
      exact postS_mk _ rfl rfl (stage_keep (A := (stgs [QA w s b v c d bs nm I B t Z])) (ps := []) (i := 7) rfl hs)
    · obtain ⟨⟨(h7 : vals 7 = .pointer (some ⟨s, 0, none⟩)), t7⟩, _⟩ := hk
      simp only [h7]
      clear h7
      go_wp2_with fail
      exact postS_mk _ rfl rfl (stage_keep (A := (stgs [QA w s b v c d bs nm I B t Z])) (ps := []) (i := 8) rfl hs)
    · obtain ⟨⟨(h8 : vals 8 = .pointer (some ⟨s, 0, none⟩)), t8⟩, _⟩ := hk
      simp only [h8]
      clear h8
      go_wp2_with fail
      exact postS_mk _ rfl rfl (stage_keep (A := (stgs [QA w s b v c d bs nm I B t Z])) (ps := []) (i := 9) rfl hs)
    · obtain ⟨⟨(h9 : vals 9 = .pointer (some ⟨s, 1, none⟩)), t9⟩, _⟩ := hk
      simp only [h9]
      clear h9
      have hs1 := hs
      have q := (show QA w s b v c d bs nm I B t Z x from hs1).1.reg 1 (by decide)
      go_wp2_with fail
      exact postS_mk _ rfl rfl (stage_keep (A := (stgs [QA w s b v c d bs nm I B t Z])) (ps := []) (i := 10) rfl hs)
    · set_option maxRecDepth 20000 in
      go_wp2_with fail
      exact postS_mk _ rfl rfl (stage_keep (A := (stgs [QA w s b v c d bs nm I B t Z])) (ps := []) (i := 11) rfl hs)
    · obtain ⟨⟨(h11 : vals 11 = .pointer (some ⟨s, 0, none⟩)), t11⟩, _⟩ := hk
      simp only [h11]
      clear h11
      go_wp2_with fail
      exact postS_mk _ rfl rfl (stage_keep (A := (stgs [QA w s b v c d bs nm I B t Z])) (ps := []) (i := 12) rfl hs)
    · obtain ⟨⟨(h12 : vals 12 = .pointer (some ⟨s, 0, none⟩)), t12⟩, _⟩ := hk
      simp only [h12]
      clear h12
      go_wp2_with fail
      exact postS_mk _ rfl rfl (stage_keep (A := (stgs [QA w s b v c d bs nm I B t Z])) (ps := []) (i := 13) rfl hs)
    · obtain ⟨⟨(h13 : vals 13 = .pointer (some ⟨s, 20, none⟩)), t13⟩, _⟩ := hk
      simp only [h13]
      clear h13
      have hs1 := hs
      have q := (show QA w s b v c d bs nm I B t Z x from hs1).1.oper
      go_wp2_with fail
      exact postS_mk _ rfl rfl (stage_keep (A := (stgs [QA w s b v c d bs nm I B t Z])) (ps := []) (i := 14) rfl hs)
    · obtain ⟨⟨(h4 : vals 4 = .int .i64 (I 0)), t4⟩, ⟨(h10 : vals 10 = .int .i64 (Z 20 1)), t10⟩, ⟨(h14 : vals 14 = .int .i64 (I 3)), t14⟩, _⟩ := hk
      simp only [h4, h10, h14]
      clear h4 h10 h14
      have hs1 := hs
      have HS := hide hs
      have HS1 := hide hs1
      clear hs hs1
      go_wp2_with fail
      refine (KP.out _).mono ?_
      rintro e x2 ⟨rfl, b2⟩
      have H2 := hide (stgs_next (stab1 QA.stab) HS.out b2)
      clear b2 HS HS1
      go_wp2_with fail
      exact postS_mk _ rfl rfl (stage_keep (A := (stgs [QA w s b v c d bs nm I B t Z])) (ps := []) (i := 15) rfl H2.out)
    · obtain ⟨⟨(h15 : vals 15 = .tuple #[.int .i64 A, .bool W, .bool true]), t15⟩, _⟩ := hk
      simp only [h15]
      clear h15
      go_wp2_with fail
      exact postS_mk _ rfl rfl (stage_keep (A := (stgs [QA w s b v c d bs nm I B t Z])) (ps := []) (i := 16) rfl hs)
    · obtain ⟨⟨(h16 : vals 16 = .tuple #[.int .i64 A, .bool W, .bool true]), t16⟩, _⟩ := hk
      simp only [h16]
      clear h16
      go_wp2_with fail
      exact postS_mk _ rfl rfl (stage_keep (A := (stgs [QA w s b v c d bs nm I B t Z])) (ps := []) (i := 17) rfl hs)
    · obtain ⟨⟨(h16 : vals 16 = .tuple #[.int .i64 A, .bool W, .bool true]), t16⟩, _, _⟩ := hk
      simp only [h16]
      clear h16
      go_wp2_with fail
      exact postS_mk _ rfl rfl (stage_keep (A := (stgs [QA w s b v c d bs nm I B t Z])) (ps := []) (i := 18) rfl hs)
    · obtain ⟨⟨(h16 : vals 16 = .tuple #[.int .i64 A, .bool W, .bool true]), t16⟩, _, _⟩ := hk
      simp only [h16]
      clear h16
      go_wp2_with fail
      exact postS_mk _ rfl rfl (stage_keep (A := (stgs [QA w s b v c d bs nm I B t Z])) (ps := []) (i := 19) rfl hs)
    · obtain ⟨⟨(h17 : vals 17 = .int .i64 A), t17⟩, ⟨(h15 : vals 15 = .tuple #[.int .i64 A, .bool W, .bool true]), t15⟩, ⟨(h0 : vals 0 = .pointer (some ⟨s, 0, none⟩)), t0⟩, ⟨(h1 : vals 1 = .pointer (some ⟨s, 0, none⟩)), t1⟩, ⟨(h2 : vals 2 = .pointer (some ⟨s, 10, none⟩)), t2⟩, ⟨(h3 : vals 3 = .pointer (some ⟨s, 11, none⟩)), t3⟩, ⟨(h4 : vals 4 = .int .i64 (I 0)), t4⟩, ⟨(h5 : vals 5 = .pointer (some ⟨s, 0, none⟩)), t5⟩, ⟨(h6 : vals 6 = .pointer (some ⟨s, 0, none⟩)), t6⟩, ⟨(h7 : vals 7 = .pointer (some ⟨s, 0, none⟩)), t7⟩, ⟨(h8 : vals 8 = .pointer (some ⟨s, 0, none⟩)), t8⟩, ⟨(h9 : vals 9 = .pointer (some ⟨s, 1, none⟩)), t9⟩, ⟨(h10 : vals 10 = .int .i64 (Z 20 1)), t10⟩, ⟨(h11 : vals 11 = .pointer (some ⟨s, 0, none⟩)), t11⟩, ⟨(h12 : vals 12 = .pointer (some ⟨s, 0, none⟩)), t12⟩, ⟨(h13 : vals 13 = .pointer (some ⟨s, 20, none⟩)), t13⟩, ⟨(h14 : vals 14 = .int .i64 (I 3)), t14⟩, _, ⟨(h16 : vals 16 = .tuple #[.int .i64 A, .bool W, .bool true]), t16⟩, _, _, _, _⟩ := hk
      simp only [h17]
      clear h17 h15 h0 h1 h2 h3 h4 h5 h6 h7 h8 h9 h10 h11 h12 h13 h14 h16
      go_wp2_with fail
      exact postS_mk _ rfl rfl (stage_keep (A := (stgs [QA w s b v c d bs nm I B t Z])) (ps := []) (i := 20) rfl hs)
    · obtain ⟨⟨(h18 : vals 18 = .bool W), t18⟩, ⟨(h20 : vals 20 = .int .i64 A), t20⟩, ⟨(h0 : vals 0 = .pointer (some ⟨s, 0, none⟩)), t0⟩, ⟨(h1 : vals 1 = .pointer (some ⟨s, 0, none⟩)), t1⟩, ⟨(h2 : vals 2 = .pointer (some ⟨s, 10, none⟩)), t2⟩, ⟨(h3 : vals 3 = .pointer (some ⟨s, 11, none⟩)), t3⟩, ⟨(h4 : vals 4 = .int .i64 (I 0)), t4⟩, ⟨(h5 : vals 5 = .pointer (some ⟨s, 0, none⟩)), t5⟩, ⟨(h6 : vals 6 = .pointer (some ⟨s, 0, none⟩)), t6⟩, ⟨(h7 : vals 7 = .pointer (some ⟨s, 0, none⟩)), t7⟩, ⟨(h8 : vals 8 = .pointer (some ⟨s, 0, none⟩)), t8⟩, ⟨(h9 : vals 9 = .pointer (some ⟨s, 1, none⟩)), t9⟩, ⟨(h10 : vals 10 = .int .i64 (Z 20 1)), t10⟩, ⟨(h11 : vals 11 = .pointer (some ⟨s, 0, none⟩)), t11⟩, ⟨(h12 : vals 12 = .pointer (some ⟨s, 0, none⟩)), t12⟩, ⟨(h13 : vals 13 = .pointer (some ⟨s, 20, none⟩)), t13⟩, ⟨(h14 : vals 14 = .int .i64 (I 3)), t14⟩, ⟨(h15 : vals 15 = .tuple #[.int .i64 A, .bool W, .bool true]), t15⟩, ⟨(h16 : vals 16 = .tuple #[.int .i64 A, .bool W, .bool true]), t16⟩, ⟨(h17 : vals 17 = .int .i64 A), t17⟩, _, _, _, _⟩ := hk
      simp only [h18]
      clear h18 h20 h0 h1 h2 h3 h4 h5 h6 h7 h8 h9 h10 h11 h12 h13 h14 h15 h16 h17
      go_wp2_with fail
      exact postS_mk _ rfl rfl (stage_keep (A := (stgs [QA w s b v c d bs nm I B t Z])) (ps := []) (i := 21) rfl hs)
    · obtain ⟨⟨(h19 : vals 19 = .bool true), t19⟩, ⟨(h21 : vals 21 = .bool W), t21⟩, ⟨(h0 : vals 0 = .pointer (some ⟨s, 0, none⟩)), t0⟩, ⟨(h1 : vals 1 = .pointer (some ⟨s, 0, none⟩)), t1⟩, ⟨(h2 : vals 2 = .pointer (some ⟨s, 10, none⟩)), t2⟩, ⟨(h3 : vals 3 = .pointer (some ⟨s, 11, none⟩)), t3⟩, ⟨(h4 : vals 4 = .int .i64 (I 0)), t4⟩, ⟨(h5 : vals 5 = .pointer (some ⟨s, 0, none⟩)), t5⟩, ⟨(h6 : vals 6 = .pointer (some ⟨s, 0, none⟩)), t6⟩, ⟨(h7 : vals 7 = .pointer (some ⟨s, 0, none⟩)), t7⟩, ⟨(h8 : vals 8 = .pointer (some ⟨s, 0, none⟩)), t8⟩, ⟨(h9 : vals 9 = .pointer (some ⟨s, 1, none⟩)), t9⟩, ⟨(h10 : vals 10 = .int .i64 (Z 20 1)), t10⟩, ⟨(h11 : vals 11 = .pointer (some ⟨s, 0, none⟩)), t11⟩, ⟨(h12 : vals 12 = .pointer (some ⟨s, 0, none⟩)), t12⟩, ⟨(h13 : vals 13 = .pointer (some ⟨s, 20, none⟩)), t13⟩, ⟨(h14 : vals 14 = .int .i64 (I 3)), t14⟩, ⟨(h15 : vals 15 = .tuple #[.int .i64 A, .bool W, .bool true]), t15⟩, ⟨(h16 : vals 16 = .tuple #[.int .i64 A, .bool W, .bool true]), t16⟩, ⟨(h17 : vals 17 = .int .i64 A), t17⟩, ⟨(h18 : vals 18 = .bool W), t18⟩, _, ⟨(h20 : vals 20 = .int .i64 A), t20⟩, _, _⟩ := hk
      simp only [h19]
      clear h19 h21 h0 h1 h2 h3 h4 h5 h6 h7 h8 h9 h10 h11 h12 h13 h14 h15 h16 h17 h18 h20
      go_wp2_with fail
      exact postS_mk _ rfl rfl (stage_keep (A := (stgs [QA w s b v c d bs nm I B t Z])) (ps := []) (i := 22) rfl hs)
  rintro vals dn x hall hs hv
  obtain ⟨_, _, _, _, _, _, _, _, _, _, _, _, _, _, _, _, _, _, _, _, (h20 : vals 20 = .int .i64 A), (h21 : vals 21 = .bool W), (h22 : vals 22 = .bool true), _⟩ := hv
  simp only [h20, h21, h22]
  clear h20 h21 h22
  obtain ⟨h1, o1⟩ : QA w s b v c d bs nm I B t Z x := hs
  have H1 := hide h1
  have O1 := hide o1
  clear h1 o1 hall HE KP
  go_wp2_with fail
  refine (KF.out _).mono ?_
  rintro e w2 ⟨rfl, b2⟩
  have H2 := hide (H1.out.next b2)
  have O2 := hide (O1.out.trans (eq_of b2))
  clear b2 H1 O1 KF
  go_wp2_with fail
  refine (KQ.out _ H2.out).mono ?_
  rintro e w3 ⟨rfl, h3, o3⟩
  have H3 := hide h3
  have O3 := hide (O2.out.trans o3)
  clear h3 o3 H2 O2 KQ
  go_wp2_with fail
  refine wp_region_state (ofList [.pointer (some ⟨s, 0, none⟩), .pointer (some ⟨s, 0, none⟩), .pointer (some ⟨s, 0, none⟩), .pointer (some ⟨s, 10, none⟩), .pointer (some ⟨s, 11, none⟩), .int .i64 (I 0), .pointer (some ⟨s, 0, none⟩), .pointer (some ⟨s, 0, none⟩), .pointer (some ⟨s, 0, none⟩), .pointer (some ⟨s, 0, none⟩), .pointer (some ⟨s, 1, none⟩), .int .i64 (Z 20 1), .pointer (some ⟨s, 0, none⟩), .pointer (some ⟨s, 0, none⟩), .pointer (some ⟨s, 0, none⟩), .pointer (some ⟨s, 0, none⟩), .pointer (some ⟨s, 2, none⟩), .int .i64 (Z 20 2), .agg #[.int .i64 (Z 20 1), .int .i64 (Z 20 2)], .pointer (some ⟨s, 0, none⟩), .pointer (some ⟨s, 0, none⟩), .pointer (some ⟨s, 20, none⟩), .int .i64 (I 3), .int .i64 Q, .tuple #[.int .i64 V, .bool U], .tuple #[.int .i64 V, .bool U], .int .i64 V, .bool U, .pointer (some ⟨s, 0, none⟩), .pointer (some ⟨s, 23, none⟩), undef]) (fun dd ww => (stgs [QA w3 s b v c d bs nm I B t (pS Z A AF), QA w3 s b v c d bs nm (up I 6 V) B t (pS Z A AF)]) (cntD [30] dd) ww) _ (fun vals => by simp only [putAll, Act.put, List.setIfInBounds_toArray, List.set_cons_succ, List.set_cons_zero, Nat.reduceAdd]; rfl) (by kernel_rfl) (by kernel_rfl) (by kernel_rfl) (fun dn hd => stage_none (A := (stgs [QA w3 s b v c d bs nm I B t (pS Z A AF), QA w3 s b v c d bs nm (up I 6 V) B t (pS Z A AF)])) hd (QA.mk H3.out)) ?_ ?_
  · refine stepsS_cons (fun vals dn x hi hc hk hs => ?_) (stepsS_cons (fun vals dn x hi hc hk hs => ?_) (stepsS_cons (fun vals dn x hi hc hk hs => ?_) (stepsS_cons (fun vals dn x hi hc hk hs => ?_) (stepsS_cons (fun vals dn x hi hc hk hs => ?_) (stepsS_cons (fun vals dn x hi hc hk hs => ?_) (stepsS_cons (fun vals dn x hi hc hk hs => ?_) (stepsS_cons (fun vals dn x hi hc hk hs => ?_) (stepsS_cons (fun vals dn x hi hc hk hs => ?_) (stepsS_cons (fun vals dn x hi hc hk hs => ?_) (stepsS_cons (fun vals dn x hi hc hk hs => ?_) (stepsS_cons (fun vals dn x hi hc hk hs => ?_) (stepsS_cons (fun vals dn x hi hc hk hs => ?_) (stepsS_cons (fun vals dn x hi hc hk hs => ?_) (stepsS_cons (fun vals dn x hi hc hk hs => ?_) (stepsS_cons (fun vals dn x hi hc hk hs => ?_) (stepsS_cons (fun vals dn x hi hc hk hs => ?_) (stepsS_cons (fun vals dn x hi hc hk hs => ?_) (stepsS_cons (fun vals dn x hi hc hk hs => ?_) (stepsS_cons (fun vals dn x hi hc hk hs => ?_) (stepsS_cons (fun vals dn x hi hc hk hs => ?_) (stepsS_cons (fun vals dn x hi hc hk hs => ?_) (stepsS_cons (fun vals dn x hi hc hk hs => ?_) (stepsS_cons (fun vals dn x hi hc hk hs => ?_) (stepsS_cons (fun vals dn x hi hc hk hs => ?_) (stepsS_cons (fun vals dn x hi hc hk hs => ?_) (stepsS_cons (fun vals dn x hi hc hk hs => ?_) (stepsS_cons (fun vals dn x hi hc hk hs => ?_) (stepsS_cons (fun vals dn x hi hc hk hs => ?_) (stepsS_cons (fun vals dn x hi hc hk hs => ?_) (stepsS_cons (fun vals dn x hi hc hk hs => ?_) stepsS_nil))))))))))))))))))))))))))))))
    · set_option maxRecDepth 20000 in
      go_wp2_with fail
      exact postS_mk _ rfl rfl (stage_keep (A := (stgs [QA w3 s b v c d bs nm I B t (pS Z A AF), QA w3 s b v c d bs nm (up I 6 V) B t (pS Z A AF)])) (ps := [30]) (i := 0) rfl hs)
    · set_option maxRecDepth 20000 in
      go_wp2_with fail
      exact postS_mk _ rfl rfl (stage_keep (A := (stgs [QA w3 s b v c d bs nm I B t (pS Z A AF), QA w3 s b v c d bs nm (up I 6 V) B t (pS Z A AF)])) (ps := [30]) (i := 1) rfl hs)
    · obtain ⟨⟨(h1 : vals 1 = .pointer (some ⟨s, 0, none⟩)), t1⟩, _⟩ := hk
      simp only [h1]
      clear h1
      go_wp2_with fail
      exact postS_mk _ rfl rfl (stage_keep (A := (stgs [QA w3 s b v c d bs nm I B t (pS Z A AF), QA w3 s b v c d bs nm (up I 6 V) B t (pS Z A AF)])) (ps := [30]) (i := 2) rfl hs)
    · obtain ⟨⟨(h2 : vals 2 = .pointer (some ⟨s, 0, none⟩)), t2⟩, _⟩ := hk
      simp only [h2]
      clear h2
      go_wp2_with fail
      exact postS_mk _ rfl rfl (stage_keep (A := (stgs [QA w3 s b v c d bs nm I B t (pS Z A AF), QA w3 s b v c d bs nm (up I 6 V) B t (pS Z A AF)])) (ps := [30]) (i := 3) rfl hs)
    · obtain ⟨⟨(h3 : vals 3 = .pointer (some ⟨s, 10, none⟩)), t3⟩, _⟩ := hk
      simp only [h3]
      clear h3
      go_wp2_with fail
      exact postS_mk _ rfl rfl (stage_keep (A := (stgs [QA w3 s b v c d bs nm I B t (pS Z A AF), QA w3 s b v c d bs nm (up I 6 V) B t (pS Z A AF)])) (ps := [30]) (i := 4) rfl hs)
    · obtain ⟨⟨(h4 : vals 4 = .pointer (some ⟨s, 11, none⟩)), t4⟩, _⟩ := hk
      simp only [h4]
      clear h4
      have d30 := not_yet hc hi 30 60 (by kernel_rfl)
      have hn : cntD [30] dn = 0 := by show (if dn 30 = true then 1 else 0) + 0 = 0; rw [d30]; rfl
      have hs1 := stage_at (A := (stgs [QA w3 s b v c d bs nm I B t (pS Z A AF), QA w3 s b v c d bs nm (up I 6 V) B t (pS Z A AF)])) hn hs
      have q := (show QA w3 s b v c d bs nm I B t (pS Z A AF) x from hs1).1.mode
      go_wp2_with fail
      exact postS_mk _ rfl rfl (stage_keep (A := (stgs [QA w3 s b v c d bs nm I B t (pS Z A AF), QA w3 s b v c d bs nm (up I 6 V) B t (pS Z A AF)])) (ps := [30]) (i := 5) rfl hs)
    · set_option maxRecDepth 20000 in
      go_wp2_with fail
      exact postS_mk _ rfl rfl (stage_keep (A := (stgs [QA w3 s b v c d bs nm I B t (pS Z A AF), QA w3 s b v c d bs nm (up I 6 V) B t (pS Z A AF)])) (ps := [30]) (i := 6) rfl hs)
    · obtain ⟨⟨(h6 : vals 6 = .pointer (some ⟨s, 0, none⟩)), t6⟩, _⟩ := hk
      simp only [h6]
      clear h6
      go_wp2_with fail
      exact postS_mk _ rfl rfl (stage_keep (A := (stgs [QA w3 s b v c d bs nm I B t (pS Z A AF), QA w3 s b v c d bs nm (up I 6 V) B t (pS Z A AF)])) (ps := [30]) (i := 7) rfl hs)
    · obtain ⟨⟨(h7 : vals 7 = .pointer (some ⟨s, 0, none⟩)), t7⟩, _⟩ := hk
      simp only [h7]
      clear h7
      go_wp2_with fail
      exact postS_mk _ rfl rfl (stage_keep (A := (stgs [QA w3 s b v c d bs nm I B t (pS Z A AF), QA w3 s b v c d bs nm (up I 6 V) B t (pS Z A AF)])) (ps := [30]) (i := 8) rfl hs)
    · obtain ⟨⟨(h8 : vals 8 = .pointer (some ⟨s, 0, none⟩)), t8⟩, _⟩ := hk
      simp only [h8]
      clear h8
      go_wp2_with fail
      exact postS_mk _ rfl rfl (stage_keep (A := (stgs [QA w3 s b v c d bs nm I B t (pS Z A AF), QA w3 s b v c d bs nm (up I 6 V) B t (pS Z A AF)])) (ps := [30]) (i := 9) rfl hs)
    · obtain ⟨⟨(h9 : vals 9 = .pointer (some ⟨s, 0, none⟩)), t9⟩, _⟩ := hk
      simp only [h9]
      clear h9
      go_wp2_with fail
      exact postS_mk _ rfl rfl (stage_keep (A := (stgs [QA w3 s b v c d bs nm I B t (pS Z A AF), QA w3 s b v c d bs nm (up I 6 V) B t (pS Z A AF)])) (ps := [30]) (i := 10) rfl hs)
    · obtain ⟨⟨(h10 : vals 10 = .pointer (some ⟨s, 1, none⟩)), t10⟩, _⟩ := hk
      simp only [h10]
      clear h10
      have d30 := not_yet hc hi 30 60 (by kernel_rfl)
      have hn : cntD [30] dn = 0 := by show (if dn 30 = true then 1 else 0) + 0 = 0; rw [d30]; rfl
      have hs1 := stage_at (A := (stgs [QA w3 s b v c d bs nm I B t (pS Z A AF), QA w3 s b v c d bs nm (up I 6 V) B t (pS Z A AF)])) hn hs
      have q := ((show QA w3 s b v c d bs nm I B t (pS Z A AF) x from hs1).1.reg 1 (by decide)).trans (by rw [E20.out])
      go_wp2_with fail
      exact postS_mk _ rfl rfl (stage_keep (A := (stgs [QA w3 s b v c d bs nm I B t (pS Z A AF), QA w3 s b v c d bs nm (up I 6 V) B t (pS Z A AF)])) (ps := [30]) (i := 11) rfl hs)
    · set_option maxRecDepth 20000 in
      go_wp2_with fail
      exact postS_mk _ rfl rfl (stage_keep (A := (stgs [QA w3 s b v c d bs nm I B t (pS Z A AF), QA w3 s b v c d bs nm (up I 6 V) B t (pS Z A AF)])) (ps := [30]) (i := 12) rfl hs)
    · obtain ⟨⟨(h12 : vals 12 = .pointer (some ⟨s, 0, none⟩)), t12⟩, _⟩ := hk
      simp only [h12]
      clear h12
      go_wp2_with fail
      exact postS_mk _ rfl rfl (stage_keep (A := (stgs [QA w3 s b v c d bs nm I B t (pS Z A AF), QA w3 s b v c d bs nm (up I 6 V) B t (pS Z A AF)])) (ps := [30]) (i := 13) rfl hs)
    · obtain ⟨⟨(h13 : vals 13 = .pointer (some ⟨s, 0, none⟩)), t13⟩, _⟩ := hk
      simp only [h13]
      clear h13
      go_wp2_with fail
      exact postS_mk _ rfl rfl (stage_keep (A := (stgs [QA w3 s b v c d bs nm I B t (pS Z A AF), QA w3 s b v c d bs nm (up I 6 V) B t (pS Z A AF)])) (ps := [30]) (i := 14) rfl hs)
    · obtain ⟨⟨(h14 : vals 14 = .pointer (some ⟨s, 0, none⟩)), t14⟩, _⟩ := hk
      simp only [h14]
      clear h14
      go_wp2_with fail
      exact postS_mk _ rfl rfl (stage_keep (A := (stgs [QA w3 s b v c d bs nm I B t (pS Z A AF), QA w3 s b v c d bs nm (up I 6 V) B t (pS Z A AF)])) (ps := [30]) (i := 15) rfl hs)
    · obtain ⟨⟨(h15 : vals 15 = .pointer (some ⟨s, 0, none⟩)), t15⟩, _⟩ := hk
      simp only [h15]
      clear h15
      go_wp2_with fail
      exact postS_mk _ rfl rfl (stage_keep (A := (stgs [QA w3 s b v c d bs nm I B t (pS Z A AF), QA w3 s b v c d bs nm (up I 6 V) B t (pS Z A AF)])) (ps := [30]) (i := 16) rfl hs)
    · obtain ⟨⟨(h16 : vals 16 = .pointer (some ⟨s, 2, none⟩)), t16⟩, _⟩ := hk
      simp only [h16]
      clear h16
      have d30 := not_yet hc hi 30 60 (by kernel_rfl)
      have hn : cntD [30] dn = 0 := by show (if dn 30 = true then 1 else 0) + 0 = 0; rw [d30]; rfl
      have hs1 := stage_at (A := (stgs [QA w3 s b v c d bs nm I B t (pS Z A AF), QA w3 s b v c d bs nm (up I 6 V) B t (pS Z A AF)])) hn hs
      have q := ((show QA w3 s b v c d bs nm I B t (pS Z A AF) x from hs1).1.reg 2 (by decide)).trans (by rw [E20.out])
      go_wp2_with fail
      exact postS_mk _ rfl rfl (stage_keep (A := (stgs [QA w3 s b v c d bs nm I B t (pS Z A AF), QA w3 s b v c d bs nm (up I 6 V) B t (pS Z A AF)])) (ps := [30]) (i := 17) rfl hs)
    · obtain ⟨⟨(h11 : vals 11 = .int .i64 (Z 20 1)), t11⟩, ⟨(h17 : vals 17 = .int .i64 (Z 20 2)), t17⟩, _⟩ := hk
      simp only [h11, h17]
      clear h11 h17
      go_wp2_with fail
      exact postS_mk _ rfl rfl (stage_keep (A := (stgs [QA w3 s b v c d bs nm I B t (pS Z A AF), QA w3 s b v c d bs nm (up I 6 V) B t (pS Z A AF)])) (ps := [30]) (i := 18) rfl hs)
    · set_option maxRecDepth 20000 in
      go_wp2_with fail
      exact postS_mk _ rfl rfl (stage_keep (A := (stgs [QA w3 s b v c d bs nm I B t (pS Z A AF), QA w3 s b v c d bs nm (up I 6 V) B t (pS Z A AF)])) (ps := [30]) (i := 19) rfl hs)
    · obtain ⟨⟨(h19 : vals 19 = .pointer (some ⟨s, 0, none⟩)), t19⟩, _⟩ := hk
      simp only [h19]
      clear h19
      go_wp2_with fail
      exact postS_mk _ rfl rfl (stage_keep (A := (stgs [QA w3 s b v c d bs nm I B t (pS Z A AF), QA w3 s b v c d bs nm (up I 6 V) B t (pS Z A AF)])) (ps := [30]) (i := 20) rfl hs)
    · obtain ⟨⟨(h20 : vals 20 = .pointer (some ⟨s, 0, none⟩)), t20⟩, _⟩ := hk
      simp only [h20]
      clear h20
      go_wp2_with fail
      exact postS_mk _ rfl rfl (stage_keep (A := (stgs [QA w3 s b v c d bs nm I B t (pS Z A AF), QA w3 s b v c d bs nm (up I 6 V) B t (pS Z A AF)])) (ps := [30]) (i := 21) rfl hs)
    · obtain ⟨⟨(h21 : vals 21 = .pointer (some ⟨s, 20, none⟩)), t21⟩, _⟩ := hk
      simp only [h21]
      clear h21
      have d30 := not_yet hc hi 30 60 (by kernel_rfl)
      have hn : cntD [30] dn = 0 := by show (if dn 30 = true then 1 else 0) + 0 = 0; rw [d30]; rfl
      have hs1 := stage_at (A := (stgs [QA w3 s b v c d bs nm I B t (pS Z A AF), QA w3 s b v c d bs nm (up I 6 V) B t (pS Z A AF)])) hn hs
      have q := (show QA w3 s b v c d bs nm I B t (pS Z A AF) x from hs1).1.oper
      go_wp2_with fail
      exact postS_mk _ rfl rfl (stage_keep (A := (stgs [QA w3 s b v c d bs nm I B t (pS Z A AF), QA w3 s b v c d bs nm (up I 6 V) B t (pS Z A AF)])) (ps := [30]) (i := 22) rfl hs)
    · set_option maxRecDepth 20000 in
      go_wp2_with fail
      exact postS_mk _ rfl rfl (stage_keep (A := (stgs [QA w3 s b v c d bs nm I B t (pS Z A AF), QA w3 s b v c d bs nm (up I 6 V) B t (pS Z A AF)])) (ps := [30]) (i := 23) rfl hs)
    · obtain ⟨⟨(h5 : vals 5 = .int .i64 (I 0)), t5⟩, ⟨(h18 : vals 18 = .agg #[.int .i64 (Z 20 1), .int .i64 (Z 20 2)]), t18⟩, ⟨(h22 : vals 22 = .int .i64 (I 3)), t22⟩, ⟨(h23 : vals 23 = .int .i64 Q), t23⟩, _⟩ := hk
      simp only [h5, h18, h22, h23]
      clear h5 h18 h22 h23
      have d30 := not_yet hc hi 30 60 (by kernel_rfl)
      have hn : cntD [30] dn = 0 := by show (if dn 30 = true then 1 else 0) + 0 = 0; rw [d30]; rfl
      have hs1 := stage_at (A := (stgs [QA w3 s b v c d bs nm I B t (pS Z A AF), QA w3 s b v c d bs nm (up I 6 V) B t (pS Z A AF)])) hn hs
      have HS := hide hs
      have HS1 := hide hs1
      clear hs hs1
      go_wp2_with fail
      refine (KA.out _).mono ?_
      rintro e x2 ⟨rfl, b2⟩
      have H2 := hide (stgs_next (stab2 QA.stab QA.stab) HS.out b2)
      clear b2 HS HS1
      go_wp2_with fail
      exact postS_mk _ rfl rfl (stage_keep (A := (stgs [QA w3 s b v c d bs nm I B t (pS Z A AF), QA w3 s b v c d bs nm (up I 6 V) B t (pS Z A AF)])) (ps := [30]) (i := 24) rfl H2.out)
    · obtain ⟨⟨(h24 : vals 24 = .tuple #[.int .i64 V, .bool U]), t24⟩, _⟩ := hk
      simp only [h24]
      clear h24
      go_wp2_with fail
      exact postS_mk _ rfl rfl (stage_keep (A := (stgs [QA w3 s b v c d bs nm I B t (pS Z A AF), QA w3 s b v c d bs nm (up I 6 V) B t (pS Z A AF)])) (ps := [30]) (i := 25) rfl hs)
    · obtain ⟨⟨(h25 : vals 25 = .tuple #[.int .i64 V, .bool U]), t25⟩, _⟩ := hk
      simp only [h25]
      clear h25
      go_wp2_with fail
      exact postS_mk _ rfl rfl (stage_keep (A := (stgs [QA w3 s b v c d bs nm I B t (pS Z A AF), QA w3 s b v c d bs nm (up I 6 V) B t (pS Z A AF)])) (ps := [30]) (i := 26) rfl hs)
    · obtain ⟨⟨(h25 : vals 25 = .tuple #[.int .i64 V, .bool U]), t25⟩, _, _⟩ := hk
      simp only [h25]
      clear h25
      go_wp2_with fail
      exact postS_mk _ rfl rfl (stage_keep (A := (stgs [QA w3 s b v c d bs nm I B t (pS Z A AF), QA w3 s b v c d bs nm (up I 6 V) B t (pS Z A AF)])) (ps := [30]) (i := 27) rfl hs)
    · obtain ⟨⟨(h0 : vals 0 = .pointer (some ⟨s, 0, none⟩)), t0⟩, _, ⟨(h1 : vals 1 = .pointer (some ⟨s, 0, none⟩)), t1⟩, ⟨(h2 : vals 2 = .pointer (some ⟨s, 0, none⟩)), t2⟩, ⟨(h3 : vals 3 = .pointer (some ⟨s, 10, none⟩)), t3⟩, ⟨(h4 : vals 4 = .pointer (some ⟨s, 11, none⟩)), t4⟩, ⟨(h5 : vals 5 = .int .i64 (I 0)), t5⟩, ⟨(h6 : vals 6 = .pointer (some ⟨s, 0, none⟩)), t6⟩, ⟨(h7 : vals 7 = .pointer (some ⟨s, 0, none⟩)), t7⟩, ⟨(h8 : vals 8 = .pointer (some ⟨s, 0, none⟩)), t8⟩, ⟨(h9 : vals 9 = .pointer (some ⟨s, 0, none⟩)), t9⟩, ⟨(h10 : vals 10 = .pointer (some ⟨s, 1, none⟩)), t10⟩, ⟨(h11 : vals 11 = .int .i64 (Z 20 1)), t11⟩, ⟨(h12 : vals 12 = .pointer (some ⟨s, 0, none⟩)), t12⟩, ⟨(h13 : vals 13 = .pointer (some ⟨s, 0, none⟩)), t13⟩, ⟨(h14 : vals 14 = .pointer (some ⟨s, 0, none⟩)), t14⟩, ⟨(h15 : vals 15 = .pointer (some ⟨s, 0, none⟩)), t15⟩, ⟨(h16 : vals 16 = .pointer (some ⟨s, 2, none⟩)), t16⟩, ⟨(h17 : vals 17 = .int .i64 (Z 20 2)), t17⟩, ⟨(h18 : vals 18 = .agg #[.int .i64 (Z 20 1), .int .i64 (Z 20 2)]), t18⟩, ⟨(h19 : vals 19 = .pointer (some ⟨s, 0, none⟩)), t19⟩, ⟨(h20 : vals 20 = .pointer (some ⟨s, 0, none⟩)), t20⟩, ⟨(h21 : vals 21 = .pointer (some ⟨s, 20, none⟩)), t21⟩, ⟨(h22 : vals 22 = .int .i64 (I 3)), t22⟩, ⟨(h23 : vals 23 = .int .i64 Q), t23⟩, ⟨(h24 : vals 24 = .tuple #[.int .i64 V, .bool U]), t24⟩, ⟨(h25 : vals 25 = .tuple #[.int .i64 V, .bool U]), t25⟩, ⟨(h26 : vals 26 = .int .i64 V), t26⟩, _, _⟩ := hk
      simp only [h0]
      clear h0 h1 h2 h3 h4 h5 h6 h7 h8 h9 h10 h11 h12 h13 h14 h15 h16 h17 h18 h19 h20 h21 h22 h23 h24 h25 h26
      go_wp2_with fail
      exact postS_mk _ rfl rfl (stage_keep (A := (stgs [QA w3 s b v c d bs nm I B t (pS Z A AF), QA w3 s b v c d bs nm (up I 6 V) B t (pS Z A AF)])) (ps := [30]) (i := 28) rfl hs)
    · obtain ⟨⟨(h28 : vals 28 = .pointer (some ⟨s, 0, none⟩)), t28⟩, ⟨(h0 : vals 0 = .pointer (some ⟨s, 0, none⟩)), t0⟩, ⟨(h1 : vals 1 = .pointer (some ⟨s, 0, none⟩)), t1⟩, ⟨(h2 : vals 2 = .pointer (some ⟨s, 0, none⟩)), t2⟩, ⟨(h3 : vals 3 = .pointer (some ⟨s, 10, none⟩)), t3⟩, ⟨(h4 : vals 4 = .pointer (some ⟨s, 11, none⟩)), t4⟩, ⟨(h5 : vals 5 = .int .i64 (I 0)), t5⟩, ⟨(h6 : vals 6 = .pointer (some ⟨s, 0, none⟩)), t6⟩, ⟨(h7 : vals 7 = .pointer (some ⟨s, 0, none⟩)), t7⟩, ⟨(h8 : vals 8 = .pointer (some ⟨s, 0, none⟩)), t8⟩, ⟨(h9 : vals 9 = .pointer (some ⟨s, 0, none⟩)), t9⟩, ⟨(h10 : vals 10 = .pointer (some ⟨s, 1, none⟩)), t10⟩, ⟨(h11 : vals 11 = .int .i64 (Z 20 1)), t11⟩, ⟨(h12 : vals 12 = .pointer (some ⟨s, 0, none⟩)), t12⟩, ⟨(h13 : vals 13 = .pointer (some ⟨s, 0, none⟩)), t13⟩, ⟨(h14 : vals 14 = .pointer (some ⟨s, 0, none⟩)), t14⟩, ⟨(h15 : vals 15 = .pointer (some ⟨s, 0, none⟩)), t15⟩, ⟨(h16 : vals 16 = .pointer (some ⟨s, 2, none⟩)), t16⟩, ⟨(h17 : vals 17 = .int .i64 (Z 20 2)), t17⟩, ⟨(h18 : vals 18 = .agg #[.int .i64 (Z 20 1), .int .i64 (Z 20 2)]), t18⟩, ⟨(h19 : vals 19 = .pointer (some ⟨s, 0, none⟩)), t19⟩, ⟨(h20 : vals 20 = .pointer (some ⟨s, 0, none⟩)), t20⟩, ⟨(h21 : vals 21 = .pointer (some ⟨s, 20, none⟩)), t21⟩, ⟨(h22 : vals 22 = .int .i64 (I 3)), t22⟩, ⟨(h23 : vals 23 = .int .i64 Q), t23⟩, ⟨(h24 : vals 24 = .tuple #[.int .i64 V, .bool U]), t24⟩, ⟨(h25 : vals 25 = .tuple #[.int .i64 V, .bool U]), t25⟩, ⟨(h26 : vals 26 = .int .i64 V), t26⟩, _, _⟩ := hk
      simp only [h28]
      clear h28 h0 h1 h2 h3 h4 h5 h6 h7 h8 h9 h10 h11 h12 h13 h14 h15 h16 h17 h18 h19 h20 h21 h22 h23 h24 h25 h26
      go_wp2_with fail
      exact postS_mk _ rfl rfl (stage_keep (A := (stgs [QA w3 s b v c d bs nm I B t (pS Z A AF), QA w3 s b v c d bs nm (up I 6 V) B t (pS Z A AF)])) (ps := [30]) (i := 29) rfl hs)
    · obtain ⟨⟨(h29 : vals 29 = .pointer (some ⟨s, 23, none⟩)), t29⟩, ⟨(h26 : vals 26 = .int .i64 V), t26⟩, ⟨(h24 : vals 24 = .tuple #[.int .i64 V, .bool U]), t24⟩, ⟨(h0 : vals 0 = .pointer (some ⟨s, 0, none⟩)), t0⟩, ⟨(h1 : vals 1 = .pointer (some ⟨s, 0, none⟩)), t1⟩, ⟨(h2 : vals 2 = .pointer (some ⟨s, 0, none⟩)), t2⟩, ⟨(h3 : vals 3 = .pointer (some ⟨s, 10, none⟩)), t3⟩, ⟨(h4 : vals 4 = .pointer (some ⟨s, 11, none⟩)), t4⟩, ⟨(h5 : vals 5 = .int .i64 (I 0)), t5⟩, ⟨(h6 : vals 6 = .pointer (some ⟨s, 0, none⟩)), t6⟩, ⟨(h7 : vals 7 = .pointer (some ⟨s, 0, none⟩)), t7⟩, ⟨(h8 : vals 8 = .pointer (some ⟨s, 0, none⟩)), t8⟩, ⟨(h9 : vals 9 = .pointer (some ⟨s, 0, none⟩)), t9⟩, ⟨(h10 : vals 10 = .pointer (some ⟨s, 1, none⟩)), t10⟩, ⟨(h11 : vals 11 = .int .i64 (Z 20 1)), t11⟩, ⟨(h12 : vals 12 = .pointer (some ⟨s, 0, none⟩)), t12⟩, ⟨(h13 : vals 13 = .pointer (some ⟨s, 0, none⟩)), t13⟩, ⟨(h14 : vals 14 = .pointer (some ⟨s, 0, none⟩)), t14⟩, ⟨(h15 : vals 15 = .pointer (some ⟨s, 0, none⟩)), t15⟩, ⟨(h16 : vals 16 = .pointer (some ⟨s, 2, none⟩)), t16⟩, ⟨(h17 : vals 17 = .int .i64 (Z 20 2)), t17⟩, ⟨(h18 : vals 18 = .agg #[.int .i64 (Z 20 1), .int .i64 (Z 20 2)]), t18⟩, ⟨(h19 : vals 19 = .pointer (some ⟨s, 0, none⟩)), t19⟩, ⟨(h20 : vals 20 = .pointer (some ⟨s, 0, none⟩)), t20⟩, ⟨(h21 : vals 21 = .pointer (some ⟨s, 20, none⟩)), t21⟩, ⟨(h22 : vals 22 = .int .i64 (I 3)), t22⟩, ⟨(h23 : vals 23 = .int .i64 Q), t23⟩, _, ⟨(h25 : vals 25 = .tuple #[.int .i64 V, .bool U]), t25⟩, _, _, _⟩ := hk
      simp only [h29, h26]
      clear h29 h26 h24 h0 h1 h2 h3 h4 h5 h6 h7 h8 h9 h10 h11 h12 h13 h14 h15 h16 h17 h18 h19 h20 h21 h22 h23 h25
      have d30 := hi
      have hn : cntD [30] dn = 0 := by show (if dn 30 = true then 1 else 0) + 0 = 0; rw [d30]; rfl
      have hs1 := stage_at (A := (stgs [QA w3 s b v c d bs nm I B t (pS Z A AF), QA w3 s b v c d bs nm (up I 6 V) B t (pS Z A AF)])) hn hs
      have hn2 : cntD [30] (updD dn 30) = 1 := by show (if updD dn 30 30 = true then 1 else 0) + 0 = 1; rw [updD_same]; rfl
      have HN2 := hide hn2
      clear hn hn2 
      have q := (fun h : QA w3 s b v c d bs nm I B t (pS Z A AF) x => h.1.plac) hs1
      have z := (fun h : QA w3 s b v c d bs nm I B t (pS Z A AF) x => h.1.frz 23) hs1
      have H2 := hide ((fun h : QA w3 s b v c d bs nm I B t (pS Z A AF) x => show QA w3 s b v c d bs nm (up I 6 V) B t (pS Z A AF) _ from ⟨h.1.putI 3 (by decide) V (a := 23) rfl, eq_set h.2 23 _⟩) hs1)
      clear hs hs1
      go_wp2_with fail
      exact postS_mk _ rfl rfl (stage_of (A := (stgs [QA w3 s b v c d bs nm I B t (pS Z A AF), QA w3 s b v c d bs nm (up I 6 V) B t (pS Z A AF)])) HN2.out H2.out)
  rintro vals dn x hall hs hv
  clear hv
  have hn : cntD [30] dn = 1 := by show (if dn 30 = true then 1 else 0) + 0 = 1; rw [hall 30 (by decide)]; rfl
  have hs := stage_at (A := (stgs [QA w3 s b v c d bs nm I B t (pS Z A AF), QA w3 s b v c d bs nm (up I 6 V) B t (pS Z A AF)])) hn hs
  clear hn hall
  obtain ⟨h4, o4⟩ : QA w3 s b v c d bs nm (up I 6 V) B t (pS Z A AF) x := hs
  have H4 := hide h4
  have O4 := hide (O3.out.trans o4)
  clear h4 o4 hs
  go_wp2
  go_end0
  rw [HV.out]
  exact ⟨rfl, H4.out, O4.out⟩
end Go.Proofs.YtoijhhbiknhlnaaGreatDoor.L25
