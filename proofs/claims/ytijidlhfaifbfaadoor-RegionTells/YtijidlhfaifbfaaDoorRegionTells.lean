/- Any number is the document's place on the bus, as slow, and held, as it says. -/
import Derived.Test.YtijidlhfaifbfaaDoorRef6
import Derived.Test.YtijidlhfaifbfaaDoorRegLaid
import Derived.Test.YtijidlhfaifbfaaDoorTie
import Derived.Test.YtijidlhfaifbfaaDoorCards
import Derived.SevenTiedAt
import Derived.OpenShut
import Derived.ShutString
import Derived.ChangeOld
import Derived.Below
namespace Go.Proofs.YtijidlhfaifbfaaDoor
open Go.ChangeShapes Go.WideShapes Go.ChangeAt Go.RowKit
open Go.ChangeMaps (open_string shut_string)
set_option linter.unusedVariables false
theorem own : ownKnob Tryd.prog.godebug = none := by kernel_rfl

set_option maxRecDepth 20000 in
theorem regionTells_walk (a0 a1 : Int) (w : World) (w0 : (Lit.int .i64 a0).wf = true) (w1 : (Lit.int .i64 a1).wf = true) (hL : HasPorts w) :
    Calls Tryd.prog 3 #[.int .i64 a0, .int .i64 a1] w fun e w' => e = .returned (.bool true) ∧ Below w.heap.size w w' := by
  have HT := hide hL
  have c1 := hide (rwhere_any a0)
  have c2 := hide (fun w hT => where_any a0 w hT)
  have c3 := hide (slow_any a1)
  have c4 := hide (held_any a1)
  have d5 : ∀ w, HasPorts w → Calls Tryd.prog 8 #[.int .i64 2089986] w fun e w' => e = .returned (.agg #[.int .i64 3, .int .i64 0, .int .i64 2]) ∧ Below w.heap.size w w' := fun w hT => where_any 2089986 w hT
  have c5 := hide d5
  clear d5
  have es : slowK a1 = if a1 = 2 ∨ a1 = 3 then 1 else 0 := rfl
  have pk := fun x y z w => place_kind x y z w
  clear hL w0 w1
  generalize kindW a0 = x at *
  generalize pageW a0 = y at *
  generalize atW a0 = z at *
  generalize slowK a1 = s at *
  by_cases h2 : a1 = 2
  · subst h2
    have es2 : s = 1 := es
    clear es
    subst s
    rw [show decide (4 ≤ (2 : Int) ∧ (2 : Int) ≤ 7) = false from rfl] at c4
    go_enter Tryd.func3, Tryd.ntmps3
    go_wp2_with fail
    refine (c1.out _).mono ?_
    rintro e w1 ⟨rfl, hw⟩
    subst w1
    go_wp2_with fail
    refine (c2.out _ HT.out).mono ?_
    rintro e w1 ⟨rfl, b1⟩
    have B1 := hide b1
    clear b1
    go_wp2_with fail
    refine (c3.out _).mono ?_
    rintro e w2 ⟨rfl, hw⟩
    subst w2
    go_wp2_with fail
    refine (c4.out _).mono ?_
    rintro e w2 ⟨rfl, hw⟩
    subst w2
    go_wp2_with fail
    refine (c5.out _ (HT.out.next B1.out)).mono ?_
    rintro e w2 ⟨rfl, b2⟩
    go_wp2_with fail
    go_ret
    exact ⟨rfl, bnext B1.out b2⟩
  · by_cases h3 : a1 = 3
    · subst h3
      have es2 : s = 1 := es
      clear es
      subst s
      rw [show decide (4 ≤ (3 : Int) ∧ (3 : Int) ≤ 7) = false from rfl] at c4
      go_enter Tryd.func3, Tryd.ntmps3
      go_wp2_with fail
      refine (c1.out _).mono ?_
      rintro e w1 ⟨rfl, hw⟩
      subst w1
      go_wp2_with fail
      refine (c2.out _ HT.out).mono ?_
      rintro e w1 ⟨rfl, b1⟩
      have B1 := hide b1
      clear b1
      go_wp2_with fail
      refine (c3.out _).mono ?_
      rintro e w2 ⟨rfl, hw⟩
      subst w2
      go_wp2_with fail
      refine (c4.out _).mono ?_
      rintro e w2 ⟨rfl, hw⟩
      subst w2
      go_wp2_with fail
      refine (c5.out _ (HT.out.next B1.out)).mono ?_
      rintro e w2 ⟨rfl, b2⟩
      go_wp2_with fail
      go_ret
      exact ⟨rfl, bnext B1.out b2⟩
    · rw [if_neg (by omega)] at es
      subst s
      have b2 : (a1 == 2) = false := by simpa using h2
      have b3 : (a1 == 3) = false := by simpa using h3
      clear h2 h3
      by_cases h4 : 4 ≤ a1
      · by_cases h5 : a1 ≤ 7
        · rw [show decide (4 ≤ a1 ∧ a1 ≤ 7) = true from decide_eq_true ⟨h4, h5⟩] at c4
          go_enter Tryd.func3, Tryd.ntmps3
          go_wp2_with fail
          refine (c1.out _).mono ?_
          rintro e w1 ⟨rfl, hw⟩
          subst w1
          go_wp2_with fail
          refine (c2.out _ HT.out).mono ?_
          rintro e w1 ⟨rfl, b1⟩
          have B1 := hide b1
          clear b1
          go_wp2_with fail
          refine (c3.out _).mono ?_
          rintro e w2 ⟨rfl, hw⟩
          subst w2
          go_wp2_with fail
          refine (c4.out _).mono ?_
          rintro e w2 ⟨rfl, hw⟩
          subst w2
          go_wp2_with fail
          refine (c5.out _ (HT.out.next B1.out)).mono ?_
          rintro e w2 ⟨rfl, b2⟩
          go_wp2_with fail
          go_ret
          exact ⟨rfl, bnext B1.out b2⟩
        · rw [show decide (4 ≤ a1 ∧ a1 ≤ 7) = false from decide_eq_false (by omega)] at c4
          have h6 : decide (a1 ≤ 7) = false := decide_eq_false h5
          go_enter Tryd.func3, Tryd.ntmps3
          go_wp2_with fail
          refine (c1.out _).mono ?_
          rintro e w1 ⟨rfl, hw⟩
          subst w1
          go_wp2_with fail
          refine (c2.out _ HT.out).mono ?_
          rintro e w1 ⟨rfl, b1⟩
          have B1 := hide b1
          clear b1
          go_wp2_with fail
          refine (c3.out _).mono ?_
          rintro e w2 ⟨rfl, hw⟩
          subst w2
          go_wp2_with fail
          refine (c4.out _).mono ?_
          rintro e w2 ⟨rfl, hw⟩
          subst w2
          go_wp2_with fail
          refine (c5.out _ (HT.out.next B1.out)).mono ?_
          rintro e w2 ⟨rfl, b2⟩
          go_wp2_with fail
          go_ret
          exact ⟨rfl, bnext B1.out b2⟩
      · rw [show decide (4 ≤ a1 ∧ a1 ≤ 7) = false from decide_eq_false (by omega)] at c4
        go_enter Tryd.func3, Tryd.ntmps3
        go_wp2_with fail
        refine (c1.out _).mono ?_
        rintro e w1 ⟨rfl, hw⟩
        subst w1
        go_wp2_with fail
        refine (c2.out _ HT.out).mono ?_
        rintro e w1 ⟨rfl, b1⟩
        have B1 := hide b1
        clear b1
        go_wp2_with fail
        refine (c3.out _).mono ?_
        rintro e w2 ⟨rfl, hw⟩
        subst w2
        go_wp2_with fail
        refine (c4.out _).mono ?_
        rintro e w2 ⟨rfl, hw⟩
        subst w2
        go_wp2_with fail
        refine (c5.out _ (HT.out.next B1.out)).mono ?_
        rintro e w2 ⟨rfl, b2⟩
        go_wp2_with fail
        go_ret
        exact ⟨rfl, bnext B1.out b2⟩

set_option maxRecDepth 100000 in
theorem regionTells_lifted (os : Os) (started : os.Started) (H : Type) (enc : TypeId × Value → H) :
    ReturnsInHanded {} Tryd.checked os 3 .any (fun w args => (Rows.regionTellsSpec.pre enc Tryd.prog Tryd.f3 [] false w args ∧ laidMetH Tryd.prog laidReg w) ∧ sizedMet enc Tryd.prog Tryd.f3 (OpenSpec.ofChange Rows.regionTellsSpec) false w args)
      (Rows.regionTellsSpec.post enc Tryd.prog Tryd.f3 false true false false) := by
  refine returnsInHanded_of_change_and (C := Tryd.checked) (X := fun w _ => laidMetH Tryd.prog laidReg w) (fun _ _ _ hh h => h.of_heap hh) own started (by kernel_rfl) Tryd.func3
    (ChangeSpec.witness_at (enc := enc) (C := Tryd.checked) (os := os) (X := fun w _ => laidMetH Tryd.prog laidReg w) false (laidWorld os) #[.int .i64 0, .int .i64 0] 8 rfl (by kernel_rfl) (by kernel_rfl) (by kernel_rfl) (by kernel_rfl) (by kernel_rfl) (laidWorld_reg os _)) ?_
  intro W base args ds gs before hval0 hW _ _ hL _
  have hval : ∀ (j : Nat) t v, Tryd.f3.params[j]? = some t → args[j]? = some v → Value.okWide Tryd.prog W .any base t v := hval0
  have hW' := hW
  obtain ⟨p, q, hA0, hV, rfl, hfz, hnd⟩ := hW
  have hA : DataW.TrodAll enc Tryd.prog W 0 (fun _ => true) true Tryd.f3.params.toList args.toList ds p := hA0
  rw [Tryd.params3] at hA hval
  obtain ⟨v0, vs0, d0, ds0, p0, q0, hargs, rfl, rfl, h0, r0⟩ := trodAll_cons hA
  obtain ⟨v1, vs1, d1, ds1, p1, q1, rfl, rfl, rfl, h1, r1⟩ := trodAll_cons r0
  obtain ⟨rfl, rfl, rfl⟩ := trodAll_nil r1
  obtain rfl : args = #[v0, v1] := by cases args; simp_all
  obtain ⟨rfl, rfl⟩ := trodVars_none hV
  obtain ⟨a0, rfl, rfl, rfl, w0⟩ := open_int Tryd.underlying3 (hval 0 3 v0 rfl rfl) h0
  obtain ⟨a1, rfl, rfl, rfl, w1⟩ := open_int Tryd.underlying3 (hval 1 3 v1 rfl rfl) h1
  clear hA0 hval0
  refine (regionTells_walk a0 a1 W w0 w1 (laid_reg hL)).mono fun e W' ⟨he, bel⟩ => ?_
  subst he
  exact ⟨_, rfl, _, _, _, [], _, [], hW', trodAll_mk1 (shut_bool Tryd.underlying4 _), (trodAll_cons_mk (shut_int Tryd.underlying3 w0) (trodAll_cons_mk (shut_int Tryd.underlying3 w1) trodAll_mk0)), rfl, bel.frame _, fun h => by cases h⟩

theorem regionTells_over : Rows.regionTellsRow.holds Tryd.pinned (OpenSpec.ofChange Rows.regionTellsSpec) :=
  OpenClaim.holds_of_wide 3 Tryd.f3 rfl rfl rfl rfl rfl rfl rfl ⟨rfl, rfl, rfl, rfl, rfl⟩ rfl rfl rfl rfl rfl (by kernel_rfl) Tryd.func3 (by kernel_rfl)
    (of_decide_eq_true (by kernel_rfl)) (by unfold Func.isWrapper; first | (rw [if_pos (by decide +kernel)]; kernel_rfl) | (rw [if_neg (by decide +kernel)]; exact ⟨rfl, rfl⟩))
    (fun os started H enc _ => regionTells_lifted os started H enc)

theorem regionTells_row : Rows.RegionTellsSaid := regionTells_over

theorem regionTells_holds : Rows.RegionTellsCardSaid :=
  Claim7.holds_tied_plain_at .later [] [.data] true (true, "65727b1b36d0c9c5ed185f47aec5976cd43f872a9dff037c22ecfb625d67ab03") false
    regionTells_row (fun _ h => by cases h) (by kernel_rfl) (fun _ h => by cases h) regionTells_row_tie rfl ⟨rfl, rfl⟩ (by kernel_rfl) rfl
    (fun f fn hf hfn => by
      obtain rfl : f = 3 := Option.some.inj ((show Tryd.prog.funcNamed "phosphor/phosphorlaw06.RegionTells" = some 3 by kernel_rfl).symm.trans hf) |>.symm
      obtain rfl : fn = Tryd.f3 := (Option.some.inj (Tryd.func3.symm.trans hfn)).symm
      exact ⟨by kernel_rfl, fun j t ht => by
        rw [Tryd.params3] at ht
        rcases j with _ | _ | j
        · obtain rfl : t = 3 := by simpa using ht.symm
          exact (show Tryd.prog.wantsStandIn 3 = false by kernel_rfl)
        · obtain rfl : t = 3 := by simpa using ht.symm
          exact (show Tryd.prog.wantsStandIn 3 = false by kernel_rfl)
        · simp at ht⟩)
    (by kernel_rfl)
#print axioms regionTells_holds
end Go.Proofs.YtijidlhfaifbfaaDoor
