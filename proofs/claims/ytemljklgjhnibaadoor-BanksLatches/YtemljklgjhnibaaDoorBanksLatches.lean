/- Behind a write to one of its four places the latch is that place's number, and the upper half shows that quarter of a banked card. -/
import Derived.Test.YtemljklgjhnibaaDoorBanks
import Derived.Test.YtemljklgjhnibaaDoorTabLaid
import Derived.Test.YtemljklgjhnibaaDoorTie
import Derived.Test.YtemljklgjhnibaaDoorCards
import Derived.SevenTiedAt
import Derived.OpenShut
import Derived.ShutString
import Derived.ChangeOld
import Derived.Below
namespace Go.Proofs.YtemljklgjhnibaaDoor
open Go.ChangeShapes Go.WideShapes Go.ChangeAt Go.RowKit
open Go.ChangeMaps (open_string shut_string)
set_option linter.unusedVariables false
theorem own : ownKnob Tryd.prog.godebug = none := by kernel_rfl

theorem and_63 (n : Int) : bits .and .i64 n 63 = n % 64 := and_mask 6 (by decide) n
theorem banksLatches_walk (a0 a1 a2 : Int) (w : World) (w0 : (Lit.int .i64 a0).wf = true) (w1 : (Lit.int .i64 a1).wf = true) (w2 : (Lit.int .i64 a2).wf = true) (hL : HasTab w) :
    Calls Tryd.prog 7 #[.int .i64 a0, .int .i64 a1, .int .i64 a2] w fun e w' => e = .returned (.bool true) ∧ Below w.heap.size w w' := by
  have HT := hide hL
  obtain ⟨k, hk⟩ : ∃ k, bits .and .i64 a1 3 = k := ⟨_, rfl⟩
  obtain ⟨p, hp⟩ : ∃ p, bits .and .i64 a2 63 = p := ⟨_, rfl⟩
  have k0 : 0 ≤ k ∧ k < 4 := by rw [← hk, and_3]; omega
  have p0 : 0 ≤ p ∧ p < 64 := by rw [← hp, and_63]; omega
  have e1 : latchOf 320 a0 (8176 + k) = k := by unfold latchOf; rw [if_pos (by omega)]; omega
  have e2 : pageOf 320 k (64 + p) = 64 + 64 * k + p := by
    unfold pageOf; rw [if_pos ⟨by decide, by omega⟩, if_neg (by omega), if_pos (by omega)]
    show 64 + 64 * (k % 4) + (64 + p) % 64 = _; omega
  have e3 : pageOf 320 k p = p := by
    unfold pageOf; rw [if_pos ⟨by decide, by omega⟩, if_pos (by omega)]
    show p % 64 = p; omega
  have e4 : latchOf 320 k 8175 = k := by unfold latchOf; rw [if_neg (by omega)]
  have e5 : latchOf 320 k 8180 = k := by unfold latchOf; rw [if_neg (by omega)]
  have e6 : latchOf 64 k 8176 = k := by unfold latchOf; rw [if_neg (by omega)]
  have c1 := hide (fun w hT => latch_any 320 a0 (8176 + k) w hT)
  have c2 := hide (fun w hT => page_any 320 k (64 + p) w hT)
  have c3 := hide (fun w hT => page_any 320 k p w hT)
  have c4 := hide (fun w hT => latch_any 320 k 8175 w hT)
  have c5 := hide (fun w hT => latch_any 320 k 8180 w hT)
  have c6 := hide (fun w hT => latch_any 64 k 8176 w hT)
  rw [e1] at c1
  rw [e2] at c2
  rw [e3] at c3
  rw [e4] at c4
  rw [e5] at c5
  rw [e6] at c6
  clear hL w0 w1 w2 e1 e2 e3 e4 e5 e6
  go_enter Tryd.func7, Tryd.ntmps7
  go_wp2_with fail
  refine (c1.out _ HT.out).mono ?_
  rintro e w1 ⟨rfl, b1⟩
  have B1 := hide b1
  clear b1
  go_wp2_with fail
  refine (c2.out _ (HT.out.next B1.out)).mono ?_
  rintro e w2 ⟨rfl, b2⟩
  have B2 := hide (bnext B1.out b2)
  clear b2 B1
  go_wp2_with fail
  refine (c3.out _ (HT.out.next B2.out)).mono ?_
  rintro e w3 ⟨rfl, b2⟩
  have B3 := hide (bnext B2.out b2)
  clear b2 B2
  go_wp2_with fail
  refine (c4.out _ (HT.out.next B3.out)).mono ?_
  rintro e w4 ⟨rfl, b2⟩
  have B4 := hide (bnext B3.out b2)
  clear b2 B3
  go_wp2_with fail
  refine (c5.out _ (HT.out.next B4.out)).mono ?_
  rintro e w5 ⟨rfl, b2⟩
  have B5 := hide (bnext B4.out b2)
  clear b2 B4
  go_wp2_with fail
  refine (c6.out _ (HT.out.next B5.out)).mono ?_
  rintro e w6 ⟨rfl, b2⟩
  have B6 := hide (bnext B5.out b2)
  clear b2 B5
  go_wp2_with fail
  go_ret
  exact ⟨rfl, B6.out⟩

set_option maxRecDepth 100000 in
theorem banksLatches_lifted (os : Os) (started : os.Started) (H : Type) (enc : TypeId × Value → H) :
    ReturnsInHanded {} Tryd.checked os 7 .any (fun w args => (Rows.banksLatchesSpec.pre enc Tryd.prog Tryd.f7 [] false w args ∧ laidMetH Tryd.prog laidTab w) ∧ sizedMet enc Tryd.prog Tryd.f7 (OpenSpec.ofChange Rows.banksLatchesSpec) false w args)
      (Rows.banksLatchesSpec.post enc Tryd.prog Tryd.f7 false true false false) := by
  refine returnsInHanded_of_change_and (C := Tryd.checked) (X := fun w _ => laidMetH Tryd.prog laidTab w) (fun _ _ _ hh h => h.of_heap hh) own started (by kernel_rfl) Tryd.func7
    (ChangeSpec.witness_at (enc := enc) (C := Tryd.checked) (os := os) (X := fun w _ => laidMetH Tryd.prog laidTab w) false (laidWorld os) #[.int .i64 0, .int .i64 0, .int .i64 0] 8 rfl (by kernel_rfl) (by kernel_rfl) (by kernel_rfl) (by kernel_rfl) (by kernel_rfl) (laidWorld_tab os _)) ?_
  intro W base args ds gs before hval0 hW _ _ hL _
  have hval : ∀ (j : Nat) t v, Tryd.f7.params[j]? = some t → args[j]? = some v → Value.okWide Tryd.prog W .any base t v := hval0
  have hW' := hW
  obtain ⟨p, q, hA0, hV, rfl, hfz, hnd⟩ := hW
  have hA : DataW.TrodAll enc Tryd.prog W 0 (fun _ => true) true Tryd.f7.params.toList args.toList ds p := hA0
  rw [Tryd.params7] at hA hval
  obtain ⟨v0, vs0, d0, ds0, p0, q0, hargs, rfl, rfl, h0, r0⟩ := trodAll_cons hA
  obtain ⟨v1, vs1, d1, ds1, p1, q1, rfl, rfl, rfl, h1, r1⟩ := trodAll_cons r0
  obtain ⟨v2, vs2, d2, ds2, p2, q2, rfl, rfl, rfl, h2, r2⟩ := trodAll_cons r1
  obtain ⟨rfl, rfl, rfl⟩ := trodAll_nil r2
  obtain rfl : args = #[v0, v1, v2] := by cases args; simp_all
  obtain ⟨rfl, rfl⟩ := trodVars_none hV
  obtain ⟨a0, rfl, rfl, rfl, w0⟩ := open_int Tryd.underlying3 (hval 0 3 v0 rfl rfl) h0
  obtain ⟨a1, rfl, rfl, rfl, w1⟩ := open_int Tryd.underlying3 (hval 1 3 v1 rfl rfl) h1
  obtain ⟨a2, rfl, rfl, rfl, w2⟩ := open_int Tryd.underlying3 (hval 2 3 v2 rfl rfl) h2
  clear hA0 hval0
  refine (banksLatches_walk a0 a1 a2 W w0 w1 w2 (laid_tab hL)).mono fun e W' ⟨he, bel⟩ => ?_
  subst he
  exact ⟨_, rfl, _, _, _, [], _, [], hW', trodAll_mk1 (shut_bool Tryd.underlying4 _), (trodAll_cons_mk (shut_int Tryd.underlying3 w0) (trodAll_cons_mk (shut_int Tryd.underlying3 w1) (trodAll_cons_mk (shut_int Tryd.underlying3 w2) trodAll_mk0))), rfl, bel.frame _, fun h => by cases h⟩

theorem banksLatches_over : Rows.banksLatchesRow.holds Tryd.pinned (OpenSpec.ofChange Rows.banksLatchesSpec) :=
  OpenClaim.holds_of_wide 7 Tryd.f7 rfl rfl rfl rfl rfl rfl rfl ⟨rfl, rfl, rfl, rfl, rfl⟩ rfl rfl rfl rfl rfl (by kernel_rfl) Tryd.func7 (by kernel_rfl)
    (of_decide_eq_true (by kernel_rfl)) (by unfold Func.isWrapper; first | (rw [if_pos (by decide +kernel)]; kernel_rfl) | (rw [if_neg (by decide +kernel)]; exact ⟨rfl, rfl⟩))
    (fun os started H enc _ => banksLatches_lifted os started H enc)

theorem banksLatches_row : Rows.BanksLatchesSaid := banksLatches_over

theorem banksLatches_holds : Rows.BanksLatchesCardSaid :=
  Claim7.holds_tied_plain_at .later [] [.data] true (true, "09638623dd0b79a456352dfdc5209dee7d5c6a873dd66b07b91f0fc533326a88") false
    banksLatches_row (fun _ h => by cases h) (by kernel_rfl) (fun _ h => by cases h) banksLatches_row_tie rfl ⟨rfl, rfl⟩ (by kernel_rfl) rfl
    (fun f fn hf hfn => by
      obtain rfl : f = 7 := Option.some.inj ((show Tryd.prog.funcNamed "phosphor/phosphorlaw04.BanksLatches" = some 7 by kernel_rfl).symm.trans hf) |>.symm
      obtain rfl : fn = Tryd.f7 := (Option.some.inj (Tryd.func7.symm.trans hfn)).symm
      exact ⟨by kernel_rfl, fun j t ht => by
        rw [Tryd.params7] at ht
        rcases j with _ | _ | _ | j
        · obtain rfl : t = 3 := by simpa using ht.symm
          exact (show Tryd.prog.wantsStandIn 3 = false by kernel_rfl)
        · obtain rfl : t = 3 := by simpa using ht.symm
          exact (show Tryd.prog.wantsStandIn 3 = false by kernel_rfl)
        · obtain rfl : t = 3 := by simpa using ht.symm
          exact (show Tryd.prog.wantsStandIn 3 = false by kernel_rfl)
        · simp at ht⟩)
    (by kernel_rfl)
#print axioms banksLatches_holds
end Go.Proofs.YtemljklgjhnibaaDoor
