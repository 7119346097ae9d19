/- A plain card's pages come again and again, in their order; a split card's upper half is not its lower one. -/
import Derived.Test.YtemljklgjhnibaaDoorBanks
import Derived.Test.YtemljklgjhnibaaDoorTabLaid
import Derived.Test.YtemljklgjhnibaaDoorTie
import Derived.Test.YtemljklgjhnibaaDoorCards
import Derived.SevenTiedAt
import Derived.OpenShut
import Derived.ShutString
import Derived.ChangeOld
import Derived.Below
namespace Go.Proofs.YtemljklgjhnibaaDoor
open Go.ChangeShapes Go.WideShapes Go.ChangeAt Go.RowKit
open Go.ChangeMaps (open_string shut_string)
set_option linter.unusedVariables false
theorem own : ownKnob Tryd.prog.godebug = none := by kernel_rfl

theorem and_63 (n : Int) : bits .and .i64 n 63 = n % 64 := and_mask 6 (by decide) n
theorem and_127 (n : Int) : bits .and .i64 n 127 = n % 128 := and_mask 7 (by decide) n
theorem cases8 {k : Int} (h0 : 0 ≤ k) (h1 : k < 8) : k = 0 ∨ k = 1 ∨ k = 2 ∨ k = 3 ∨ k = 4 ∨ k = 5 ∨ k = 6 ∨ k = 7 := by omega
theorem plain_page (j : Nat) (hj : j < 8) (l p : Int) (p0 : 0 ≤ p) (p1 : p < 128) : pageOf (2 ^ j : Nat) l p = bits .and .i64 p ((2 ^ j - 1 : Nat) : Int) := by
  have hk : known ((2 ^ j : Nat) : Int) = true ∧ kindOf ((2 ^ j : Nat) : Int) = 0 := by revert hj; revert j; decide
  rw [and_mask j (by omega)]
  unfold pageOf
  rw [if_pos ⟨hk.1, p0⟩, hk.2]
  by_cases h : p < 64
  · rw [if_pos h]; rfl
  · rw [if_neg h, if_pos p1]; show 0 + _ = _; rw [Int.zero_add]; rfl
theorem banksRound_walk (a0 a1 a2 : Int) (w : World) (w0 : (Lit.int .i64 a0).wf = true) (w1 : (Lit.int .i64 a1).wf = true) (w2 : (Lit.int .i64 a2).wf = true) (hL : HasTab w) :
    Calls Tryd.prog 6 #[.int .i64 a0, .int .i64 a1, .int .i64 a2] w fun e w' => e = .returned (.bool true) ∧ Below w.heap.size w w' := by
  have HT := hide hL
  obtain ⟨p, hp⟩ : ∃ p, bits .and .i64 a2 127 = p := ⟨_, rfl⟩
  have p0 : 0 ≤ p ∧ p < 128 := by rw [← hp, and_127]; omega
  obtain ⟨m, hm⟩ : ∃ m, bits .and .i64 p 63 = m := ⟨_, rfl⟩
  have m0 : 0 ≤ m ∧ m < 64 := by rw [← hm, and_63]; omega
  have c2 := hide (fun w hT => page_any 48 a1 m w hT)
  have c3 := hide (fun w hT => page_any 48 a1 (64 + m) w hT)
  have c4 := hide (fun w hT => page_any 96 a1 m w hT)
  have c5 := hide (fun w hT => page_any 96 a1 (64 + m) w hT)
  have e2 : pageOf 48 a1 m < 32 := by
    unfold pageOf; rw [if_pos ⟨by decide, by omega⟩, if_pos (by omega)]
    show m % 32 < 32; omega
  have e3 : 32 ≤ pageOf 48 a1 (64 + m) ∧ pageOf 48 a1 (64 + m) < 48 := by
    unfold pageOf; rw [if_pos ⟨by decide, by omega⟩, if_neg (by omega), if_pos (by omega)]
    show 32 ≤ 32 + (64 + m) % 16 ∧ 32 + (64 + m) % 16 < 48; omega
  have e4 : pageOf 96 a1 m < 64 := by
    unfold pageOf; rw [if_pos ⟨by decide, by omega⟩, if_pos (by omega)]
    show m % 64 < 64; omega
  have e5 : 64 ≤ pageOf 96 a1 (64 + m) ∧ pageOf 96 a1 (64 + m) < 96 := by
    unfold pageOf; rw [if_pos ⟨by decide, by omega⟩, if_neg (by omega), if_pos (by omega)]
    show 64 ≤ 64 + (64 + m) % 32 ∧ 64 + (64 + m) % 32 < 96; omega
  generalize pageOf 48 a1 m = x2 at *
  generalize pageOf 48 a1 (64 + m) = x3 at *
  generalize pageOf 96 a1 m = x4 at *
  generalize pageOf 96 a1 (64 + m) = x5 at *
  obtain ⟨k, hk⟩ : ∃ k, bits .and .i64 a0 7 = k := ⟨_, rfl⟩
  have k0 : 0 ≤ k ∧ k < 8 := by rw [← hk, and_7]; omega
  clear hL w0 w1 w2
  rcases cases8 k0.1 k0.2 with rfl | rfl | rfl | rfl | rfl | rfl | rfl | rfl
  · skip
    have c1 := plain_page 0 (by decide) a1 p p0.1 p0.2
    have C1 := hide (fun w hT => page_any ((2 ^ 0 : Nat) : Int) a1 p w hT)
    rw [c1] at C1
    go_enter Tryd.func6, Tryd.ntmps6
    go_wp2_with fail
    refine (C1.out _ HT.out).mono ?_
    rintro e w1 ⟨rfl, b1⟩
    have B1 := hide b1
    clear b1
    go_wp2_with fail
    refine (c2.out _ (HT.out.next B1.out)).mono ?_
    rintro e w2 ⟨rfl, b2⟩
    have B2 := hide (bnext B1.out b2)
    clear b2 B1
    go_wp2_with fail
    refine (c3.out _ (HT.out.next B2.out)).mono ?_
    rintro e w3 ⟨rfl, b2⟩
    have B3 := hide (bnext B2.out b2)
    clear b2 B2
    go_wp2_with fail
    refine (c4.out _ (HT.out.next B3.out)).mono ?_
    rintro e w4 ⟨rfl, b2⟩
    have B4 := hide (bnext B3.out b2)
    clear b2 B3
    go_wp2_with fail
    refine (c5.out _ (HT.out.next B4.out)).mono ?_
    rintro e w5 ⟨rfl, b2⟩
    have B5 := hide (bnext B4.out b2)
    clear b2 B4
    go_wp2_with fail
    go_ret
    exact ⟨rfl, B5.out⟩
  · skip
    have c1 := plain_page 1 (by decide) a1 p p0.1 p0.2
    have C1 := hide (fun w hT => page_any ((2 ^ 1 : Nat) : Int) a1 p w hT)
    rw [c1] at C1
    go_enter Tryd.func6, Tryd.ntmps6
    go_wp2_with fail
    refine (C1.out _ HT.out).mono ?_
    rintro e w1 ⟨rfl, b1⟩
    have B1 := hide b1
    clear b1
    go_wp2_with fail
    refine (c2.out _ (HT.out.next B1.out)).mono ?_
    rintro e w2 ⟨rfl, b2⟩
    have B2 := hide (bnext B1.out b2)
    clear b2 B1
    go_wp2_with fail
    refine (c3.out _ (HT.out.next B2.out)).mono ?_
    rintro e w3 ⟨rfl, b2⟩
    have B3 := hide (bnext B2.out b2)
    clear b2 B2
    go_wp2_with fail
    refine (c4.out _ (HT.out.next B3.out)).mono ?_
    rintro e w4 ⟨rfl, b2⟩
    have B4 := hide (bnext B3.out b2)
    clear b2 B3
    go_wp2_with fail
    refine (c5.out _ (HT.out.next B4.out)).mono ?_
    rintro e w5 ⟨rfl, b2⟩
    have B5 := hide (bnext B4.out b2)
    clear b2 B4
    go_wp2_with fail
    go_ret
    exact ⟨rfl, B5.out⟩
  · skip
    have c1 := plain_page 2 (by decide) a1 p p0.1 p0.2
    have C1 := hide (fun w hT => page_any ((2 ^ 2 : Nat) : Int) a1 p w hT)
    rw [c1] at C1
    go_enter Tryd.func6, Tryd.ntmps6
    go_wp2_with fail
    refine (C1.out _ HT.out).mono ?_
    rintro e w1 ⟨rfl, b1⟩
    have B1 := hide b1
    clear b1
    go_wp2_with fail
    refine (c2.out _ (HT.out.next B1.out)).mono ?_
    rintro e w2 ⟨rfl, b2⟩
    have B2 := hide (bnext B1.out b2)
    clear b2 B1
    go_wp2_with fail
    refine (c3.out _ (HT.out.next B2.out)).mono ?_
    rintro e w3 ⟨rfl, b2⟩
    have B3 := hide (bnext B2.out b2)
    clear b2 B2
    go_wp2_with fail
    refine (c4.out _ (HT.out.next B3.out)).mono ?_
    rintro e w4 ⟨rfl, b2⟩
    have B4 := hide (bnext B3.out b2)
    clear b2 B3
    go_wp2_with fail
    refine (c5.out _ (HT.out.next B4.out)).mono ?_
    rintro e w5 ⟨rfl, b2⟩
    have B5 := hide (bnext B4.out b2)
    clear b2 B4
    go_wp2_with fail
    go_ret
    exact ⟨rfl, B5.out⟩
  · skip
    have c1 := plain_page 3 (by decide) a1 p p0.1 p0.2
    have C1 := hide (fun w hT => page_any ((2 ^ 3 : Nat) : Int) a1 p w hT)
    rw [c1] at C1
    go_enter Tryd.func6, Tryd.ntmps6
    go_wp2_with fail
    refine (C1.out _ HT.out).mono ?_
    rintro e w1 ⟨rfl, b1⟩
    have B1 := hide b1
    clear b1
    go_wp2_with fail
    refine (c2.out _ (HT.out.next B1.out)).mono ?_
    rintro e w2 ⟨rfl, b2⟩
    have B2 := hide (bnext B1.out b2)
    clear b2 B1
    go_wp2_with fail
    refine (c3.out _ (HT.out.next B2.out)).mono ?_
    rintro e w3 ⟨rfl, b2⟩
    have B3 := hide (bnext B2.out b2)
    clear b2 B2
    go_wp2_with fail
    refine (c4.out _ (HT.out.next B3.out)).mono ?_
    rintro e w4 ⟨rfl, b2⟩
    have B4 := hide (bnext B3.out b2)
    clear b2 B3
    go_wp2_with fail
    refine (c5.out _ (HT.out.next B4.out)).mono ?_
    rintro e w5 ⟨rfl, b2⟩
    have B5 := hide (bnext B4.out b2)
    clear b2 B4
    go_wp2_with fail
    go_ret
    exact ⟨rfl, B5.out⟩
  · skip
    have c1 := plain_page 4 (by decide) a1 p p0.1 p0.2
    have C1 := hide (fun w hT => page_any ((2 ^ 4 : Nat) : Int) a1 p w hT)
    rw [c1] at C1
    go_enter Tryd.func6, Tryd.ntmps6
    go_wp2_with fail
    refine (C1.out _ HT.out).mono ?_
    rintro e w1 ⟨rfl, b1⟩
    have B1 := hide b1
    clear b1
    go_wp2_with fail
    refine (c2.out _ (HT.out.next B1.out)).mono ?_
    rintro e w2 ⟨rfl, b2⟩
    have B2 := hide (bnext B1.out b2)
    clear b2 B1
    go_wp2_with fail
    refine (c3.out _ (HT.out.next B2.out)).mono ?_
    rintro e w3 ⟨rfl, b2⟩
    have B3 := hide (bnext B2.out b2)
    clear b2 B2
    go_wp2_with fail
    refine (c4.out _ (HT.out.next B3.out)).mono ?_
    rintro e w4 ⟨rfl, b2⟩
    have B4 := hide (bnext B3.out b2)
    clear b2 B3
    go_wp2_with fail
    refine (c5.out _ (HT.out.next B4.out)).mono ?_
    rintro e w5 ⟨rfl, b2⟩
    have B5 := hide (bnext B4.out b2)
    clear b2 B4
    go_wp2_with fail
    go_ret
    exact ⟨rfl, B5.out⟩
  · skip
    have c1 := plain_page 5 (by decide) a1 p p0.1 p0.2
    have C1 := hide (fun w hT => page_any ((2 ^ 5 : Nat) : Int) a1 p w hT)
    rw [c1] at C1
    go_enter Tryd.func6, Tryd.ntmps6
    go_wp2_with fail
    refine (C1.out _ HT.out).mono ?_
    rintro e w1 ⟨rfl, b1⟩
    have B1 := hide b1
    clear b1
    go_wp2_with fail
    refine (c2.out _ (HT.out.next B1.out)).mono ?_
    rintro e w2 ⟨rfl, b2⟩
    have B2 := hide (bnext B1.out b2)
    clear b2 B1
    go_wp2_with fail
    refine (c3.out _ (HT.out.next B2.out)).mono ?_
    rintro e w3 ⟨rfl, b2⟩
    have B3 := hide (bnext B2.out b2)
    clear b2 B2
    go_wp2_with fail
    refine (c4.out _ (HT.out.next B3.out)).mono ?_
    rintro e w4 ⟨rfl, b2⟩
    have B4 := hide (bnext B3.out b2)
    clear b2 B3
    go_wp2_with fail
    refine (c5.out _ (HT.out.next B4.out)).mono ?_
    rintro e w5 ⟨rfl, b2⟩
    have B5 := hide (bnext B4.out b2)
    clear b2 B4
    go_wp2_with fail
    go_ret
    exact ⟨rfl, B5.out⟩
  · skip
    have c1 := plain_page 6 (by decide) a1 p p0.1 p0.2
    have C1 := hide (fun w hT => page_any ((2 ^ 6 : Nat) : Int) a1 p w hT)
    rw [c1] at C1
    go_enter Tryd.func6, Tryd.ntmps6
    go_wp2_with fail
    refine (C1.out _ HT.out).mono ?_
    rintro e w1 ⟨rfl, b1⟩
    have B1 := hide b1
    clear b1
    go_wp2_with fail
    refine (c2.out _ (HT.out.next B1.out)).mono ?_
    rintro e w2 ⟨rfl, b2⟩
    have B2 := hide (bnext B1.out b2)
    clear b2 B1
    go_wp2_with fail
    refine (c3.out _ (HT.out.next B2.out)).mono ?_
    rintro e w3 ⟨rfl, b2⟩
    have B3 := hide (bnext B2.out b2)
    clear b2 B2
    go_wp2_with fail
    refine (c4.out _ (HT.out.next B3.out)).mono ?_
    rintro e w4 ⟨rfl, b2⟩
    have B4 := hide (bnext B3.out b2)
    clear b2 B3
    go_wp2_with fail
    refine (c5.out _ (HT.out.next B4.out)).mono ?_
    rintro e w5 ⟨rfl, b2⟩
    have B5 := hide (bnext B4.out b2)
    clear b2 B4
    go_wp2_with fail
    go_ret
    exact ⟨rfl, B5.out⟩
  · skip
    have c1 := plain_page 7 (by decide) a1 p p0.1 p0.2
    have C1 := hide (fun w hT => page_any ((2 ^ 7 : Nat) : Int) a1 p w hT)
    rw [c1] at C1
    go_enter Tryd.func6, Tryd.ntmps6
    go_wp2_with fail
    refine (C1.out _ HT.out).mono ?_
    rintro e w1 ⟨rfl, b1⟩
    have B1 := hide b1
    clear b1
    go_wp2_with fail
    refine (c2.out _ (HT.out.next B1.out)).mono ?_
    rintro e w2 ⟨rfl, b2⟩
    have B2 := hide (bnext B1.out b2)
    clear b2 B1
    go_wp2_with fail
    refine (c3.out _ (HT.out.next B2.out)).mono ?_
    rintro e w3 ⟨rfl, b2⟩
    have B3 := hide (bnext B2.out b2)
    clear b2 B2
    go_wp2_with fail
    refine (c4.out _ (HT.out.next B3.out)).mono ?_
    rintro e w4 ⟨rfl, b2⟩
    have B4 := hide (bnext B3.out b2)
    clear b2 B3
    go_wp2_with fail
    refine (c5.out _ (HT.out.next B4.out)).mono ?_
    rintro e w5 ⟨rfl, b2⟩
    have B5 := hide (bnext B4.out b2)
    clear b2 B4
    go_wp2_with fail
    go_ret
    exact ⟨rfl, B5.out⟩

set_option maxRecDepth 100000 in
theorem banksRound_lifted (os : Os) (started : os.Started) (H : Type) (enc : TypeId × Value → H) :
    ReturnsInHanded {} Tryd.checked os 6 .any (fun w args => (Rows.banksRoundSpec.pre enc Tryd.prog Tryd.f6 [] false w args ∧ laidMetH Tryd.prog laidTab w) ∧ sizedMet enc Tryd.prog Tryd.f6 (OpenSpec.ofChange Rows.banksRoundSpec) false w args)
      (Rows.banksRoundSpec.post enc Tryd.prog Tryd.f6 false true false false) := by
  refine returnsInHanded_of_change_and (C := Tryd.checked) (X := fun w _ => laidMetH Tryd.prog laidTab w) (fun _ _ _ hh h => h.of_heap hh) own started (by kernel_rfl) Tryd.func6
    (ChangeSpec.witness_at (enc := enc) (C := Tryd.checked) (os := os) (X := fun w _ => laidMetH Tryd.prog laidTab w) false (laidWorld os) #[.int .i64 0, .int .i64 0, .int .i64 0] 8 rfl (by kernel_rfl) (by kernel_rfl) (by kernel_rfl) (by kernel_rfl) (by kernel_rfl) (laidWorld_tab os _)) ?_
  intro W base args ds gs before hval0 hW _ _ hL _
  have hval : ∀ (j : Nat) t v, Tryd.f6.params[j]? = some t → args[j]? = some v → Value.okWide Tryd.prog W .any base t v := hval0
  have hW' := hW
  obtain ⟨p, q, hA0, hV, rfl, hfz, hnd⟩ := hW
  have hA : DataW.TrodAll enc Tryd.prog W 0 (fun _ => true) true Tryd.f6.params.toList args.toList ds p := hA0
  rw [Tryd.params6] at hA hval
  obtain ⟨v0, vs0, d0, ds0, p0, q0, hargs, rfl, rfl, h0, r0⟩ := trodAll_cons hA
  obtain ⟨v1, vs1, d1, ds1, p1, q1, rfl, rfl, rfl, h1, r1⟩ := trodAll_cons r0
  obtain ⟨v2, vs2, d2, ds2, p2, q2, rfl, rfl, rfl, h2, r2⟩ := trodAll_cons r1
  obtain ⟨rfl, rfl, rfl⟩ := trodAll_nil r2
  obtain rfl : args = #[v0, v1, v2] := by cases args; simp_all
  obtain ⟨rfl, rfl⟩ := trodVars_none hV
  obtain ⟨a0, rfl, rfl, rfl, w0⟩ := open_int Tryd.underlying3 (hval 0 3 v0 rfl rfl) h0
  obtain ⟨a1, rfl, rfl, rfl, w1⟩ := open_int Tryd.underlying3 (hval 1 3 v1 rfl rfl) h1
  obtain ⟨a2, rfl, rfl, rfl, w2⟩ := open_int Tryd.underlying3 (hval 2 3 v2 rfl rfl) h2
  clear hA0 hval0
  refine (banksRound_walk a0 a1 a2 W w0 w1 w2 (laid_tab hL)).mono fun e W' ⟨he, bel⟩ => ?_
  subst he
  exact ⟨_, rfl, _, _, _, [], _, [], hW', trodAll_mk1 (shut_bool Tryd.underlying4 _), (trodAll_cons_mk (shut_int Tryd.underlying3 w0) (trodAll_cons_mk (shut_int Tryd.underlying3 w1) (trodAll_cons_mk (shut_int Tryd.underlying3 w2) trodAll_mk0))), rfl, bel.frame _, fun h => by cases h⟩

theorem banksRound_over : Rows.banksRoundRow.holds Tryd.pinned (OpenSpec.ofChange Rows.banksRoundSpec) :=
  OpenClaim.holds_of_wide 6 Tryd.f6 rfl rfl rfl rfl rfl rfl rfl ⟨rfl, rfl, rfl, rfl, rfl⟩ rfl rfl rfl rfl rfl (by kernel_rfl) Tryd.func6 (by kernel_rfl)
    (of_decide_eq_true (by kernel_rfl)) (by unfold Func.isWrapper; first | (rw [if_pos (by decide +kernel)]; kernel_rfl) | (rw [if_neg (by decide +kernel)]; exact ⟨rfl, rfl⟩))
    (fun os started H enc _ => banksRound_lifted os started H enc)

theorem banksRound_row : Rows.BanksRoundSaid := banksRound_over

theorem banksRound_holds : Rows.BanksRoundCardSaid :=
  Claim7.holds_tied_plain_at .later [] [.data] true (true, "09638623dd0b79a456352dfdc5209dee7d5c6a873dd66b07b91f0fc533326a88") false
    banksRound_row (fun _ h => by cases h) (by kernel_rfl) (fun _ h => by cases h) banksRound_row_tie rfl ⟨rfl, rfl⟩ (by kernel_rfl) rfl
    (fun f fn hf hfn => by
      obtain rfl : f = 6 := Option.some.inj ((show Tryd.prog.funcNamed "phosphor/phosphorlaw04.BanksRound" = some 6 by kernel_rfl).symm.trans hf) |>.symm
      obtain rfl : fn = Tryd.f6 := (Option.some.inj (Tryd.func6.symm.trans hfn)).symm
      exact ⟨by kernel_rfl, fun j t ht => by
        rw [Tryd.params6] at ht
        rcases j with _ | _ | _ | j
        · obtain rfl : t = 3 := by simpa using ht.symm
          exact (show Tryd.prog.wantsStandIn 3 = false by kernel_rfl)
        · obtain rfl : t = 3 := by simpa using ht.symm
          exact (show Tryd.prog.wantsStandIn 3 = false by kernel_rfl)
        · obtain rfl : t = 3 := by simpa using ht.symm
          exact (show Tryd.prog.wantsStandIn 3 = false by kernel_rfl)
        · simp at ht⟩)
    (by kernel_rfl)
#print axioms banksRound_holds
end Go.Proofs.YtemljklgjhnibaaDoor
