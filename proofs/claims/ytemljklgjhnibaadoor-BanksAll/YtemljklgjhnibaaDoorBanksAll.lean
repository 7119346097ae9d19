/- All pages of the bus show the document's pages of a card. -/
import Derived.Test.YtemljklgjhnibaaDoorRef4
import Derived.Test.YtemljklgjhnibaaDoorPlainBanks
import Derived.Test.YtemljklgjhnibaaDoorTabLaid
import Derived.Test.YtemljklgjhnibaaDoorTie
import Derived.Test.YtemljklgjhnibaaDoorCards
import Derived.SevenTiedAt
import Derived.OpenShut
import Derived.ShutString
import Derived.ChangeOld
import Derived.Below
namespace Go.Proofs.YtemljklgjhnibaaDoor
open Go.ChangeShapes Go.WideShapes Go.ChangeAt Go.RowKit
open Go.ChangeMaps (open_string shut_string)
set_option linter.unusedVariables false
theorem own : ownKnob Tryd.prog.godebug = none := by kernel_rfl

set_option maxRecDepth 20000 in
set_option maxHeartbeats 800000 in
theorem banksAll_walk (a0 a1 : Int) (w : World) (w0 : (Lit.int .i64 a0).wf = true) (w1 : (Lit.int .i64 a1).wf = true) (hL : HasTab w) :
    Calls Tryd.prog 4 #[.int .i64 a0, .int .i64 a1] w fun e w' => e = .returned (.bool true) ∧ Below w.heap.size w w' := by
  have HT := hide hL
  obtain ⟨i, i1, i2, i3, i4⟩ := which_any a0
  obtain ⟨r, hr⟩ : ∃ r, Int.tmod a0 11 = r := ⟨_, rfl⟩
  rw [hr] at i2 i3 i4
  have hc := cards_cell i i1 w
  obtain ⟨n, hn⟩ : ∃ n, pageAt i = n := ⟨_, rfl⟩
  have kn : known n = true := by rw [← hn]; exact (known_at i i1).1
  rw [hn] at hc
  have KN := hide kn
  clear hL w0 w1 hn kn
  unfold cards11 at hc
  go_enter Tryd.func4, Tryd.ntmps4
  go_wp2_with fail
  obtain ⟨wa, hwa⟩ : ∃ wa, wa = w.alloc (.cells cards11 3) := ⟨_, rfl⟩
  unfold cards11 at hwa
  rw [← hwa]
  have BA : Hid (Below w.heap.size w wa) := hide (by rw [hwa]; exact (Below.refl _ w).alloc (Nat.le_refl _) _)
  clear hwa hc
  go_loopw [6] (fun si wr => ∃ j : Nat, j ≤ 128 ∧ si = .int .i64 (j : Int) ∧ Below w.heap.size w wr) (fun si _ => 128 - (intOf si).toNat)
  case atStart => exact ⟨0, by omega, rfl, BA.out⟩
  case round =>
    obtain ⟨j, hj, rfl, bel⟩ := hrel
    have BL := hide bel
    clear bel BA
    by_cases h : j < 128
    · have hb := page_in KN.out a1 j h
      have c1 := hide (fun w hT => page_any n a1 (j : Int) w hT)
      have c2 := hide (rpage_any n a1 (j : Int))
      generalize pageOf n a1 (j : Int) = x at *
      go_wp2_with fail
      refine (c1.out _ (HT.out.next BL.out)).mono ?_
      rintro e w2 ⟨rfl, b2⟩
      have B2 := hide (bnext BL.out b2)
      clear b2 BL
      go_wp2_with fail
      refine (c2.out _).mono ?_
      rintro e w3 ⟨rfl, hw⟩
      subst w3
      go_wp2_with fail
      go_roundw
      case rel => exact ⟨j + 1, by omega, by go_num, B2.out⟩
      case measure => simp [intOf]; omega
    · obtain rfl : j = 128 := by omega
      have c1 := hide (fun w hT => page_any n a1 128 w hT)
      rw [page_128] at c1
      go_wp2_with fail
      refine (c1.out _ (HT.out.next BL.out)).mono ?_
      rintro e w2 ⟨rfl, b2⟩
      have B2 := hide (bnext BL.out b2)
      clear b2 BL
      go_wp2_with fail
      go_ret
      exact ⟨rfl, B2.out⟩

set_option maxRecDepth 100000 in
theorem banksAll_lifted (os : Os) (started : os.Started) (H : Type) (enc : TypeId × Value → H) :
    ReturnsInHanded {} Tryd.checked os 4 .any (fun w args => (Rows.banksAllSpec.pre enc Tryd.prog Tryd.f4 [] false w args ∧ laidMetH Tryd.prog laidTab w) ∧ sizedMet enc Tryd.prog Tryd.f4 (OpenSpec.ofChange Rows.banksAllSpec) false w args)
      (Rows.banksAllSpec.post enc Tryd.prog Tryd.f4 false true false false) := by
  refine returnsInHanded_of_change_and (C := Tryd.checked) (X := fun w _ => laidMetH Tryd.prog laidTab w) (fun _ _ _ hh h => h.of_heap hh) own started (by kernel_rfl) Tryd.func4
    (ChangeSpec.witness_at (enc := enc) (C := Tryd.checked) (os := os) (X := fun w _ => laidMetH Tryd.prog laidTab w) false (laidWorld os) #[.int .i64 0, .int .i64 0] 8 rfl (by kernel_rfl) (by kernel_rfl) (by kernel_rfl) (by kernel_rfl) (by kernel_rfl) (laidWorld_tab os _)) ?_
  intro W base args ds gs before hval0 hW _ _ hL _
  have hval : ∀ (j : Nat) t v, Tryd.f4.params[j]? = some t → args[j]? = some v → Value.okWide Tryd.prog W .any base t v := hval0
  have hW' := hW
  obtain ⟨p, q, hA0, hV, rfl, hfz, hnd⟩ := hW
  have hA : DataW.TrodAll enc Tryd.prog W 0 (fun _ => true) true Tryd.f4.params.toList args.toList ds p := hA0
  rw [Tryd.params4] at hA hval
  obtain ⟨v0, vs0, d0, ds0, p0, q0, hargs, rfl, rfl, h0, r0⟩ := trodAll_cons hA
  obtain ⟨v1, vs1, d1, ds1, p1, q1, rfl, rfl, rfl, h1, r1⟩ := trodAll_cons r0
  obtain ⟨rfl, rfl, rfl⟩ := trodAll_nil r1
  obtain rfl : args = #[v0, v1] := by cases args; simp_all
  obtain ⟨rfl, rfl⟩ := trodVars_none hV
  obtain ⟨a0, rfl, rfl, rfl, w0⟩ := open_int Tryd.underlying3 (hval 0 3 v0 rfl rfl) h0
  obtain ⟨a1, rfl, rfl, rfl, w1⟩ := open_int Tryd.underlying3 (hval 1 3 v1 rfl rfl) h1
  clear hA0 hval0
  refine (banksAll_walk a0 a1 W w0 w1 (laid_tab hL)).mono fun e W' ⟨he, bel⟩ => ?_
  subst he
  exact ⟨_, rfl, _, _, _, [], _, [], hW', trodAll_mk1 (shut_bool Tryd.underlying4 _), (trodAll_cons_mk (shut_int Tryd.underlying3 w0) (trodAll_cons_mk (shut_int Tryd.underlying3 w1) trodAll_mk0)), rfl, bel.frame _, fun h => by cases h⟩

theorem banksAll_over : Rows.banksAllRow.holds Tryd.pinned (OpenSpec.ofChange Rows.banksAllSpec) :=
  OpenClaim.holds_of_wide 4 Tryd.f4 rfl rfl rfl rfl rfl rfl rfl ⟨rfl, rfl, rfl, rfl, rfl⟩ rfl rfl rfl rfl rfl (by kernel_rfl) Tryd.func4 (by kernel_rfl)
    (of_decide_eq_true (by kernel_rfl)) (by unfold Func.isWrapper; first | (rw [if_pos (by decide +kernel)]; kernel_rfl) | (rw [if_neg (by decide +kernel)]; exact ⟨rfl, rfl⟩))
    (fun os started H enc _ => banksAll_lifted os started H enc)

theorem banksAll_row : Rows.BanksAllSaid := banksAll_over

theorem banksAll_holds : Rows.BanksAllCardSaid :=
  Claim7.holds_tied_plain_at .later [] [.data] true (true, "09638623dd0b79a456352dfdc5209dee7d5c6a873dd66b07b91f0fc533326a88") false
    banksAll_row (fun _ h => by cases h) (by kernel_rfl) (fun _ h => by cases h) banksAll_row_tie rfl ⟨rfl, rfl⟩ (by kernel_rfl) rfl
    (fun f fn hf hfn => by
      obtain rfl : f = 4 := Option.some.inj ((show Tryd.prog.funcNamed "phosphor/phosphorlaw04.BanksAll" = some 4 by kernel_rfl).symm.trans hf) |>.symm
      obtain rfl : fn = Tryd.f4 := (Option.some.inj (Tryd.func4.symm.trans hfn)).symm
      exact ⟨by kernel_rfl, fun j t ht => by
        rw [Tryd.params4] at ht
        rcases j with _ | _ | j
        · obtain rfl : t = 3 := by simpa using ht.symm
          exact (show Tryd.prog.wantsStandIn 3 = false by kernel_rfl)
        · obtain rfl : t = 3 := by simpa using ht.symm
          exact (show Tryd.prog.wantsStandIn 3 = false by kernel_rfl)
        · simp at ht⟩)
    (by kernel_rfl)
#print axioms banksAll_holds
end Go.Proofs.YtemljklgjhnibaaDoor
