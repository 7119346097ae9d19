/- RegsBack, at the landed commit: whatever numbers come in, the call returns true: a register that is written whole, within its bits, is what was written; its second byte alone brings most about. No condition but what the card says. -/
import Derived.Test.YtbgbedkmggefpaaDoorBack15
import Derived.Test.YtbgbedkmggefpaaDoorMaskLaid
import Derived.Test.YtbgbedkmggefpaaDoorArrays
import Derived.Test.YtbgbedkmggefpaaDoorTie
import Derived.Test.YtbgbedkmggefpaaDoorCards
import Derived.SevenTiedAt
import Derived.OpenShut
import Derived.ShutString
import Derived.ChangeOld
namespace Go.Proofs.YtbgbedkmggefpaaDoor
open Go.ChangeShapes Go.WideShapes Go.ChangeAt Go.RowKit
open Go.ChangeMaps (open_string shut_string)
set_option linter.unusedVariables false
theorem own : ownKnob Tryd.prog.godebug = none := by kernel_rfl

theorem brings_2 (i : Nat) (h0 : ¬ i = 0) (h2 : ¬ i = 2) : bringsOf (i : Int) 2 = 0 := by
  unfold bringsOf
  rw [if_neg (by omega), if_pos rfl, if_neg (by omega)]
theorem tmod_20 (a : Int) : ∃ t, Int.tmod a 20 = t ∧ -20 < t ∧ t < 20 ∧ Int.tmod (t + 20) 20 = a % 20 := by
  refine ⟨_, rfl, ?_, ?_, ?_⟩
  · have := Int.tmod_eq_emod (a := a) (b := 20)
    rw [this]
    split <;> omega
  · have := Int.tmod_eq_emod (a := a) (b := 20)
    rw [this]
    split <;> omega
  · have := Int.tmod_eq_emod (a := a) (b := 20)
    rw [this]
    rw [Int.tmod_eq_emod_of_nonneg (by split <;> omega)]
    split <;> omega
theorem regsBack_walk (a v : Int) (w : World) (w0 : (Lit.int .i64 a).wf = true) (w1 : (Lit.int .i64 v).wf = true) (hL : HasMask w) : Calls Tryd.prog 5 #[.int .i64 a, .int .i64 v] w fun e w' => e = .returned (.bool true) ∧ Below w.heap.size w w' := by
  clear w0 w1
  obtain ⟨t, ht, t0, t1, hk⟩ := tmod_20 a
  obtain ⟨i, hi⟩ : ∃ i : Nat, a % 20 = (i : Int) := ⟨(a % 20).toNat, by omega⟩
  have hi20 : i < 20 := by omega
  rw [hi] at hk
  have M := mk_mask i
  have hy := and_word v (mk i) M
  have m0 := M.1
  have m1 : mk i ≤ 65535 := by have := M.2; omega
  have C0 := hide (fun w => write_sel 0 (i : Int) (i : Int) (fun _ => 0) (by omega) w)
  have C1 := hide (fun w h => write_at i hi20 2 v _ _ _ _ (fun _ => 0) (.inl rfl) rfl rfl (and_word _ _ M) rfl w h)
  have C2 := hide (fun w h => write_at i hi20 3 (v / 256) (highOf (andW (lowOf 0 v) (mk i)) (v / 256)) _ (andW v (mk i)) _ (upd (fun _ => 0) i (andW (lowOf 0 v) (mk i))) (.inr rfl) (by rw [upd_same]; rfl) rfl (by rw [and_word _ _ M, whole_word v _ M]) rfl w h)
  have D1 := hide (fun w h => write_at i hi20 2 255 _ _ _ _ (fun _ => 0) (.inl rfl) rfl rfl (and_word _ _ M) rfl w h)
  have D2 := hide (fun w h => write_at i hi20 3 255 (highOf (andW (lowOf 0 255) (mk i)) 255) _ (mk i) _ (upd (fun _ => 0) i (andW (lowOf 0 255) (mk i))) (.inr rfl) (by rw [upd_same]; rfl) rfl (by rw [and_word _ _ M, whole_all i hi20]) rfl w h)
  have CI := want_index i hi20
  by_cases h0 : i = 0
  · subst h0
    exact back_0 a v t _ _ _ _ _ _ _ w hL ht t0 t1 hk hy m0 m1 (upd_same _ _ _) (upd_same _ _ _) C0 C1 C2 D1 D2 CI
  · by_cases h2 : i = 2
    · subst h2
      exact back_2 a v t _ _ _ _ _ _ _ w hL ht t0 t1 hk hy m0 m1 (upd_same _ _ _) (upd_same _ _ _) C0 C1 C2 D1 D2 CI
    · rw [brings_2 i h0 h2] at C1 D1
      exact back_no i hi20 (by simpa using h0) (by simp; omega) a v t _ _ _ _ _ _ _ w hL ht t0 t1 hk hy m0 m1 (upd_same _ _ _) (upd_same _ _ _) C0 C1 C2 D1 D2 CI

set_option maxRecDepth 100000 in
theorem regsBack_lifted (os : Os) (started : os.Started) (H : Type) (enc : TypeId × Value → H) :
    ReturnsInHanded {} Tryd.checked os 5 .any (fun w args => (Rows.regsBackSpec.pre enc Tryd.prog Tryd.f5 [] false w args ∧ laidMetH Tryd.prog laidMask w) ∧ sizedMet enc Tryd.prog Tryd.f5 (OpenSpec.ofChange Rows.regsBackSpec) false w args)
      (Rows.regsBackSpec.post enc Tryd.prog Tryd.f5 false true false false) := by
  refine returnsInHanded_of_change_and (C := Tryd.checked) (X := fun w _ => laidMetH Tryd.prog laidMask w) (fun _ _ _ hh h => h.of_heap hh) own started (by kernel_rfl) Tryd.func5
    (ChangeSpec.witness_at (enc := enc) (C := Tryd.checked) (os := os) (X := fun w _ => laidMetH Tryd.prog laidMask w) false (laidWorld os) #[.int .i64 0, .int .i64 0] 8 rfl (by kernel_rfl) (by kernel_rfl) (by kernel_rfl) (by kernel_rfl) (by kernel_rfl) (laidWorld_mask os _)) ?_
  intro W base args ds gs before hval0 hW _ _ hL _
  have hval : ∀ (j : Nat) t v, Tryd.f5.params[j]? = some t → args[j]? = some v → Value.okWide Tryd.prog W .any base t v := hval0
  have hW' := hW
  obtain ⟨p, q, hA0, hV, rfl, hfz, hnd⟩ := hW
  have hA : DataW.TrodAll enc Tryd.prog W 0 (fun _ => true) true Tryd.f5.params.toList args.toList ds p := hA0
  rw [Tryd.params5] at hA hval
  obtain ⟨v0, vs0, d0, ds0, p0, q0, hargs, rfl, rfl, h0, r0⟩ := trodAll_cons hA
  obtain ⟨v1, vs1, d1, ds1, p1, q1, rfl, rfl, rfl, h1, r1⟩ := trodAll_cons r0
  obtain ⟨rfl, rfl, rfl⟩ := trodAll_nil r1
  obtain rfl : args = #[v0, v1] := by cases args; simp_all
  obtain ⟨rfl, rfl⟩ := trodVars_none hV
  obtain ⟨a0, rfl, rfl, rfl, w0⟩ := open_int Tryd.underlying3 (hval 0 3 v0 rfl rfl) h0
  obtain ⟨a1, rfl, rfl, rfl, w1⟩ := open_int Tryd.underlying3 (hval 1 3 v1 rfl rfl) h1
  clear hA0 hval0
  refine (regsBack_walk a0 a1 W w0 w1 (laid_mask hL)).mono fun e W' ⟨he, bel⟩ => ?_
  subst he
  exact ⟨_, rfl, _, _, _, [], _, [], hW', trodAll_mk1 (shut_bool Tryd.underlying4 _), (trodAll_cons_mk (shut_int Tryd.underlying3 w0) (trodAll_cons_mk (shut_int Tryd.underlying3 w1) trodAll_mk0)), rfl, bel.frame _, fun h => by cases h⟩

theorem regsBack_over : Rows.regsBackRow.holds Tryd.pinned (OpenSpec.ofChange Rows.regsBackSpec) :=
  OpenClaim.holds_of_wide 5 Tryd.f5 rfl rfl rfl rfl rfl rfl rfl ⟨rfl, rfl, rfl, rfl, rfl⟩ rfl rfl rfl rfl rfl (by kernel_rfl) Tryd.func5 (by kernel_rfl)
    (of_decide_eq_true (by kernel_rfl)) (by unfold Func.isWrapper; first | (rw [if_pos (by decide +kernel)]; kernel_rfl) | (rw [if_neg (by decide +kernel)]; exact ⟨rfl, rfl⟩))
    (fun os started H enc _ => regsBack_lifted os started H enc)

theorem regsBack_row : Rows.RegsBackSaid := regsBack_over

theorem regsBack_holds : Rows.RegsBackCardSaid :=
  Claim7.holds_tied_plain_at .later [] [.data] true (true, "59ef52cc746e8c26c16d4abe50a86ce5d85f02911841ee7c261a6b4b0c85cb8b") false
    regsBack_row (fun _ h => by cases h) (by kernel_rfl) (fun _ h => by cases h) regsBack_row_tie rfl ⟨rfl, rfl⟩ (by kernel_rfl) rfl
    (fun f fn hf hfn => by
      obtain rfl : f = 5 := Option.some.inj ((show Tryd.prog.funcNamed "phosphor/phosphorlaw15.RegsBack" = some 5 by kernel_rfl).symm.trans hf) |>.symm
      obtain rfl : fn = Tryd.f5 := (Option.some.inj (Tryd.func5.symm.trans hfn)).symm
      exact ⟨by kernel_rfl, fun j t ht => by
        rw [Tryd.params5] at ht
        rcases j with _ | _ | j
        · obtain rfl : t = 3 := by simpa using ht.symm
          exact (show Tryd.prog.wantsStandIn 3 = false by kernel_rfl)
        · obtain rfl : t = 3 := by simpa using ht.symm
          exact (show Tryd.prog.wantsStandIn 3 = false by kernel_rfl)
        · simp at ht⟩)
    (by kernel_rfl)
#print axioms regsBack_holds
end Go.Proofs.YtbgbedkmggefpaaDoor
