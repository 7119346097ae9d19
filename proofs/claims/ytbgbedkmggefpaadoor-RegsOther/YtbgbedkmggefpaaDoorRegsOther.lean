/- RegsOther, at the landed commit: whatever registers and numbers come in, the call returns true: a write at another port, or where no register is chosen, changes nothing and brings nothing about. No condition but what the card says. -/
import Derived.Test.YtbgbedkmggefpaaDoorOth15a
import Derived.Test.YtbgbedkmggefpaaDoorOth15b
import Derived.Test.YtbgbedkmggefpaaDoorOpen15
import Derived.Test.YtbgbedkmggefpaaDoorMaskLaid
import Derived.Test.YtbgbedkmggefpaaDoorTie
import Derived.Test.YtbgbedkmggefpaaDoorCards
import Derived.SevenTiedAt
import Derived.OpenShut
import Derived.ShutString
import Derived.ChangeOld
namespace Go.Proofs.YtbgbedkmggefpaaDoor
open Go.ChangeShapes Go.WideShapes Go.ChangeAt Go.RowKit
open Go.ChangeMaps (open_string shut_string)
set_option linter.unusedVariables false
theorem own : ownKnob Tryd.prog.godebug = none := by kernel_rfl

theorem regsOther_walk (s : Int) (f : Nat → Int) (a b : Int) (w : World) (w0 : (Lit.int .i64 s).wf = true) (g0 : ∀ j, j < 20 → (Lit.int .i64 (f j)).wf = true) (w1 : (Lit.int .i64 a).wf = true) (w2 : (Lit.int .i64 b).wf = true) (hL : HasMask w) : Calls Tryd.prog 6 #[.agg (rowG s f), .int .i64 a, .int .i64 b] w fun e w' => e = .returned (.bool true) ∧ Below w.heap.size w w' := by
  clear w0 g0 w1 w2 hL
  have k7 := and_7 b
  have k31 := and_31 b
  have I := hide (info_T f)
  have R := hide (fun (w : World) (b : Nat) (s : Int) (h : HasG 24 w b s f) => h.range)
  have BU := hide (built_both (20 + b % 8) f)
  have E := hide (eqT_self f)
  have hn : bits .and .i64 b 7 = (20 + b % 8) - 20 := by rw [k7]; omega
  have n0 : 20 ≤ 20 + b % 8 := by omega
  have n1 : 20 + b % 8 < 28 := by omega
  have C2 := hide (fun w => write_no 2 (20 + b % 8) b f ⟨by decide, fun _ => .inr n0⟩ w)
  have C3 := hide (fun w => write_no 3 (20 + b % 8) b f ⟨by decide, fun _ => .inr n0⟩ w)
  have C0 := hide (fun w => write_sel s b (b % 32) f rfl w)
  have C1 := hide (fun w => write_no 1 s b f ⟨by decide, fun h => by omega⟩ w)
  by_cases h0 : a = 0
  · subst h0
    exact other_0 1 rfl s b _ _ f w _ R E I BU hn n0 n1 k31 C1 C2 C3 C0
  · by_cases h2 : a = 2
    · subst h2
      exact other_2 1 rfl s b _ _ f w _ R E I BU hn n0 n1 k31 C1 C2 C3 C0
    · by_cases h3 : a = 3
      · subst h3
        exact other_3 1 rfl s b _ _ f w _ R E I BU hn n0 n1 k31 C1 C2 C3 C0
      · have C1 := hide (fun w => write_no a s b f ⟨h0, fun h => by omega⟩ w)
        exact other_no a s b _ _ f w _ R E I BU hn n0 n1 k31 (by simpa using h0) (by simpa using h2) (by simpa using h3) C1 C2 C3 C0

set_option maxRecDepth 100000 in
theorem regsOther_lifted (os : Os) (started : os.Started) (H : Type) (enc : TypeId × Value → H) :
    ReturnsInHanded {} Tryd.checked os 6 .any (fun w args => (Rows.regsOtherSpec.pre enc Tryd.prog Tryd.f6 [] false w args ∧ laidMetH Tryd.prog laidMask w) ∧ sizedMet enc Tryd.prog Tryd.f6 (OpenSpec.ofChange Rows.regsOtherSpec) false w args)
      (Rows.regsOtherSpec.post enc Tryd.prog Tryd.f6 false true false false) := by
  refine returnsInHanded_of_change_and (C := Tryd.checked) (X := fun w _ => laidMetH Tryd.prog laidMask w) (fun _ _ _ hh h => h.of_heap hh) own started (by kernel_rfl) Tryd.func6
    (ChangeSpec.witness_at (enc := enc) (C := Tryd.checked) (os := os) (X := fun w _ => laidMetH Tryd.prog laidMask w) false (laidWorld os) #[.agg #[.int .i64 0, .int .i64 0, .int .i64 0, .int .i64 0, .int .i64 0, .int .i64 0, .int .i64 0, .int .i64 0, .int .i64 0, .int .i64 0, .int .i64 0, .int .i64 0, .int .i64 0, .int .i64 0, .int .i64 0, .int .i64 0, .int .i64 0, .int .i64 0, .int .i64 0, .int .i64 0, .int .i64 0], .int .i64 0, .int .i64 0] 8 rfl (by kernel_rfl) (by kernel_rfl) (by kernel_rfl) (by kernel_rfl) (by kernel_rfl) (laidWorld_mask os _)) ?_
  intro W base args ds gs before hval0 hW _ _ hL _
  have hval : ∀ (j : Nat) t v, Tryd.f6.params[j]? = some t → args[j]? = some v → Value.okWide Tryd.prog W .any base t v := hval0
  have hW' := hW
  obtain ⟨p, q, hA0, hV, rfl, hfz, hnd⟩ := hW
  have hA : DataW.TrodAll enc Tryd.prog W 0 (fun _ => true) true Tryd.f6.params.toList args.toList ds p := hA0
  rw [Tryd.params6] at hA hval
  obtain ⟨v0, vs0, d0, ds0, p0, q0, hargs, rfl, rfl, h0, r0⟩ := trodAll_cons hA
  obtain ⟨v1, vs1, d1, ds1, p1, q1, rfl, rfl, rfl, h1, r1⟩ := trodAll_cons r0
  obtain ⟨v2, vs2, d2, ds2, p2, q2, rfl, rfl, rfl, h2, r2⟩ := trodAll_cons r1
  obtain ⟨rfl, rfl, rfl⟩ := trodAll_nil r2
  obtain rfl : args = #[v0, v1, v2] := by cases args; simp_all
  obtain ⟨rfl, rfl⟩ := trodVars_none hV
  have k0 := h0
  have lt0 : ∀ x ∈ p0, x.block < W.heap.size := by obtain ⟨m, hm⟩ := k0; exact DataW.trod_lt m _ _ _ hm
  obtain ⟨s0, f0, rfl, w0, g0⟩ := open_regs Tryd.underlying24 (by kernel_rfl) rfl rfl Tryd.underlying3 (by kernel_rfl) rfl rfl Tryd.underlying22 (by kernel_rfl) Tryd.underlying3 (by kernel_rfl) (hval 0 24 v0 rfl rfl) h0
  obtain ⟨a1, rfl, rfl, rfl, w1⟩ := open_int Tryd.underlying3 (hval 1 3 v1 rfl rfl) h1
  obtain ⟨a2, rfl, rfl, rfl, w2⟩ := open_int Tryd.underlying3 (hval 2 3 v2 rfl rfl) h2
  clear hA0 hval0
  refine (regsOther_walk s0 f0 a1 a2 W w0 g0 w1 w2 (laid_mask hL)).mono fun e W' ⟨he, bel⟩ => ?_
  subst he
  exact ⟨_, rfl, _, _, _, [], _, [], hW', trodAll_mk1 (shut_bool Tryd.underlying4 _), (trodAll_cons_mk (Below.trod laidOut (by kernel_rfl) (of_decide_eq_true (by kernel_rfl)) k0 bel lt0) (trodAll_cons_mk (shut_int Tryd.underlying3 w1) (trodAll_cons_mk (shut_int Tryd.underlying3 w2) trodAll_mk0))), rfl, bel.frame _, fun h => by cases h⟩

theorem regsOther_over : Rows.regsOtherRow.holds Tryd.pinned (OpenSpec.ofChange Rows.regsOtherSpec) :=
  OpenClaim.holds_of_wide 6 Tryd.f6 rfl rfl rfl rfl rfl rfl rfl ⟨rfl, rfl, rfl, rfl, rfl⟩ rfl rfl rfl rfl rfl (by kernel_rfl) Tryd.func6 (by kernel_rfl)
    (of_decide_eq_true (by kernel_rfl)) (by unfold Func.isWrapper; first | (rw [if_pos (by decide +kernel)]; kernel_rfl) | (rw [if_neg (by decide +kernel)]; exact ⟨rfl, rfl⟩))
    (fun os started H enc _ => regsOther_lifted os started H enc)

theorem regsOther_row : Rows.RegsOtherSaid := regsOther_over

theorem regsOther_holds : Rows.RegsOtherCardSaid :=
  Claim7.holds_tied_plain_at .later [] [.data] true (true, "59ef52cc746e8c26c16d4abe50a86ce5d85f02911841ee7c261a6b4b0c85cb8b") false
    regsOther_row (fun _ h => by cases h) (by kernel_rfl) (fun _ h => by cases h) regsOther_row_tie rfl ⟨rfl, rfl⟩ (by kernel_rfl) rfl
    (fun f fn hf hfn => by
      obtain rfl : f = 6 := Option.some.inj ((show Tryd.prog.funcNamed "phosphor/phosphorlaw15.RegsOther" = some 6 by kernel_rfl).symm.trans hf) |>.symm
      obtain rfl : fn = Tryd.f6 := (Option.some.inj (Tryd.func6.symm.trans hfn)).symm
      exact ⟨by kernel_rfl, fun j t ht => by
        rw [Tryd.params6] at ht
        rcases j with _ | _ | _ | j
        · obtain rfl : t = 24 := by simpa using ht.symm
          exact (show Tryd.prog.wantsStandIn 24 = false by kernel_rfl)
        · obtain rfl : t = 3 := by simpa using ht.symm
          exact (show Tryd.prog.wantsStandIn 3 = false by kernel_rfl)
        · obtain rfl : t = 3 := by simpa using ht.symm
          exact (show Tryd.prog.wantsStandIn 3 = false by kernel_rfl)
        · simp at ht⟩)
    (by kernel_rfl)
#print axioms regsOther_holds
end Go.Proofs.YtbgbedkmggefpaaDoor
