/- For every two numbers the law BitsOnes of layer 1 returns true: a number's ones are the sum of its bits, and one more, or less, behind a bit that is turned. No condition. -/
import Derived.Test.YtbfhodkpkbpmaabBits
import Derived.Test.YtbfhodkpkbpmaabPlainBits
import Derived.OpenShut
import Derived.ShutString
import Derived.ChangeOld
import Derived.Below
namespace Go.Proofs.Ytbfhodkpkbpmaab
open Go.ChangeShapes Go.WideShapes Go.ChangeAt Go.RowKit
open Go.ChangeMaps (open_string shut_string)
set_option linter.unusedVariables false
theorem own : ownKnob Try.prog.godebug = none := by kernel_rfl

theorem bitsOnes_walk (a0 : Int) (a1 : Int) (w0 : (Lit.int .i64 a0).wf = true) (w1 : (Lit.int .i64 a1).wf = true) (w : World) :
    Calls Try.prog 3 #[.int .i64 a0, .int .i64 a1] w fun e w' => e = .returned (.bool true) ∧ Below w.heap.size w w' := by
  have e7 := ones_7
  have h0 : 0 ≤ a1 % 16 := by omega
  have h1 : a1 % 16 < 16 := by omega
  have hb := bitOf_01 a0 (a1 % 16)
  have HP := hide (fun on => onesTo_put a0 (a1 % 16) on h0 h1 16 (by omega))
  go_enter Try.func3, Try.ntmps3
  go_wp2_with fail
  simp only [and_15]
  generalize a1 % 16 = k at *
  go_loop [5, 6] (fun s i => ∃ j : Nat, j ≤ 16 ∧ i = .int .i64 j ∧ s = .int .i64 (onesTo a0 j)) (fun _ i => 16 - (intOf i).toNat)
  case atStart => exact ⟨0, Nat.zero_le _, rfl, rfl⟩
  case round =>
    obtain ⟨j, hj, rfl, rfl⟩ := hrel
    have hbj := bitOf_01 a0 j
    have hoj := onesTo_le a0 j
    by_cases hlt : j < 16
    · go_wp2_with (first | (go_at_call 4; refine (bit_any _ _ _).mono ?_; rintro e w' ⟨rfl, rfl⟩))
      go_round
      case rel => exact ⟨j + 1, by omega, by go_num, by simp only [onesTo]⟩
      case measure => simp [intOf]; omega
    · obtain rfl : j = 16 := by omega
      have hp := HP.out (bitOf a0 k == 0)
      rw [if_pos (by omega)] at hp
      have hc : bitOf a0 k = 0 ∨ bitOf a0 k = 1 := by omega
      rcases hc with hc | hc
      all_goals
        rw [hc] at hp
        simp at hp
        go_wp2_with (first | (go_at_call 4; refine (bit_any _ _ _).mono ?_; rintro e w' ⟨rfl, rfl⟩) | (go_at_call 5; refine (put_any _ _ _ _).mono ?_; rintro e w' ⟨rfl, bp⟩) | (go_at_call 6; refine (ones_any _ _).mono ?_; rintro e w' ⟨rfl, rfl⟩))
        go_ret
        exact ⟨rfl, bp⟩

set_option maxRecDepth 100000 in
theorem bitsOnes_lifted (os : Os) (started : os.Started) (H : Type) (enc : TypeId × Value → H) :
    ReturnsInHanded {} Try.checked os 3 .any (Rows.bitsOnesSpec.pre6 enc Try.prog Try.f3 Rows.bitsOnesRow.domain false) (Rows.bitsOnesSpec.post enc Try.prog Try.f3 false true false false) := by
  refine returnsInHanded_of_change (C := Try.checked) own started (by kernel_rfl) Try.func3
    (ChangeSpec.witness6 (enc := enc) (C := Try.checked) false ⟨#[], #[.int .i64 0, .int .i64 0], []⟩ 8 (by kernel_rfl) (by kernel_rfl) (by kernel_rfl) (by kernel_rfl)) ?_
  intro W base args ds gs before hval0 hW hcnd _
  have hval : ∀ (j : Nat) t v, Try.f3.params[j]? = some t → args[j]? = some v → Value.okWide Try.prog W .any base t v := hval0
  have hW' := hW
  obtain ⟨p, q, hA0, hV, rfl, hfz, hnd⟩ := hW
  have hA : DataW.TrodAll enc Try.prog W 0 (fun _ => true) true Try.f3.params.toList args.toList ds p := hA0
  rw [Try.params3] at hA hval
  obtain ⟨v0, vs0, d0, ds0, p0, q0, hargs, rfl, rfl, h0, r0⟩ := trodAll_cons hA
  obtain ⟨v1, vs1, d1, ds1, p1, q1, rfl, rfl, rfl, h1, r1⟩ := trodAll_cons r0
  obtain ⟨rfl, rfl, rfl⟩ := trodAll_nil r1
  obtain rfl : args = #[v0, v1] := by cases args; simp_all
  obtain ⟨rfl, rfl⟩ := trodVars_none hV
  obtain ⟨a0, rfl, rfl, rfl, w0⟩ := open_int Try.underlying3 (hval 0 3 v0 rfl rfl) h0
  obtain ⟨a1, rfl, rfl, rfl, w1⟩ := open_int Try.underlying3 (hval 1 3 v1 rfl rfl) h1
  clear hA0 hval0
  refine (bitsOnes_walk a0 a1 w0 w1 W).mono fun e W' ⟨he, bel⟩ => ?_
  subst he
  exact ⟨_, rfl, _, _, _, [], _, [], hW', trodAll_mk1 (shut_bool Try.underlying4 _), (trodAll_cons_mk (shut_int Try.underlying3 w0) (trodAll_cons_mk (shut_int Try.underlying3 w1) trodAll_mk0)), rfl, bel.frame _, fun h => by cases h⟩

theorem bitsOnes_over : Rows.bitsOnesRow.holds Try.pinned (OpenSpec.ofChange Rows.bitsOnesSpec) :=
  OpenClaim.holds_of_wide 3 Try.f3 rfl rfl rfl rfl rfl rfl rfl ⟨rfl, rfl, rfl, rfl, rfl⟩ rfl rfl rfl rfl rfl (by kernel_rfl) Try.func3 (by kernel_rfl)
    (of_decide_eq_true (by kernel_rfl)) (by unfold Func.isWrapper; first | (rw [if_pos (by decide +kernel)]; kernel_rfl) | (rw [if_neg (by decide +kernel)]; exact ⟨rfl, rfl⟩))
    (fun os started H enc _ => bitsOnes_lifted os started H enc)

theorem bitsOnes_holds : Rows.BitsOnesSaid := bitsOnes_over
#print axioms bitsOnes_holds
end Go.Proofs.Ytbfhodkpkbpmaab
