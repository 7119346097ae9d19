/- For every number the law TimingNext of layer 14 returns true: from any tick on the next line begins where Next says, and no line ahead of that. No condition. -/
import Derived.Test.YtakacojablpfoaaTiming14
import Derived.Test.YtakacojablpfoaaStructs
namespace Go.Proofs.Ytakacojablpfoaa
open Go.ChangeShapes Go.WideShapes Go.ChangeAt Go.RowKit
open Go.ChangeMaps (open_string shut_string)
set_option linter.unusedVariables false
theorem own : ownKnob Try.prog.godebug = none := by kernel_rfl
theorem and_32 (n : Int) : bits .and .i64 n 4294967295 = n % 4294967296 := and_mask 32 (by decide) n

theorem timingNext_walk (a : Int) (w0 : (Lit.int .i64 a).wf = true) (w : World) :
    Calls Try.prog 5 #[.int .i64 a] w fun e w' => e = .returned (.bool true) ∧ Below w.heap.size w w' := by
  clear w0
  obtain ⟨t, et, t0, t1⟩ : ∃ t, bits .and .i64 a 4294967295 = t ∧ 0 ≤ t ∧ t < 4294967296 := ⟨_, and_32 a, by omega, by omega⟩
  obtain ⟨k, r, ek, er, r0, r1, hk⟩ : ∃ k r, t / 1365 = k ∧ t % 1365 = r ∧ 0 ≤ r ∧ r < 1365 ∧ t = k * 1365 + r := ⟨_, _, rfl, rfl, by omega, by omega, by omega⟩
  have C1 := hide (fun w => next_any t w t0 (by omega))
  have C2 := hide (fun w => line_any t w t0 (by omega))
  have C3 := hide (fun w => line_any (t + (1365 - r)) w (by omega) (by omega))
  have C4 := hide (fun w => line_any (t + (1365 - r) - 1) w (by omega) (by omega))
  have e1 : (t + (1365 - r)) / 1365 = k + 1 := by omega
  have e2 : (t + (1365 - r)) % 1365 = 0 := by omega
  have e3 : (t + (1365 - r) - 1) / 1365 = k := by omega
  have e4 : (t + (1365 - r) - 1) % 1365 = 1364 := by omega
  rw [er] at C1
  rw [ek, er] at C2
  rw [e1, e2] at C3
  rw [e3, e4] at C4
  have k0 : 0 ≤ k ∧ k ≤ 4294967296 := by omega
  replace hk := hk.symm
  clear e1 e2 e3 e4 ek er
  go_enter Try.func5, Try.ntmps5
  go_wp2_with fail
  refine (C1.out _).mono ?_
  rintro e w' ⟨rfl, rfl⟩
  go_wp2_with fail
  refine (C2.out _).mono ?_
  rintro e w' ⟨rfl, rfl⟩
  go_wp2_with fail
  refine (C3.out _).mono ?_
  rintro e w' ⟨rfl, rfl⟩
  go_wp2_with fail
  refine (C4.out _).mono ?_
  rintro e w' ⟨rfl, rfl⟩
  go_wp2
  go_ret
  exact ⟨rfl, Below.refl _ _⟩

set_option maxRecDepth 100000 in
theorem timingNext_lifted (os : Os) (started : os.Started) (H : Type) (enc : TypeId × Value → H) :
    ReturnsInHanded {} Try.checked os 5 .any (Rows.timingNextSpec.pre6 enc Try.prog Try.f5 Rows.timingNextRow.domain false) (Rows.timingNextSpec.post enc Try.prog Try.f5 false true false false) := by
  refine returnsInHanded_of_change (C := Try.checked) own started (by kernel_rfl) Try.func5
    (ChangeSpec.witness6 (enc := enc) (C := Try.checked) false ⟨#[], #[.int .i64 0], []⟩ 8 (by kernel_rfl) (by kernel_rfl) (by kernel_rfl) (by kernel_rfl)) ?_
  intro W base args ds gs before hval0 hW hcnd _
  have hval : ∀ (j : Nat) t v, Try.f5.params[j]? = some t → args[j]? = some v → Value.okWide Try.prog W .any base t v := hval0
  have hW' := hW
  obtain ⟨p, q, hA0, hV, rfl, hfz, hnd⟩ := hW
  have hA : DataW.TrodAll enc Try.prog W 0 (fun _ => true) true Try.f5.params.toList args.toList ds p := hA0
  rw [Try.params5] at hA hval
  obtain ⟨v0, vs0, d0, ds0, p0, q0, hargs, rfl, rfl, h0, r0⟩ := trodAll_cons hA
  obtain ⟨rfl, rfl, rfl⟩ := trodAll_nil r0
  obtain rfl : args = #[v0] := by cases args; simp_all
  obtain ⟨rfl, rfl⟩ := trodVars_none hV
  obtain ⟨a0, rfl, rfl, rfl, w0⟩ := open_int Try.underlying3 (hval 0 3 v0 rfl rfl) h0
  clear hA0 hval0
  refine (timingNext_walk a0 w0 W).mono fun e W' ⟨he, bel⟩ => ?_
  subst he
  exact ⟨_, rfl, _, _, _, [], _, [], hW', trodAll_mk1 (shut_bool Try.underlying4 _), (trodAll_cons_mk (shut_int Try.underlying3 w0) trodAll_mk0), rfl, bel.frame _, fun h => by cases h⟩

theorem timingNext_over : Rows.timingNextRow.holds Try.pinned (OpenSpec.ofChange Rows.timingNextSpec) :=
  OpenClaim.holds_of_wide 5 Try.f5 rfl rfl rfl rfl rfl rfl rfl ⟨rfl, rfl, rfl, rfl, rfl⟩ rfl rfl rfl rfl rfl (by kernel_rfl) Try.func5 (by kernel_rfl)
    (of_decide_eq_true (by kernel_rfl)) (by unfold Func.isWrapper; first | (rw [if_pos (by decide +kernel)]; kernel_rfl) | (rw [if_neg (by decide +kernel)]; exact ⟨rfl, rfl⟩))
    (fun os started H enc _ => timingNext_lifted os started H enc)

theorem timingNext_holds : Rows.TimingNextSaid := timingNext_over
#print axioms timingNext_holds
end Go.Proofs.Ytakacojablpfoaa
