/- For every three numbers the law NoiseParts of layer 21 returns true: so many steps at once, or in two parts, are alike, however many; a step more is a step. No condition. -/
import Derived.Test.YtdheciogpmegoaaJump21
import Derived.OpenShut
import Derived.ShutString
import Derived.ChangeOld
import Derived.Below
namespace Go.Proofs.Ytdheciogpmegoaa
open Go.ChangeShapes Go.WideShapes Go.ChangeAt Go.RowKit
open Go.ChangeMaps (open_string shut_string)
set_option linter.unusedVariables false
theorem own : ownKnob Try.prog.godebug = none := by kernel_rfl

theorem and_61 (n : Int) : bits .and .i64 n 2305843009213693951 = n % 2305843009213693952 := and_mask 61 (by decide) n
theorem noiseParts_walk (s a b : Int) (w0 : (Lit.int .i64 s).wf = true) (w1 : (Lit.int .i64 a).wf = true) (w2 : (Lit.int .i64 b).wf = true) (w : World) :
    Calls Try.prog 4 #[.int .i64 s, .int .i64 a, .int .i64 b] w fun e w' => e = .returned (.bool true) ∧ Below w.heap.size w w' := by
  have e1 := and_61 a
  have e2 := and_61 b
  have h1 : 0 ≤ a % 2305843009213693952 ∧ a % 2305843009213693952 < 2305843009213693952 := by omega
  have h2 : 0 ≤ b % 2305843009213693952 ∧ b % 2305843009213693952 < 2305843009213693952 := by omega
  generalize a % 2305843009213693952 = A at *
  generalize b % 2305843009213693952 = B at *
  clear w0 w1 w2
  obtain ⟨s0, s1⟩ := stOf_in s
  obtain ⟨x0, x1⟩ := jumpN_in s0 s1 A.toNat
  have eA : (A + 1).toNat = A.toNat + 1 := by omega
  have eB : (A + B).toNat = A.toNat + B.toNat := by omega
  have q1 : jumpN (stOf s) (A + B).toNat = jumpN (jumpN (stOf s) A.toNat) B.toNat := by rw [eB, jumpN_add]
  have q2 : jumpN (stOf s) (A + 1).toNat = stepN (jumpN (stOf s) A.toNat) := by rw [eA]; rfl
  have q3 := stOf_same x0 x1
  have q4 : jumpN (stOf 5) 0 = 5 := by decide
  clear eA eB s0 s1
  have HB := hide (Below.refl w.heap.size w)
  obtain ⟨X, hX⟩ : ∃ X, X = jumpN (stOf s) A.toNat := ⟨_, rfl⟩
  rw [← hX] at x0 x1 q1 q2 q3
  replace hX := hX.symm
  have y0 : (0 : Int) < ((X : Nat) : Int) := by omega
  have y1 : ((X : Nat) : Int) < 262144 := by omega
  go_enter Try.func4, Try.ntmps4
  go_wp2_with (first
    | (go_at_call 10; refine (jump_any _ _ (by omega) _).mono ?_; rintro e w1 ⟨rfl, b1⟩; replace HB := hide (bnext HB.out b1); clear b1)
    | (go_at_call 8; refine (step_any _ _).mono ?_; rintro e w1 ⟨rfl, hw⟩; subst w1))
  go_ret
  exact ⟨rfl, HB.out⟩

set_option maxRecDepth 100000 in
theorem noiseParts_lifted (os : Os) (started : os.Started) (H : Type) (enc : TypeId × Value → H) :
    ReturnsInHanded {} Try.checked os 4 .any (Rows.noisePartsSpec.pre6 enc Try.prog Try.f4 Rows.noisePartsRow.domain false) (Rows.noisePartsSpec.post enc Try.prog Try.f4 false true false false) := by
  refine returnsInHanded_of_change (C := Try.checked) own started (by kernel_rfl) Try.func4
    (ChangeSpec.witness6 (enc := enc) (C := Try.checked) false ⟨#[], #[.int .i64 0, .int .i64 0, .int .i64 0], []⟩ 8 (by kernel_rfl) (by kernel_rfl) (by kernel_rfl) (by kernel_rfl)) ?_
  intro W base args ds gs before hval0 hW hcnd _
  have hval : ∀ (j : Nat) t v, Try.f4.params[j]? = some t → args[j]? = some v → Value.okWide Try.prog W .any base t v := hval0
  have hW' := hW
  obtain ⟨p, q, hA0, hV, rfl, hfz, hnd⟩ := hW
  have hA : DataW.TrodAll enc Try.prog W 0 (fun _ => true) true Try.f4.params.toList args.toList ds p := hA0
  rw [Try.params4] at hA hval
  obtain ⟨v0, vs0, d0, ds0, p0, q0, hargs, rfl, rfl, h0, r0⟩ := trodAll_cons hA
  obtain ⟨v1, vs1, d1, ds1, p1, q1, rfl, rfl, rfl, h1, r1⟩ := trodAll_cons r0
  obtain ⟨v2, vs2, d2, ds2, p2, q2, rfl, rfl, rfl, h2, r2⟩ := trodAll_cons r1
  obtain ⟨rfl, rfl, rfl⟩ := trodAll_nil r2
  obtain rfl : args = #[v0, v1, v2] := by cases args; simp_all
  obtain ⟨rfl, rfl⟩ := trodVars_none hV
  obtain ⟨a0, rfl, rfl, rfl, w0⟩ := open_int Try.underlying3 (hval 0 3 v0 rfl rfl) h0
  obtain ⟨a1, rfl, rfl, rfl, w1⟩ := open_int Try.underlying3 (hval 1 3 v1 rfl rfl) h1
  obtain ⟨a2, rfl, rfl, rfl, w2⟩ := open_int Try.underlying3 (hval 2 3 v2 rfl rfl) h2
  clear hA0 hval0
  refine (noiseParts_walk a0 a1 a2 w0 w1 w2 W).mono fun e W' ⟨he, bel⟩ => ?_
  subst he
  exact ⟨_, rfl, _, _, _, [], _, [], hW', trodAll_mk1 (shut_bool Try.underlying4 _), (trodAll_cons_mk (shut_int Try.underlying3 w0) (trodAll_cons_mk (shut_int Try.underlying3 w1) (trodAll_cons_mk (shut_int Try.underlying3 w2) trodAll_mk0))), rfl, bel.frame _, fun h => by cases h⟩

theorem noiseParts_over : Rows.noisePartsRow.holds Try.pinned (OpenSpec.ofChange Rows.noisePartsSpec) :=
  OpenClaim.holds_of_wide 4 Try.f4 rfl rfl rfl rfl rfl rfl rfl ⟨rfl, rfl, rfl, rfl, rfl⟩ rfl rfl rfl rfl rfl (by kernel_rfl) Try.func4 (by kernel_rfl)
    (of_decide_eq_true (by kernel_rfl)) (by unfold Func.isWrapper; first | (rw [if_pos (by decide +kernel)]; kernel_rfl) | (rw [if_neg (by decide +kernel)]; exact ⟨rfl, rfl⟩))
    (fun os started H enc _ => noiseParts_lifted os started H enc)

theorem noiseParts_holds : Rows.NoisePartsSaid := noiseParts_over
#print axioms noiseParts_holds
end Go.Proofs.Ytdheciogpmegoaa
