/- For every two numbers the law NoiseApart of layer 21 returns true: two states that are not alike do not step to the same. No condition. -/
import Derived.Test.YtdheciogpmegoaaStep21
import Derived.OpenShut
import Derived.ShutString
import Derived.ChangeOld
import Derived.Below
namespace Go.Proofs.Ytdheciogpmegoaa
open Go.ChangeShapes Go.WideShapes Go.ChangeAt Go.RowKit
open Go.ChangeMaps (open_string shut_string)
set_option linter.unusedVariables false
theorem own : ownKnob Try.prog.godebug = none := by kernel_rfl

theorem and_131071 (n : Int) : bits .and .i64 n 131071 = n % 131072 := and_mask 17 (by decide) n
theorem noiseApart_walk (s t : Int) (w0 : (Lit.int .i64 s).wf = true) (w1 : (Lit.int .i64 t).wf = true) (w : World) :
    Calls Try.prog 5 #[.int .i64 s, .int .i64 t] w fun e w' => e = .returned (.bool true) ∧ Below w.heap.size w w' := by
  have e1 := and_131071 s
  have e2 := and_131071 t
  have h1 : 0 ≤ s % 131072 ∧ s % 131072 < 131072 := by omega
  have h2 : 0 ≤ t % 131072 ∧ t % 131072 < 131072 := by omega
  generalize s % 131072 = x at *
  generalize t % 131072 = y at *
  obtain ⟨a, ha⟩ : ∃ a : Int, a = (stepN (stOf (1 + x)) : Nat) := ⟨_, rfl⟩
  obtain ⟨b, hb⟩ : ∃ b : Int, b = (stepN (stOf (1 + y)) : Nat) := ⟨_, rfl⟩
  have k : a = b ↔ x = y := by
    rw [ha, hb]
    constructor
    · intro h
      have h3 := stepN_inj (stOf_in (1 + x)).2 (stOf_in (1 + y)).2 (by omega)
      unfold stOf at h3
      rw [if_neg (by omega), if_neg (by omega)] at h3
      omega
    · rintro rfl
      rfl
  have o1 : 31 * (((stOf 1 : Nat) : Int) % 2) = 31 := by decide
  have o2 : 31 * (((stOf 2 : Nat) : Int) % 2) = 0 := by decide
  have HA := hide ha.symm
  have HB := hide hb.symm
  clear ha hb
  by_cases h : x = y
  · have k1 : a = b := k.2 h
    clear k
    subst h
    subst k1
    go_enter Try.func5, Try.ntmps5
    go_wp2_with (first
      | (go_at_call 8; refine (step_any _ _).mono ?_; rintro e w' ⟨rfl, rfl⟩)
      | (go_at_call 11; refine (out_any _ _).mono ?_; rintro e w' ⟨rfl, rfl⟩))
    go_ret
    exact ⟨rfl, Below.refl _ _⟩
  · have k1 : ¬ a = b := fun e => h (k.1 e)
    clear k
    have k2 := HA.out
    have k3 := HB.out
    have k4 : (a == b) = false := by simpa using k1
    have k5 : ((1 + x) == (1 + y)) = false := by simp; omega
    go_enter Try.func5, Try.ntmps5
    go_wp2_with (first
      | (go_at_call 8; refine (step_any _ _).mono ?_; rintro e w' ⟨rfl, rfl⟩)
      | (go_at_call 11; refine (out_any _ _).mono ?_; rintro e w' ⟨rfl, rfl⟩))
    go_ret
    exact ⟨rfl, Below.refl _ _⟩

set_option maxRecDepth 100000 in
theorem noiseApart_lifted (os : Os) (started : os.Started) (H : Type) (enc : TypeId × Value → H) :
    ReturnsInHanded {} Try.checked os 5 .any (Rows.noiseApartSpec.pre6 enc Try.prog Try.f5 Rows.noiseApartRow.domain false) (Rows.noiseApartSpec.post enc Try.prog Try.f5 false true false false) := by
  refine returnsInHanded_of_change (C := Try.checked) own started (by kernel_rfl) Try.func5
    (ChangeSpec.witness6 (enc := enc) (C := Try.checked) false ⟨#[], #[.int .i64 0, .int .i64 0], []⟩ 8 (by kernel_rfl) (by kernel_rfl) (by kernel_rfl) (by kernel_rfl)) ?_
  intro W base args ds gs before hval0 hW hcnd _
  have hval : ∀ (j : Nat) t v, Try.f5.params[j]? = some t → args[j]? = some v → Value.okWide Try.prog W .any base t v := hval0
  have hW' := hW
  obtain ⟨p, q, hA0, hV, rfl, hfz, hnd⟩ := hW
  have hA : DataW.TrodAll enc Try.prog W 0 (fun _ => true) true Try.f5.params.toList args.toList ds p := hA0
  rw [Try.params5] at hA hval
  obtain ⟨v0, vs0, d0, ds0, p0, q0, hargs, rfl, rfl, h0, r0⟩ := trodAll_cons hA
  obtain ⟨v1, vs1, d1, ds1, p1, q1, rfl, rfl, rfl, h1, r1⟩ := trodAll_cons r0
  obtain ⟨rfl, rfl, rfl⟩ := trodAll_nil r1
  obtain rfl : args = #[v0, v1] := by cases args; simp_all
  obtain ⟨rfl, rfl⟩ := trodVars_none hV
  obtain ⟨a0, rfl, rfl, rfl, w0⟩ := open_int Try.underlying3 (hval 0 3 v0 rfl rfl) h0
  obtain ⟨a1, rfl, rfl, rfl, w1⟩ := open_int Try.underlying3 (hval 1 3 v1 rfl rfl) h1
  clear hA0 hval0
  refine (noiseApart_walk a0 a1 w0 w1 W).mono fun e W' ⟨he, bel⟩ => ?_
  subst he
  exact ⟨_, rfl, _, _, _, [], _, [], hW', trodAll_mk1 (shut_bool Try.underlying4 _), (trodAll_cons_mk (shut_int Try.underlying3 w0) (trodAll_cons_mk (shut_int Try.underlying3 w1) trodAll_mk0)), rfl, bel.frame _, fun h => by cases h⟩

theorem noiseApart_over : Rows.noiseApartRow.holds Try.pinned (OpenSpec.ofChange Rows.noiseApartSpec) :=
  OpenClaim.holds_of_wide 5 Try.f5 rfl rfl rfl rfl rfl rfl rfl ⟨rfl, rfl, rfl, rfl, rfl⟩ rfl rfl rfl rfl rfl (by kernel_rfl) Try.func5 (by kernel_rfl)
    (of_decide_eq_true (by kernel_rfl)) (by unfold Func.isWrapper; first | (rw [if_pos (by decide +kernel)]; kernel_rfl) | (rw [if_neg (by decide +kernel)]; exact ⟨rfl, rfl⟩))
    (fun os started H enc _ => noiseApart_lifted os started H enc)

theorem noiseApart_holds : Rows.NoiseApartSaid := noiseApart_over
#print axioms noiseApart_holds
end Go.Proofs.Ytdheciogpmegoaa
