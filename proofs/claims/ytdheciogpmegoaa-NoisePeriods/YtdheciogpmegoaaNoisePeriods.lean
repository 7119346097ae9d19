/- For every number the law NoisePeriods of layer 21 returns true: a greater number has a shorter period, from 31 times 128 down to 64; the number's upper bits change nothing. No condition. -/
import Derived.Test.YtdheciogpmegoaaStep21
import Derived.OpenShut
import Derived.ShutString
import Derived.ChangeOld
import Derived.Below
namespace Go.Proofs.Ytdheciogpmegoaa
open Go.ChangeShapes Go.WideShapes Go.ChangeAt Go.RowKit
open Go.ChangeMaps (open_string shut_string)
set_option linter.unusedVariables false
theorem own : ownKnob Try.prog.godebug = none := by kernel_rfl

theorem low_mod32 (n : Int) : (n % ((2 ^ 64 : Nat) : Int)).toNat % 32 = (n % 32).toNat := by omega
theorem wrap_mod32 (y : Int) : IntKind.i64.wrap y % 32 = y % 32 := by rw [IntKind.wrap_i64]; omega
theorem or_128 (n : Int) : bits .or .i64 n 128 % 32 = n % 32 := by
  have e : (BitVec.ofInt 64 n ||| BitVec.ofInt 64 128).toNat % 2 ^ 5 = (n % 32).toNat := by
    rw [BitVec.toNat_or, BitVec.toNat_ofInt, BitVec.toNat_ofInt, Nat.or_mod_two_pow]
    show (n % ((2 ^ 64 : Nat) : Int)).toNat % 32 ||| _ = _
    rw [low_mod32]
    exact Nat.or_zero _
  show IntKind.i64.wrap ((BitVec.ofInt 64 n ||| BitVec.ofInt 64 128).toNat : Nat) % 32 = _
  rw [wrap_mod32]
  omega
theorem per_same {a b : Int} (h : a % 32 = b % 32) : perOf a = perOf b := by unfold perOf; rw [h]
theorem noisePeriods_walk (b : Int) (w0 : (Lit.int .i64 b).wf = true) (w : World) :
    Calls Try.prog 6 #[.int .i64 b] w fun e w' => e = .returned (.bool true) ∧ Below w.heap.size w w' := by
  have e1 := and_31 b
  have e2 : perOf (bits .or .i64 b 128) = perOf b := per_same (or_128 b)
  have e3 : perOf (b % 32) = perOf b := per_same (by omega)
  have h0 : 0 ≤ b % 32 ∧ b % 32 < 32 := by omega
  by_cases h : b % 32 = 31
  · have e4 : perOf b = 64 := by unfold perOf; rw [if_pos h]
    rw [e4] at e2 e3
    rw [h] at e1 e3
    clear h h0
    go_enter Try.func6, Try.ntmps6
    go_wp2_with (go_at_call 12; refine (period_any _ _).mono ?_; rintro e w' ⟨rfl, rfl⟩)
    go_ret
    exact ⟨rfl, Below.refl _ _⟩
  · have e4 : perOf b = 128 * (31 - b % 32) := by unfold perOf; rw [if_neg h]
    have e5 : perOf (b % 32 + 1) < perOf b := by unfold perOf; (repeat' split) <;> omega
    have e6 : 64 ≤ perOf b ∧ perOf b ≤ 3968 := by omega
    have e7 : Int.tmod (perOf b) 128 = 0 := by rw [Int.tmod_eq_emod_of_nonneg (by omega)]; omega
    clear e4
    generalize b % 32 = z at *
    have e8 : ¬ z = 31 := by omega
    have e9 : z < 31 := by omega
    generalize hp : perOf b = p at *
    go_enter Try.func6, Try.ntmps6
    go_wp2_with (go_at_call 12; refine (period_any _ _).mono ?_; rintro e w' ⟨rfl, rfl⟩)
    go_ret
    exact ⟨rfl, Below.refl _ _⟩

set_option maxRecDepth 100000 in
theorem noisePeriods_lifted (os : Os) (started : os.Started) (H : Type) (enc : TypeId × Value → H) :
    ReturnsInHanded {} Try.checked os 6 .any (Rows.noisePeriodsSpec.pre6 enc Try.prog Try.f6 Rows.noisePeriodsRow.domain false) (Rows.noisePeriodsSpec.post enc Try.prog Try.f6 false true false false) := by
  refine returnsInHanded_of_change (C := Try.checked) own started (by kernel_rfl) Try.func6
    (ChangeSpec.witness6 (enc := enc) (C := Try.checked) false ⟨#[], #[.int .i64 0], []⟩ 8 (by kernel_rfl) (by kernel_rfl) (by kernel_rfl) (by kernel_rfl)) ?_
  intro W base args ds gs before hval0 hW hcnd _
  have hval : ∀ (j : Nat) t v, Try.f6.params[j]? = some t → args[j]? = some v → Value.okWide Try.prog W .any base t v := hval0
  have hW' := hW
  obtain ⟨p, q, hA0, hV, rfl, hfz, hnd⟩ := hW
  have hA : DataW.TrodAll enc Try.prog W 0 (fun _ => true) true Try.f6.params.toList args.toList ds p := hA0
  rw [Try.params6] at hA hval
  obtain ⟨v0, vs0, d0, ds0, p0, q0, hargs, rfl, rfl, h0, r0⟩ := trodAll_cons hA
  obtain ⟨rfl, rfl, rfl⟩ := trodAll_nil r0
  obtain rfl : args = #[v0] := by cases args; simp_all
  obtain ⟨rfl, rfl⟩ := trodVars_none hV
  obtain ⟨a0, rfl, rfl, rfl, w0⟩ := open_int Try.underlying3 (hval 0 3 v0 rfl rfl) h0
  clear hA0 hval0
  refine (noisePeriods_walk a0 w0 W).mono fun e W' ⟨he, bel⟩ => ?_
  subst he
  exact ⟨_, rfl, _, _, _, [], _, [], hW', trodAll_mk1 (shut_bool Try.underlying4 _), (trodAll_cons_mk (shut_int Try.underlying3 w0) trodAll_mk0), rfl, bel.frame _, fun h => by cases h⟩

theorem noisePeriods_over : Rows.noisePeriodsRow.holds Try.pinned (OpenSpec.ofChange Rows.noisePeriodsSpec) :=
  OpenClaim.holds_of_wide 6 Try.f6 rfl rfl rfl rfl rfl rfl rfl ⟨rfl, rfl, rfl, rfl, rfl⟩ rfl rfl rfl rfl rfl (by kernel_rfl) Try.func6 (by kernel_rfl)
    (of_decide_eq_true (by kernel_rfl)) (by unfold Func.isWrapper; first | (rw [if_pos (by decide +kernel)]; kernel_rfl) | (rw [if_neg (by decide +kernel)]; exact ⟨rfl, rfl⟩))
    (fun os started H enc _ => noisePeriods_lifted os started H enc)

theorem noisePeriods_holds : Rows.NoisePeriodsSaid := noisePeriods_over
#print axioms noisePeriods_holds
end Go.Proofs.Ytdheciogpmegoaa
