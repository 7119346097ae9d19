/- For every three numbers the law NoiseTells of layer 21 returns true: any state is the document's behind a step, and behind many; any number has its period. No condition. -/
import Derived.Test.YtdheciogpmegoaaJump21
import Derived.Test.YtdheciogpmegoaaRef21
import Derived.OpenShut
import Derived.ShutString
import Derived.ChangeOld
import Derived.Below
namespace Go.Proofs.Ytdheciogpmegoaa
open Go.ChangeShapes Go.WideShapes Go.ChangeAt Go.RowKit
open Go.ChangeMaps (open_string shut_string)
set_option linter.unusedVariables false
theorem own : ownKnob Try.prog.godebug = none := by kernel_rfl

theorem noiseTells_walk (s n b : Int) (w0 : (Lit.int .i64 s).wf = true) (w1 : (Lit.int .i64 n).wf = true) (w2 : (Lit.int .i64 b).wf = true) (w : World) :
    Calls Try.prog 3 #[.int .i64 s, .int .i64 n, .int .i64 b] w fun e w' => e = .returned (.bool true) ∧ Below w.heap.size w w' := by
  have h1 := Int.lt_tmod_of_pos n (show (0 : Int) < 5000 by decide)
  have h2 := Int.tmod_lt_of_pos n (show (0 : Int) < 5000 by decide)
  have q1 : stepN (stOf 1) = 131072 := by decide
  have q2 : jumpN (stOf s) 0 = stOf s := rfl
  obtain ⟨s0, s1⟩ := stOf_in s
  have q3 : Int.tmod ((stOf s : Nat) : Int) 2 = ((stOf s : Nat) : Int) % 2 := Int.tmod_eq_emod_of_nonneg (by omega)
  have q4 : 0 ≤ ((stOf s : Nat) : Int) % 2 ∧ ((stOf s : Nat) : Int) % 2 < 2 := by omega
  have q5 : ((stOf s : Nat) : Int) % 2 * 31 = 31 * (((stOf s : Nat) : Int) % 2) := Int.mul_comm _ _
  generalize hN : Int.tmod n 5000 = N at *
  clear w0 w1 w2
  have HB := hide (Below.refl w.heap.size w)
  go_enter Try.func3, Try.ntmps3
  go_wp2_with (first
    | (go_at_call 10; refine (jump_any _ _ (by omega) _).mono ?_; rintro e w1 ⟨rfl, b1⟩; replace HB := hide (bnext HB.out b1); clear b1)
    | (go_at_call 8; refine (step_any _ _).mono ?_; rintro e w1 ⟨rfl, hw⟩; subst w1)
    | (go_at_call 11; refine (out_any _ _).mono ?_; rintro e w1 ⟨rfl, hw⟩; subst w1)
    | (go_at_call 12; refine (period_any _ _).mono ?_; rintro e w1 ⟨rfl, hw⟩; subst w1)
    | (go_at_call 7; refine (rjump_any _ _ (by omega) _).mono ?_; rintro e w1 ⟨rfl, hw⟩; subst w1)
    | (go_at_call 9; refine (rstep_any _ _).mono ?_; rintro e w1 ⟨rfl, hw⟩; subst w1)
    | (go_at_call 13; refine (rperiod_any _ _).mono ?_; rintro e w1 ⟨rfl, hw⟩; subst w1))
  go_ret
  exact ⟨rfl, HB.out⟩

set_option maxRecDepth 100000 in
theorem noiseTells_lifted (os : Os) (started : os.Started) (H : Type) (enc : TypeId × Value → H) :
    ReturnsInHanded {} Try.checked os 3 .any (Rows.noiseTellsSpec.pre6 enc Try.prog Try.f3 Rows.noiseTellsRow.domain false) (Rows.noiseTellsSpec.post enc Try.prog Try.f3 false true false false) := by
  refine returnsInHanded_of_change (C := Try.checked) own started (by kernel_rfl) Try.func3
    (ChangeSpec.witness6 (enc := enc) (C := Try.checked) false ⟨#[], #[.int .i64 0, .int .i64 0, .int .i64 0], []⟩ 8 (by kernel_rfl) (by kernel_rfl) (by kernel_rfl) (by kernel_rfl)) ?_
  intro W base args ds gs before hval0 hW hcnd _
  have hval : ∀ (j : Nat) t v, Try.f3.params[j]? = some t → args[j]? = some v → Value.okWide Try.prog W .any base t v := hval0
  have hW' := hW
  obtain ⟨p, q, hA0, hV, rfl, hfz, hnd⟩ := hW
  have hA : DataW.TrodAll enc Try.prog W 0 (fun _ => true) true Try.f3.params.toList args.toList ds p := hA0
  rw [Try.params3] at hA hval
  obtain ⟨v0, vs0, d0, ds0, p0, q0, hargs, rfl, rfl, h0, r0⟩ := trodAll_cons hA
  obtain ⟨v1, vs1, d1, ds1, p1, q1, rfl, rfl, rfl, h1, r1⟩ := trodAll_cons r0
  obtain ⟨v2, vs2, d2, ds2, p2, q2, rfl, rfl, rfl, h2, r2⟩ := trodAll_cons r1
  obtain ⟨rfl, rfl, rfl⟩ := trodAll_nil r2
  obtain rfl : args = #[v0, v1, v2] := by cases args; simp_all
  obtain ⟨rfl, rfl⟩ := trodVars_none hV
  obtain ⟨a0, rfl, rfl, rfl, w0⟩ := open_int Try.underlying3 (hval 0 3 v0 rfl rfl) h0
  obtain ⟨a1, rfl, rfl, rfl, w1⟩ := open_int Try.underlying3 (hval 1 3 v1 rfl rfl) h1
  obtain ⟨a2, rfl, rfl, rfl, w2⟩ := open_int Try.underlying3 (hval 2 3 v2 rfl rfl) h2
  clear hA0 hval0
  refine (noiseTells_walk a0 a1 a2 w0 w1 w2 W).mono fun e W' ⟨he, bel⟩ => ?_
  subst he
  exact ⟨_, rfl, _, _, _, [], _, [], hW', trodAll_mk1 (shut_bool Try.underlying4 _), (trodAll_cons_mk (shut_int Try.underlying3 w0) (trodAll_cons_mk (shut_int Try.underlying3 w1) (trodAll_cons_mk (shut_int Try.underlying3 w2) trodAll_mk0))), rfl, bel.frame _, fun h => by cases h⟩

theorem noiseTells_over : Rows.noiseTellsRow.holds Try.pinned (OpenSpec.ofChange Rows.noiseTellsSpec) :=
  OpenClaim.holds_of_wide 3 Try.f3 rfl rfl rfl rfl rfl rfl rfl ⟨rfl, rfl, rfl, rfl, rfl⟩ rfl rfl rfl rfl rfl (by kernel_rfl) Try.func3 (by kernel_rfl)
    (of_decide_eq_true (by kernel_rfl)) (by unfold Func.isWrapper; first | (rw [if_pos (by decide +kernel)]; kernel_rfl) | (rw [if_neg (by decide +kernel)]; exact ⟨rfl, rfl⟩))
    (fun os started H enc _ => noiseTells_lifted os started H enc)

theorem noiseTells_holds : Rows.NoiseTellsSaid := noiseTells_over
#print axioms noiseTells_holds
end Go.Proofs.Ytdheciogpmegoaa
