/- For every two numbers the law BitsOrder of layer 1 returns true: words are in order by their high bytes, and then by their low ones. No condition. -/
import Derived.Test.YtbfhodkpkbpmaaaBits
import Derived.OpenShut
import Derived.ShutString
import Derived.ChangeOld
import Derived.Below
namespace Go.Proofs.Ytbfhodkpkbpmaaa
open Go.ChangeShapes Go.WideShapes Go.ChangeAt Go.RowKit
open Go.ChangeMaps (open_string shut_string)
set_option linter.unusedVariables false
theorem own : ownKnob Try.prog.godebug = none := by kernel_rfl

theorem bitsOrder_walk (a0 : Int) (a1 : Int) (w0 : (Lit.int .i64 a0).wf = true) (w1 : (Lit.int .i64 a1).wf = true) (w : World) :
    Calls Try.prog 8 #[.int .i64 a0, .int .i64 a1] w fun e w' => e = .returned (.bool true) ∧ Below w.heap.size w w' := by
  have h4 : (a0 % 65536 / 256 % 256 < a1 % 65536 / 256 % 256) ∨ (a0 % 65536 / 256 % 256 = a1 % 65536 / 256 % 256 ∧ a0 % 65536 % 256 < a1 % 65536 % 256) ∨ (a0 % 65536 / 256 % 256 = a1 % 65536 / 256 % 256 ∧ ¬ a0 % 65536 % 256 < a1 % 65536 % 256) ∨ (a1 % 65536 / 256 % 256 < a0 % 65536 / 256 % 256) := by omega
  have hx : a0 % 65536 = a0 % 65536 % 256 + 256 * (a0 % 65536 / 256 % 256) := by omega
  have hy : a1 % 65536 = a1 % 65536 % 256 + 256 * (a1 % 65536 / 256 % 256) := by omega
  generalize hx0 : a0 % 65536 % 256 = x0 at *
  generalize hx1 : a0 % 65536 / 256 % 256 = x1 at *
  generalize hy0 : a1 % 65536 % 256 = y0 at *
  generalize hy1 : a1 % 65536 / 256 % 256 = y1 at *
  have bx0 : 0 ≤ x0 ∧ x0 < 256 := by omega
  have bx1 : 0 ≤ x1 ∧ x1 < 256 := by omega
  have by0 : 0 ≤ y0 ∧ y0 < 256 := by omega
  have by1 : 0 ≤ y1 ∧ y1 < 256 := by omega
  have HX := hide (And.intro hx (And.intro hx0 hx1))
  have HY := hide (And.intro hy (And.intro hy0 hy1))
  clear hx hx0 hx1 hy hy0 hy1
  rcases h4 with h | ⟨h, h'⟩ | ⟨h, h'⟩ | h
  all_goals
    go_enter Try.func8, Try.ntmps8
    go_wp2_with fail
    simp only [and_65535]
    refine (split_any _ _).mono ?_
    rintro e w1 ⟨rfl, rfl⟩
    rw [HX.out.2.1, HX.out.2.2, HX.out.1]
    go_wp2_with fail
    refine (split_any _ _).mono ?_
    rintro e w1 ⟨rfl, rfl⟩
    rw [HY.out.2.1, HY.out.2.2, HY.out.1]
    go_wp2_with fail
    refine (join_any _ _ _).mono ?_
    rintro e w2 ⟨rfl, b1⟩
    go_wp2_with fail
    refine (join_any _ _ _).mono ?_
    rintro e w3 ⟨rfl, b2⟩
    go_wp2_with fail
    refine (join_any _ _ _).mono ?_
    rintro e w4 ⟨rfl, b3⟩
    go_wp2_with fail
    go_ret
    exact ⟨rfl, bnext (bnext b1 b2) b3⟩

set_option maxRecDepth 100000 in
theorem bitsOrder_lifted (os : Os) (started : os.Started) (H : Type) (enc : TypeId × Value → H) :
    ReturnsInHanded {} Try.checked os 8 .any (Rows.bitsOrderSpec.pre6 enc Try.prog Try.f8 Rows.bitsOrderRow.domain false) (Rows.bitsOrderSpec.post enc Try.prog Try.f8 false true false false) := by
  refine returnsInHanded_of_change (C := Try.checked) own started (by kernel_rfl) Try.func8
    (ChangeSpec.witness6 (enc := enc) (C := Try.checked) false ⟨#[], #[.int .i64 0, .int .i64 0], []⟩ 8 (by kernel_rfl) (by kernel_rfl) (by kernel_rfl) (by kernel_rfl)) ?_
  intro W base args ds gs before hval0 hW hcnd _
  have hval : ∀ (j : Nat) t v, Try.f8.params[j]? = some t → args[j]? = some v → Value.okWide Try.prog W .any base t v := hval0
  have hW' := hW
  obtain ⟨p, q, hA0, hV, rfl, hfz, hnd⟩ := hW
  have hA : DataW.TrodAll enc Try.prog W 0 (fun _ => true) true Try.f8.params.toList args.toList ds p := hA0
  rw [Try.params8] at hA hval
  obtain ⟨v0, vs0, d0, ds0, p0, q0, hargs, rfl, rfl, h0, r0⟩ := trodAll_cons hA
  obtain ⟨v1, vs1, d1, ds1, p1, q1, rfl, rfl, rfl, h1, r1⟩ := trodAll_cons r0
  obtain ⟨rfl, rfl, rfl⟩ := trodAll_nil r1
  obtain rfl : args = #[v0, v1] := by cases args; simp_all
  obtain ⟨rfl, rfl⟩ := trodVars_none hV
  obtain ⟨a0, rfl, rfl, rfl, w0⟩ := open_int Try.underlying3 (hval 0 3 v0 rfl rfl) h0
  obtain ⟨a1, rfl, rfl, rfl, w1⟩ := open_int Try.underlying3 (hval 1 3 v1 rfl rfl) h1
  clear hA0 hval0
  refine (bitsOrder_walk a0 a1 w0 w1 W).mono fun e W' ⟨he, bel⟩ => ?_
  subst he
  exact ⟨_, rfl, _, _, _, [], _, [], hW', trodAll_mk1 (shut_bool Try.underlying4 _), (trodAll_cons_mk (shut_int Try.underlying3 w0) (trodAll_cons_mk (shut_int Try.underlying3 w1) trodAll_mk0)), rfl, bel.frame _, fun h => by cases h⟩

theorem bitsOrder_over : Rows.bitsOrderRow.holds Try.pinned (OpenSpec.ofChange Rows.bitsOrderSpec) :=
  OpenClaim.holds_of_wide 8 Try.f8 rfl rfl rfl rfl rfl rfl rfl ⟨rfl, rfl, rfl, rfl, rfl⟩ rfl rfl rfl rfl rfl (by kernel_rfl) Try.func8 (by kernel_rfl)
    (of_decide_eq_true (by kernel_rfl)) (by unfold Func.isWrapper; first | (rw [if_pos (by decide +kernel)]; kernel_rfl) | (rw [if_neg (by decide +kernel)]; exact ⟨rfl, rfl⟩))
    (fun os started H enc _ => bitsOrder_lifted os started H enc)

theorem bitsOrder_holds : Rows.BitsOrderSaid := bitsOrder_over
#print axioms bitsOrder_holds
end Go.Proofs.Ytbfhodkpkbpmaaa
