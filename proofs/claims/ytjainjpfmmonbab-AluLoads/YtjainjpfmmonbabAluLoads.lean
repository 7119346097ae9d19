/- For every two numbers the law AluLoads of layer 2 returns true: a byte that is loaded has its flags: zero, and its highest bit; N and Z are never both set. No condition. -/
import Derived.Test.YtjainjpfmmonbabAluDo
import Derived.Test.YtjainjpfmmonbabPlainLaw
namespace Go.Proofs.Ytjainjpfmmonbab
open Go.ChangeShapes Go.WideShapes Go.ChangeAt Go.RowKit
open Go.ChangeMaps (open_string shut_string)
set_option linter.unusedVariables false
theorem own : ownKnob Try.prog.godebug = none := by kernel_rfl

theorem aluLoads_walk (a0 a1 : Int) (w0 : (Lit.int .i64 a0).wf = true) (w1 : (Lit.int .i64 a1).wf = true) (w : World) :
    Calls Try.prog 3 #[.int .i64 a0, .int .i64 a1] w fun e w' => e = .returned (.bool true) ∧ Below w.heap.size w w' := by
  have hq : doOf 15 (0 % 256) (a0 % 256) (a1 % 256) = (a0 % 256, nzOf a1 a0) := by rw [← nzOf_self]; rfl
  obtain ⟨hz, hn, hr, hc⟩ := nz_bits a1 a0
  have cn := hide (nz_any a1 a0)
  generalize nzOf a1 a0 = q at *
  have c1 := hide (do_at 15 0 a0 a1 _ _ hq)
  have e1 := and_255 a0
  have q1 := and_125 q
  have q2 := and_125 a1
  rw [hr, hc, ← q2] at q1
  have e2 := and_2 q
  have e3 := and_128 q
  have e4 := and_130 q
  have e5 : bits .and .i64 a0 128 = a0 % 256 / 128 * 128 := by rw [and_128]; omega
  rw [hz] at e2 e4
  rw [hn] at e3 e4
  clear hq hr hc hz hn q2
  have h3 : a0 % 256 = 0 ∨ (1 ≤ a0 % 256 ∧ a0 % 256 < 128) ∨ (128 ≤ a0 % 256 ∧ a0 % 256 < 256) := by omega
  generalize a0 % 256 = m at *
  rcases h3 with h | ⟨h, h'⟩ | ⟨h, h'⟩
  · rw [b01_yes h] at e2 e4; rw [b01_no (by omega)] at e3 e4
    subst h
    simp at e2 e3 e4 e5
    go_enter Try.func3, Try.ntmps3
    go_wp2_with fail
    refine (c1.out _).mono ?_
    rintro e w1 ⟨rfl, b1⟩
    go_wp2_with (first | (refine (cn.out _).mono ?_; rintro e w' ⟨rfl, rfl⟩))
    go_ret
    exact ⟨rfl, b1⟩
  · rw [b01_no (by omega)] at e2 e3
    rw [b01_no (by omega), b01_no (by omega)] at e4
    have e6 : m / 128 * 128 = 0 := by omega
    rw [e6] at e5
    simp at e2 e3 e4
    clear e6
    have e7 : (m == 0) = false := by simp only [beq_eq_false_iff_ne]; omega
    go_enter Try.func3, Try.ntmps3
    go_wp2_with fail
    refine (c1.out _).mono ?_
    rintro e w1 ⟨rfl, b1⟩
    go_wp2_with (first | (refine (cn.out _).mono ?_; rintro e w' ⟨rfl, rfl⟩))
    go_ret
    exact ⟨rfl, b1⟩
  · rw [b01_no (by omega)] at e2; rw [b01_yes h] at e3 e4; rw [b01_no (by omega)] at e4
    have e6 : m / 128 * 128 = 128 := by omega
    rw [e6] at e5
    simp at e2 e3 e4
    clear e6
    have e7 : (m == 0) = false := by simp only [beq_eq_false_iff_ne]; omega
    go_enter Try.func3, Try.ntmps3
    go_wp2_with fail
    refine (c1.out _).mono ?_
    rintro e w1 ⟨rfl, b1⟩
    go_wp2_with (first | (refine (cn.out _).mono ?_; rintro e w' ⟨rfl, rfl⟩))
    go_ret
    exact ⟨rfl, b1⟩

set_option maxRecDepth 100000 in
theorem aluLoads_lifted (os : Os) (started : os.Started) (H : Type) (enc : TypeId × Value → H) :
    ReturnsInHanded {} Try.checked os 3 .any (Rows.aluLoadsSpec.pre6 enc Try.prog Try.f3 Rows.aluLoadsRow.domain false) (Rows.aluLoadsSpec.post enc Try.prog Try.f3 false true false false) := by
  refine returnsInHanded_of_change (C := Try.checked) own started (by kernel_rfl) Try.func3
    (ChangeSpec.witness6 (enc := enc) (C := Try.checked) false ⟨#[], #[.int .i64 0, .int .i64 0], []⟩ 8 (by kernel_rfl) (by kernel_rfl) (by kernel_rfl) (by kernel_rfl)) ?_
  intro W base args ds gs before hval0 hW hcnd _
  have hval : ∀ (j : Nat) t v, Try.f3.params[j]? = some t → args[j]? = some v → Value.okWide Try.prog W .any base t v := hval0
  have hW' := hW
  obtain ⟨p, q, hA0, hV, rfl, hfz, hnd⟩ := hW
  have hA : DataW.TrodAll enc Try.prog W 0 (fun _ => true) true Try.f3.params.toList args.toList ds p := hA0
  rw [Try.params3] at hA hval
  obtain ⟨v0, vs0, d0, ds0, p0, q0, hargs, rfl, rfl, h0, r0⟩ := trodAll_cons hA
  obtain ⟨v1, vs1, d1, ds1, p1, q1, rfl, rfl, rfl, h1, r1⟩ := trodAll_cons r0
  obtain ⟨rfl, rfl, rfl⟩ := trodAll_nil r1
  obtain rfl : args = #[v0, v1] := by cases args; simp_all
  obtain ⟨rfl, rfl⟩ := trodVars_none hV
  obtain ⟨a0, rfl, rfl, rfl, w0⟩ := open_int Try.underlying3 (hval 0 3 v0 rfl rfl) h0
  obtain ⟨a1, rfl, rfl, rfl, w1⟩ := open_int Try.underlying3 (hval 1 3 v1 rfl rfl) h1
  clear hA0 hval0
  refine (aluLoads_walk a0 a1 w0 w1 W).mono fun e W' ⟨he, bel⟩ => ?_
  subst he
  exact ⟨_, rfl, _, _, _, [], _, [], hW', trodAll_mk1 (shut_bool Try.underlying4 _), (trodAll_cons_mk (shut_int Try.underlying3 w0) (trodAll_cons_mk (shut_int Try.underlying3 w1) trodAll_mk0)), rfl, bel.frame _, fun h => by cases h⟩

theorem aluLoads_over : Rows.aluLoadsRow.holds Try.pinned (OpenSpec.ofChange Rows.aluLoadsSpec) :=
  OpenClaim.holds_of_wide 3 Try.f3 rfl rfl rfl rfl rfl rfl rfl ⟨rfl, rfl, rfl, rfl, rfl⟩ rfl rfl rfl rfl rfl (by kernel_rfl) Try.func3 (by kernel_rfl)
    (of_decide_eq_true (by kernel_rfl)) (by unfold Func.isWrapper; first | (rw [if_pos (by decide +kernel)]; kernel_rfl) | (rw [if_neg (by decide +kernel)]; exact ⟨rfl, rfl⟩))
    (fun os started H enc _ => aluLoads_lifted os started H enc)

theorem aluLoads_holds : Rows.AluLoadsSaid := aluLoads_over
#print axioms aluLoads_holds
end Go.Proofs.Ytjainjpfmmonbab
