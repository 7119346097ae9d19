/- For every three numbers the law AluAsks of layer 2 returns true: Cmp tells whether a byte is at least another one, and whether they are alike; it changes neither. No condition. -/
import Derived.Test.YtjainjpfmmonbaaAluDo
import Derived.Test.YtjainjpfmmonbaaPlainLaw
namespace Go.Proofs.Ytjainjpfmmonbaa
open Go.ChangeShapes Go.WideShapes Go.ChangeAt Go.RowKit
open Go.ChangeMaps (open_string shut_string)
set_option linter.unusedVariables false
theorem own : ownKnob Try.prog.godebug = none := by kernel_rfl

theorem aluAsks_walk (a0 a1 a2 : Int) (w0 : (Lit.int .i64 a0).wf = true) (w1 : (Lit.int .i64 a1).wf = true) (w2 : (Lit.int .i64 a2).wf = true) (w : World) :
    Calls Try.prog 7 #[.int .i64 a0, .int .i64 a1, .int .i64 a2] w fun e w' => e = .returned (.bool true) ∧ Below w.heap.size w w' := by
  have ha := isByte_mod a0
  have hm := isByte_mod a1
  have hp := isByte_mod a2
  have hx := and_255 a0
  have hy := and_255 a1
  generalize a0 % 256 = a at *
  generalize a1 % 256 = m at *
  have c1 := hide (do_at 5 a m a2 a _ (by rw [byte_self ha, byte_self hm]; rfl))
  have c2 := hide (do_at 6 a m a2 a _ (by rw [byte_self ha, byte_self hm]; rfl))
  have hq := set1_mod (nzOf (a2 % 256) (a - m)) (decide (m ≤ a))
  have hq2 := set1_z (nzOf (a2 % 256) (a - m)) (decide (m ≤ a))
  rw [(nz_bits _ _).1] at hq2
  have hs := two_bits (a2 % 256) m (decide (andB a m = 0)) hp hm
  have k1 := and_1 (setOf (nzOf (a2 % 256) (a - m)) 1 (decide (m ≤ a)))
  have k2 := and_2 (setOf (nzOf (a2 % 256) (a - m)) 1 (decide (m ≤ a)))
  have k3 := and_2 (twoOf (a2 % 256) m (decide (andB a m = 0)))
  have k4 := and_192 (twoOf (a2 % 256) m (decide (andB a m = 0)))
  have k5 := and_192 m
  rw [hq] at k1
  rw [hq2] at k2
  rw [hs.1] at k3
  rw [hs.2, ← k5] at k4
  have k6 := and_B ha hm
  have hz : (a - m) % 256 = 0 ↔ a = m := by
    obtain ⟨h0, h1⟩ := ha; obtain ⟨h2, h3⟩ := hm; omega
  have hz' : b01 (decide ((a - m) % 256 = 0)) = b01 (decide (a = m)) := by simp only [hz]
  rw [hz'] at k2
  have ub := andB_byte (a := a) hm
  obtain ⟨u0, u1⟩ := ub
  obtain ⟨a0', a1'⟩ := ha
  obtain ⟨m0', m1'⟩ := hm
  clear hq hq2 hs hz hz' k5 hp
  generalize setOf (nzOf (a2 % 256) (a - m)) 1 (decide (m ≤ a)) = q at *
  generalize twoOf (a2 % 256) m (decide (andB a m = 0)) = s at *
  generalize andB a m = u at *
  have h3 : a < m ∨ a = m ∨ m < a := by omega
  have h2 : u = 0 ∨ 0 < u := by omega
  rcases h2 with h | h
  all_goals
    first
      | (rw [b01_yes h] at k3; subst h)
      | (rw [b01_no (by omega)] at k3; have g1 : (u == 0) = false := by simp only [beq_eq_false_iff_ne]; omega)
    simp at k3
    rcases h3 with h3 | h3 | h3
    all_goals
      first
        | (rw [b01_yes (by omega)] at k1 k2; subst h3)
        | (rw [b01_no (by omega)] at k1 k2; have g2 : decide (m ≤ a) = false := by simp only [decide_eq_false_iff_not]; omega
           have g3 : (a == m) = false := by simp only [beq_eq_false_iff_ne]; omega)
        | (rw [b01_yes (by omega)] at k1; rw [b01_no (by omega)] at k2; have g2 : decide (m ≤ a) = true := by simp only [decide_eq_true_eq]; omega
           have g3 : (a == m) = false := by simp only [beq_eq_false_iff_ne]; omega)
      simp at k1 k2
      go_enter Try.func7, Try.ntmps7
      go_wp2_with fail
      refine (c1.out _).mono ?_
      rintro e w1 ⟨rfl, b1⟩
      go_wp2_with fail
      refine (c2.out _).mono ?_
      rintro e w2 ⟨rfl, b2⟩
      go_wp2_with fail
      go_ret
      exact ⟨rfl, bnext b1 b2⟩

set_option maxRecDepth 100000 in
theorem aluAsks_lifted (os : Os) (started : os.Started) (H : Type) (enc : TypeId × Value → H) :
    ReturnsInHanded {} Try.checked os 7 .any (Rows.aluAsksSpec.pre6 enc Try.prog Try.f7 Rows.aluAsksRow.domain false) (Rows.aluAsksSpec.post enc Try.prog Try.f7 false true false false) := by
  refine returnsInHanded_of_change (C := Try.checked) own started (by kernel_rfl) Try.func7
    (ChangeSpec.witness6 (enc := enc) (C := Try.checked) false ⟨#[], #[.int .i64 0, .int .i64 0, .int .i64 0], []⟩ 8 (by kernel_rfl) (by kernel_rfl) (by kernel_rfl) (by kernel_rfl)) ?_
  intro W base args ds gs before hval0 hW hcnd _
  have hval : ∀ (j : Nat) t v, Try.f7.params[j]? = some t → args[j]? = some v → Value.okWide Try.prog W .any base t v := hval0
  have hW' := hW
  obtain ⟨p, q, hA0, hV, rfl, hfz, hnd⟩ := hW
  have hA : DataW.TrodAll enc Try.prog W 0 (fun _ => true) true Try.f7.params.toList args.toList ds p := hA0
  rw [Try.params7] at hA hval
  obtain ⟨v0, vs0, d0, ds0, p0, q0, hargs, rfl, rfl, h0, r0⟩ := trodAll_cons hA
  obtain ⟨v1, vs1, d1, ds1, p1, q1, rfl, rfl, rfl, h1, r1⟩ := trodAll_cons r0
  obtain ⟨v2, vs2, d2, ds2, p2, q2, rfl, rfl, rfl, h2, r2⟩ := trodAll_cons r1
  obtain ⟨rfl, rfl, rfl⟩ := trodAll_nil r2
  obtain rfl : args = #[v0, v1, v2] := by cases args; simp_all
  obtain ⟨rfl, rfl⟩ := trodVars_none hV
  obtain ⟨a0, rfl, rfl, rfl, w0⟩ := open_int Try.underlying3 (hval 0 3 v0 rfl rfl) h0
  obtain ⟨a1, rfl, rfl, rfl, w1⟩ := open_int Try.underlying3 (hval 1 3 v1 rfl rfl) h1
  obtain ⟨a2, rfl, rfl, rfl, w2⟩ := open_int Try.underlying3 (hval 2 3 v2 rfl rfl) h2
  clear hA0 hval0
  refine (aluAsks_walk a0 a1 a2 w0 w1 w2 W).mono fun e W' ⟨he, bel⟩ => ?_
  subst he
  exact ⟨_, rfl, _, _, _, [], _, [], hW', trodAll_mk1 (shut_bool Try.underlying4 _), (trodAll_cons_mk (shut_int Try.underlying3 w0) (trodAll_cons_mk (shut_int Try.underlying3 w1) (trodAll_cons_mk (shut_int Try.underlying3 w2) trodAll_mk0))), rfl, bel.frame _, fun h => by cases h⟩

theorem aluAsks_over : Rows.aluAsksRow.holds Try.pinned (OpenSpec.ofChange Rows.aluAsksSpec) :=
  OpenClaim.holds_of_wide 7 Try.f7 rfl rfl rfl rfl rfl rfl rfl ⟨rfl, rfl, rfl, rfl, rfl⟩ rfl rfl rfl rfl rfl (by kernel_rfl) Try.func7 (by kernel_rfl)
    (of_decide_eq_true (by kernel_rfl)) (by unfold Func.isWrapper; first | (rw [if_pos (by decide +kernel)]; kernel_rfl) | (rw [if_neg (by decide +kernel)]; exact ⟨rfl, rfl⟩))
    (fun os started H enc _ => aluAsks_lifted os started H enc)

theorem aluAsks_holds : Rows.AluAsksSaid := aluAsks_over
#print axioms aluAsks_holds
end Go.Proofs.Ytjainjpfmmonbaa
