/- For every three numbers the law AluLogic of layer 2 returns true: Xor twice is nothing; And and Or of the same are it; what Trb takes away Tsb brings back, where it was set. No condition. -/
import Derived.Test.YtjainjpfmmonbaaAluDo
import Derived.Test.YtjainjpfmmonbaaPlainLaw
namespace Go.Proofs.Ytjainjpfmmonbaa
open Go.ChangeShapes Go.WideShapes Go.ChangeAt Go.RowKit
open Go.ChangeMaps (open_string shut_string)
set_option linter.unusedVariables false
theorem own : ownKnob Try.prog.godebug = none := by kernel_rfl

theorem aluLogic_walk (a0 a1 a2 : Int) (w0 : (Lit.int .i64 a0).wf = true) (w1 : (Lit.int .i64 a1).wf = true) (w2 : (Lit.int .i64 a2).wf = true) (w : World) :
    Calls Try.prog 8 #[.int .i64 a0, .int .i64 a1, .int .i64 a2] w fun e w' => e = .returned (.bool true) ∧ Below w.heap.size w w' := by
  have ha := isByte_mod a0
  have hm := isByte_mod a1
  have hx := and_255 a0
  have hy := and_255 a1
  generalize a0 % 256 = a at *
  generalize a1 % 256 = m at *
  have hp := isByte_mod a2
  have n0 := hide (And.intro ha hm)
  have x1 := xorB_byte ha hm
  have u1 := andB_byte (a := a) hm
  have v1 := orB_byte ha hm
  have t1 := bicB_byte hm ha
  have l1 := hide (xor_xor ha hm)
  have l2 : (andB a m + orB a m == a + m) = true := by rw [and_add_or ha hm]; exact beq_self_eq_true _
  have l3 := hide (or_bic ha hm)
  have l4 : (xorB a m == orB a m - andB a m) = true := by rw [xor_is ha hm]; exact beq_self_eq_true _
  have o1 := andNot_B hm ha
  have o2 := or_B hm ha
  have c1 := hide (do_at 2 a m a2 (xorB a m) _ (by rw [byte_self ha, byte_self hm]; rfl))
  have c2 := hide (do_at 2 (xorB a m) m a2 a _ (by rw [byte_self x1, byte_self hm]; exact Prod.ext l1.out rfl))
  have c3 := hide (do_at 1 a m a2 (andB a m) _ (by rw [byte_self ha, byte_self hm]; rfl))
  have c4 := hide (do_at 0 a m a2 (orB a m) _ (by rw [byte_self ha, byte_self hm]; rfl))
  have c5 := hide (do_at 8 a m a2 (bicB m a) _ (by rw [byte_self ha, byte_self hm]; rfl))
  have c6 := hide (do_at 7 a (bicB m a) a2 (orB m a) _ (by rw [byte_self ha, byte_self t1]; exact Prod.ext l3.out rfl))
  obtain ⟨u0, u1⟩ := u1
  obtain ⟨v0, v1⟩ := v1
  obtain ⟨a0', a1'⟩ := ha
  obtain ⟨m0', m1'⟩ := hm
  clear x1 t1 hp
  generalize xorB a m = x at *
  generalize andB a m = u at *
  generalize orB a m = v at *
  generalize bicB m a = t at *
  generalize orB m a = s at *
  go_enter Try.func8, Try.ntmps8
  go_wp2_with fail
  refine (c1.out _).mono ?_
  rintro e w1 ⟨rfl, b1⟩
  go_wp2_with fail
  refine (c2.out _).mono ?_
  rintro e w2 ⟨rfl, b2⟩
  go_wp2_with fail
  refine (c3.out _).mono ?_
  rintro e w3 ⟨rfl, b3⟩
  go_wp2_with fail
  refine (c4.out _).mono ?_
  rintro e w4 ⟨rfl, b4⟩
  go_wp2_with fail
  refine (c5.out _).mono ?_
  rintro e w5 ⟨rfl, b5⟩
  go_wp2_with fail
  refine (c6.out _).mono ?_
  rintro e w6 ⟨rfl, b6⟩
  go_wp2_with fail
  go_ret
  exact ⟨rfl, bnext (bnext (bnext (bnext (bnext b1 b2) b3) b4) b5) b6⟩

set_option maxRecDepth 100000 in
theorem aluLogic_lifted (os : Os) (started : os.Started) (H : Type) (enc : TypeId × Value → H) :
    ReturnsInHanded {} Try.checked os 8 .any (Rows.aluLogicSpec.pre6 enc Try.prog Try.f8 Rows.aluLogicRow.domain false) (Rows.aluLogicSpec.post enc Try.prog Try.f8 false true false false) := by
  refine returnsInHanded_of_change (C := Try.checked) own started (by kernel_rfl) Try.func8
    (ChangeSpec.witness6 (enc := enc) (C := Try.checked) false ⟨#[], #[.int .i64 0, .int .i64 0, .int .i64 0], []⟩ 8 (by kernel_rfl) (by kernel_rfl) (by kernel_rfl) (by kernel_rfl)) ?_
  intro W base args ds gs before hval0 hW hcnd _
  have hval : ∀ (j : Nat) t v, Try.f8.params[j]? = some t → args[j]? = some v → Value.okWide Try.prog W .any base t v := hval0
  have hW' := hW
  obtain ⟨p, q, hA0, hV, rfl, hfz, hnd⟩ := hW
  have hA : DataW.TrodAll enc Try.prog W 0 (fun _ => true) true Try.f8.params.toList args.toList ds p := hA0
  rw [Try.params8] at hA hval
  obtain ⟨v0, vs0, d0, ds0, p0, q0, hargs, rfl, rfl, h0, r0⟩ := trodAll_cons hA
  obtain ⟨v1, vs1, d1, ds1, p1, q1, rfl, rfl, rfl, h1, r1⟩ := trodAll_cons r0
  obtain ⟨v2, vs2, d2, ds2, p2, q2, rfl, rfl, rfl, h2, r2⟩ := trodAll_cons r1
  obtain ⟨rfl, rfl, rfl⟩ := trodAll_nil r2
  obtain rfl : args = #[v0, v1, v2] := by cases args; simp_all
  obtain ⟨rfl, rfl⟩ := trodVars_none hV
  obtain ⟨a0, rfl, rfl, rfl, w0⟩ := open_int Try.underlying3 (hval 0 3 v0 rfl rfl) h0
  obtain ⟨a1, rfl, rfl, rfl, w1⟩ := open_int Try.underlying3 (hval 1 3 v1 rfl rfl) h1
  obtain ⟨a2, rfl, rfl, rfl, w2⟩ := open_int Try.underlying3 (hval 2 3 v2 rfl rfl) h2
  clear hA0 hval0
  refine (aluLogic_walk a0 a1 a2 w0 w1 w2 W).mono fun e W' ⟨he, bel⟩ => ?_
  subst he
  exact ⟨_, rfl, _, _, _, [], _, [], hW', trodAll_mk1 (shut_bool Try.underlying4 _), (trodAll_cons_mk (shut_int Try.underlying3 w0) (trodAll_cons_mk (shut_int Try.underlying3 w1) (trodAll_cons_mk (shut_int Try.underlying3 w2) trodAll_mk0))), rfl, bel.frame _, fun h => by cases h⟩

theorem aluLogic_over : Rows.aluLogicRow.holds Try.pinned (OpenSpec.ofChange Rows.aluLogicSpec) :=
  OpenClaim.holds_of_wide 8 Try.f8 rfl rfl rfl rfl rfl rfl rfl ⟨rfl, rfl, rfl, rfl, rfl⟩ rfl rfl rfl rfl rfl (by kernel_rfl) Try.func8 (by kernel_rfl)
    (of_decide_eq_true (by kernel_rfl)) (by unfold Func.isWrapper; first | (rw [if_pos (by decide +kernel)]; kernel_rfl) | (rw [if_neg (by decide +kernel)]; exact ⟨rfl, rfl⟩))
    (fun os started H enc _ => aluLogic_lifted os started H enc)

theorem aluLogic_holds : Rows.AluLogicSaid := aluLogic_over
#print axioms aluLogic_holds
end Go.Proofs.Ytjainjpfmmonbaa
