/- For every number the law AluShifts of layer 2 returns true: what is shifted to the left, and back, is what it was without its highest bit, that was carried. No condition. -/
import Derived.Test.YtjainjpfmmonbabAluDo
import Derived.Test.YtjainjpfmmonbabPlainLaw
namespace Go.Proofs.Ytjainjpfmmonbab
open Go.ChangeShapes Go.WideShapes Go.ChangeAt Go.RowKit
open Go.ChangeMaps (open_string shut_string)
set_option linter.unusedVariables false
theorem own : ownKnob Try.prog.godebug = none := by kernel_rfl

theorem aluShifts_walk (a0 : Int) (w0 : (Lit.int .i64 a0).wf = true) (w : World) :
    Calls Try.prog 4 #[.int .i64 a0] w fun e w' => e = .returned (.bool true) ∧ Below w.heap.size w w' := by
  have hm := isByte_mod a0
  have hx := and_255 a0
  generalize a0 % 256 = m at *
  have m0 := hm.1
  have m1 := hm.2
  have hl : IsByte (m * 2 % 256) := isByte_mod _
  obtain ⟨p, hp⟩ : ∃ p, doOf 9 0 m 0 = (m * 2 % 256, p) := ⟨_, rfl⟩
  have h7 : m % 128 = m * 2 % 256 / 2 := by omega
  obtain ⟨q, hq⟩ : ∃ q, doOf 11 0 (m * 2 % 256) 0 = (m % 128, q) := by rw [h7]; exact ⟨_, rfl⟩
  clear h7
  obtain ⟨s, hs⟩ : ∃ s, doOf 11 0 m 0 = (m / 2, s) := ⟨_, rfl⟩
  have c1 := hide (do_ok 9 0 m 0 _ _ b0 hm b0 hp)
  have c2 := hide (do_ok 11 0 (m * 2 % 256) 0 _ _ b0 hl b0 hq)
  have c3 := hide (do_ok 11 0 m 0 _ _ b0 hm b0 hs)
  have e1 : bits .and .i64 m 127 = m % 128 := and_127 m
  have e2 : bits .and .i64 p 1 = m / 128 := by
    have h : p = setOf (nzOf 0 (m * 2 % 256)) 1 (decide (128 ≤ m)) := (congrArg Prod.snd hp).symm
    rw [h, and_1, set1_mod]; by_cases h : 128 ≤ m <;> simp [h, b01] <;> omega
  have e3 : bits .and .i64 q 1 = 0 := by
    have h : q = setOf (nzOf 0 (m * 2 % 256 / 2)) 1 (decide (m * 2 % 256 % 2 = 1)) := (congrArg Prod.snd hq).symm
    have h' : decide (m * 2 % 256 % 2 = 1) = false := by simp only [decide_eq_false_iff_not]; omega
    rw [h, and_1, set1_mod, h']; rfl
  have e4 : bits .and .i64 s 1 = m % 2 := by
    have h : s = setOf (nzOf 0 (m / 2)) 1 (decide (m % 2 = 1)) := (congrArg Prod.snd hs).symm
    rw [h, and_1, set1_mod]; by_cases h : m % 2 = 1 <;> simp [h, b01] <;> omega
  have e5 : bits .and .i64 m 1 = m % 2 := and_1 m
  have e6 : bits .and .i64 (m * 2) 255 = m * 2 % 256 := and_255 _
  clear hp hq hs
  go_enter Try.func4, Try.ntmps4
  go_wp2_with fail
  refine (c1.out _).mono ?_
  rintro e w1 ⟨rfl, b1⟩
  go_wp2_with fail
  refine (c2.out _).mono ?_
  rintro e w2 ⟨rfl, b2⟩
  go_wp2_with fail
  refine (c3.out _).mono ?_
  rintro e w3 ⟨rfl, b3⟩
  go_wp2_with fail
  go_ret
  exact ⟨rfl, bnext (bnext b1 b2) b3⟩

set_option maxRecDepth 100000 in
theorem aluShifts_lifted (os : Os) (started : os.Started) (H : Type) (enc : TypeId × Value → H) :
    ReturnsInHanded {} Try.checked os 4 .any (Rows.aluShiftsSpec.pre6 enc Try.prog Try.f4 Rows.aluShiftsRow.domain false) (Rows.aluShiftsSpec.post enc Try.prog Try.f4 false true false false) := by
  refine returnsInHanded_of_change (C := Try.checked) own started (by kernel_rfl) Try.func4
    (ChangeSpec.witness6 (enc := enc) (C := Try.checked) false ⟨#[], #[.int .i64 0], []⟩ 8 (by kernel_rfl) (by kernel_rfl) (by kernel_rfl) (by kernel_rfl)) ?_
  intro W base args ds gs before hval0 hW hcnd _
  have hval : ∀ (j : Nat) t v, Try.f4.params[j]? = some t → args[j]? = some v → Value.okWide Try.prog W .any base t v := hval0
  have hW' := hW
  obtain ⟨p, q, hA0, hV, rfl, hfz, hnd⟩ := hW
  have hA : DataW.TrodAll enc Try.prog W 0 (fun _ => true) true Try.f4.params.toList args.toList ds p := hA0
  rw [Try.params4] at hA hval
  obtain ⟨v0, vs0, d0, ds0, p0, q0, hargs, rfl, rfl, h0, r0⟩ := trodAll_cons hA
  obtain ⟨rfl, rfl, rfl⟩ := trodAll_nil r0
  obtain rfl : args = #[v0] := by cases args; simp_all
  obtain ⟨rfl, rfl⟩ := trodVars_none hV
  obtain ⟨a0, rfl, rfl, rfl, w0⟩ := open_int Try.underlying3 (hval 0 3 v0 rfl rfl) h0
  clear hA0 hval0
  refine (aluShifts_walk a0 w0 W).mono fun e W' ⟨he, bel⟩ => ?_
  subst he
  exact ⟨_, rfl, _, _, _, [], _, [], hW', trodAll_mk1 (shut_bool Try.underlying4 _), (trodAll_cons_mk (shut_int Try.underlying3 w0) trodAll_mk0), rfl, bel.frame _, fun h => by cases h⟩

theorem aluShifts_over : Rows.aluShiftsRow.holds Try.pinned (OpenSpec.ofChange Rows.aluShiftsSpec) :=
  OpenClaim.holds_of_wide 4 Try.f4 rfl rfl rfl rfl rfl rfl rfl ⟨rfl, rfl, rfl, rfl, rfl⟩ rfl rfl rfl rfl rfl (by kernel_rfl) Try.func4 (by kernel_rfl)
    (of_decide_eq_true (by kernel_rfl)) (by unfold Func.isWrapper; first | (rw [if_pos (by decide +kernel)]; kernel_rfl) | (rw [if_neg (by decide +kernel)]; exact ⟨rfl, rfl⟩))
    (fun os started H enc _ => aluShifts_lifted os started H enc)

theorem aluShifts_holds : Rows.AluShiftsSaid := aluShifts_over
#print axioms aluShifts_holds
end Go.Proofs.Ytjainjpfmmonbab
