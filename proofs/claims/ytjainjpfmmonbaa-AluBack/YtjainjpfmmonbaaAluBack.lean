/- For every two numbers and a bool the law AluBack of layer 2 returns true: what is added, and then taken away, is what it was; a sum of decimal numbers is their decimal sum, and a difference their difference. No condition. -/
import Derived.Test.YtjainjpfmmonbaaAluDo
import Derived.Test.YtjainjpfmmonbaaPlainLaw
namespace Go.Proofs.Ytjainjpfmmonbaa
open Go.ChangeShapes Go.WideShapes Go.ChangeAt Go.RowKit
open Go.ChangeMaps (open_string shut_string)
set_option linter.unusedVariables false
theorem own : ownKnob Try.prog.godebug = none := by kernel_rfl

theorem bcd_any (n : Int) (w : World) (h0 : 0 ≤ n) (h1 : n < 100) :
    Calls Try.prog 13 #[.int .i64 n] w fun e w' => e = .returned (.int .i64 (bcdOf n)) ∧ w' = w := by
  go_enter Try.func13, Try.ntmps13
  go_wp2
  go_ret
  exact ⟨rfl, rfl⟩

set_option maxHeartbeats 1600000 in
theorem aluBack_0 (a0 a1 : Int) (w : World) :
    Calls Try.prog 5 #[.int .i64 a0, .int .i64 a1, .bool false] w fun e w' => e = .returned (.bool true) ∧ Below w.heap.size w w' := by
  have ha := isByte_mod a0
  have hm := isByte_mod a1
  have hx := and_255 a0
  have hy := and_255 a1
  generalize a0 % 256 = a at *
  generalize a1 % 256 = m at *
  have hc : (0 : Int) ≤ 0 ∧ (0 : Int) ≤ 1 := by decide
  obtain ⟨q1, d1, k1⟩ := add_two ha hm hc
  obtain ⟨q2, d2⟩ := sub_two ha hm hc
  have bx : 0 ≤ a % 100 ∧ a % 100 < 100 := by omega
  have by' : 0 ≤ m % 100 ∧ m % 100 < 100 := by omega
  obtain ⟨q3, d3, k3⟩ := add_ten bx by' hc
  obtain ⟨q4, d4, k4⟩ := sub_ten bx by' hc
  have c1 := hide (do_ok 3 _ _ 0 _ _ ha hm ⟨by decide, by decide⟩ d1)
  have c2 := hide (do_ok 4 _ _ 1 _ _ (isByte_mod _) hm ⟨by decide, by decide⟩ d2)
  have c3 := hide (do_ok 3 _ _ 8 _ _ (bcd_byte bx) (bcd_byte by') ⟨by decide, by decide⟩ d3)
  have c4 := hide (do_ok 4 _ _ 8 _ _ (bcd_byte bx) (bcd_byte by') ⟨by decide, by decide⟩ d4)
  have g1 := and_1 q1
  rw [k1] at g1
  have g3 : (bits .and .i64 q3 1 == 1) = decide (99 < a % 100 + m % 100 + 0) := by rw [and_1, k3, b01_is]
  have g4 : (bits .and .i64 q4 1 == 1) = decide (0 ≤ a % 100 - m % 100 - 1 + 0) := by rw [and_1, k4, b01_is]
  have g5 := and_255 (a + m + 0)
  obtain ⟨m0, m1⟩ := hm
  obtain ⟨a0', a1'⟩ := ha
  clear d1 d2 d3 d4 k1 k3 k4 hc
  simp only [Int.add_zero] at *
  generalize hX : a % 100 = x at *
  generalize hY : m % 100 = y at *
  generalize hR : (a + m) % 256 = r at *
  generalize hK : (a + m) / 256 = k at *
  have n1 := hide hR
  clear hR
  go_enter Try.func5, Try.ntmps5
  go_wp2_with fail
  refine (c1.out _).mono ?_
  rintro e w1 ⟨rfl, b1⟩
  go_wp2_with fail
  refine (c2.out _).mono ?_
  rintro e w2 ⟨rfl, b2⟩
  go_wp2_with (first | (go_at_call 13; refine (bcd_any _ _ (by omega) (by omega)).mono ?_; rintro e w' ⟨rfl, rfl⟩))
  refine (c3.out _).mono ?_
  rintro e w3 ⟨rfl, b3⟩
  go_wp2_with (first | (go_at_call 13; refine (bcd_any _ _ (by omega) (by omega)).mono ?_; rintro e w' ⟨rfl, rfl⟩))
  refine (c4.out _).mono ?_
  rintro e w4 ⟨rfl, b4⟩
  go_wp2_with (first | (go_at_call 13; refine (bcd_any _ _ (by omega) (by omega)).mono ?_; rintro e w' ⟨rfl, rfl⟩))
  go_ret
  exact ⟨rfl, bnext (bnext (bnext b1 b2) b3) b4⟩

set_option maxHeartbeats 1600000 in
theorem aluBack_1 (a0 a1 : Int) (w : World) :
    Calls Try.prog 5 #[.int .i64 a0, .int .i64 a1, .bool true] w fun e w' => e = .returned (.bool true) ∧ Below w.heap.size w w' := by
  have ha := isByte_mod a0
  have hm := isByte_mod a1
  have hx := and_255 a0
  have hy := and_255 a1
  generalize a0 % 256 = a at *
  generalize a1 % 256 = m at *
  have hc : (0 : Int) ≤ 1 ∧ (1 : Int) ≤ 1 := by decide
  obtain ⟨q1, d1, k1⟩ := add_two ha hm hc
  obtain ⟨q2, d2⟩ := sub_two ha hm hc
  have bx : 0 ≤ a % 100 ∧ a % 100 < 100 := by omega
  have by' : 0 ≤ m % 100 ∧ m % 100 < 100 := by omega
  obtain ⟨q3, d3, k3⟩ := add_ten bx by' hc
  obtain ⟨q4, d4, k4⟩ := sub_ten bx by' hc
  have c1 := hide (do_ok 3 _ _ 1 _ _ ha hm ⟨by decide, by decide⟩ d1)
  have c2 := hide (do_ok 4 _ _ 0 _ _ (isByte_mod _) hm ⟨by decide, by decide⟩ d2)
  have c3 := hide (do_ok 3 _ _ 9 _ _ (bcd_byte bx) (bcd_byte by') ⟨by decide, by decide⟩ d3)
  have c4 := hide (do_ok 4 _ _ 9 _ _ (bcd_byte bx) (bcd_byte by') ⟨by decide, by decide⟩ d4)
  have g1 := and_1 q1
  rw [k1] at g1
  have g3 : (bits .and .i64 q3 1 == 1) = decide (99 < a % 100 + m % 100 + 1) := by rw [and_1, k3, b01_is]
  have g4 : (bits .and .i64 q4 1 == 1) = decide (0 ≤ a % 100 - m % 100 - 1 + 1) := by rw [and_1, k4, b01_is]
  have g5 := and_255 (a + m + 1)
  obtain ⟨m0, m1⟩ := hm
  obtain ⟨a0', a1'⟩ := ha
  clear d1 d2 d3 d4 k1 k3 k4 hc
  simp only [Int.sub_add_cancel] at *
  generalize hX : a % 100 = x at *
  generalize hY : m % 100 = y at *
  generalize hR : (a + m + 1) % 256 = r at *
  generalize hK : (a + m + 1) / 256 = k at *
  have n1 := hide hR
  clear hR
  go_enter Try.func5, Try.ntmps5
  go_wp2_with fail
  refine (c1.out _).mono ?_
  rintro e w1 ⟨rfl, b1⟩
  go_wp2_with fail
  refine (c2.out _).mono ?_
  rintro e w2 ⟨rfl, b2⟩
  go_wp2_with (first | (go_at_call 13; refine (bcd_any _ _ (by omega) (by omega)).mono ?_; rintro e w' ⟨rfl, rfl⟩))
  refine (c3.out _).mono ?_
  rintro e w3 ⟨rfl, b3⟩
  go_wp2_with (first | (go_at_call 13; refine (bcd_any _ _ (by omega) (by omega)).mono ?_; rintro e w' ⟨rfl, rfl⟩))
  refine (c4.out _).mono ?_
  rintro e w4 ⟨rfl, b4⟩
  go_wp2_with (first | (go_at_call 13; refine (bcd_any _ _ (by omega) (by omega)).mono ?_; rintro e w' ⟨rfl, rfl⟩))
  go_ret
  exact ⟨rfl, bnext (bnext (bnext b1 b2) b3) b4⟩

theorem aluBack_walk (a0 a1 : Int) (a2 : Bool) (w0 : (Lit.int .i64 a0).wf = true) (w1 : (Lit.int .i64 a1).wf = true) (w : World) :
    Calls Try.prog 5 #[.int .i64 a0, .int .i64 a1, .bool a2] w fun e w' => e = .returned (.bool true) ∧ Below w.heap.size w w' := by
  cases a2
  · exact aluBack_0 a0 a1 w
  · exact aluBack_1 a0 a1 w

set_option maxRecDepth 100000 in
theorem aluBack_lifted (os : Os) (started : os.Started) (H : Type) (enc : TypeId × Value → H) :
    ReturnsInHanded {} Try.checked os 5 .any (Rows.aluBackSpec.pre6 enc Try.prog Try.f5 Rows.aluBackRow.domain false) (Rows.aluBackSpec.post enc Try.prog Try.f5 false true false false) := by
  refine returnsInHanded_of_change (C := Try.checked) own started (by kernel_rfl) Try.func5
    (ChangeSpec.witness6 (enc := enc) (C := Try.checked) false ⟨#[], #[.int .i64 0, .int .i64 0, .bool false], []⟩ 8 (by kernel_rfl) (by kernel_rfl) (by kernel_rfl) (by kernel_rfl)) ?_
  intro W base args ds gs before hval0 hW hcnd _
  have hval : ∀ (j : Nat) t v, Try.f5.params[j]? = some t → args[j]? = some v → Value.okWide Try.prog W .any base t v := hval0
  have hW' := hW
  obtain ⟨p, q, hA0, hV, rfl, hfz, hnd⟩ := hW
  have hA : DataW.TrodAll enc Try.prog W 0 (fun _ => true) true Try.f5.params.toList args.toList ds p := hA0
  rw [Try.params5] at hA hval
  obtain ⟨v0, vs0, d0, ds0, p0, q0, hargs, rfl, rfl, h0, r0⟩ := trodAll_cons hA
  obtain ⟨v1, vs1, d1, ds1, p1, q1, rfl, rfl, rfl, h1, r1⟩ := trodAll_cons r0
  obtain ⟨v2, vs2, d2, ds2, p2, q2, rfl, rfl, rfl, h2, r2⟩ := trodAll_cons r1
  obtain ⟨rfl, rfl, rfl⟩ := trodAll_nil r2
  obtain rfl : args = #[v0, v1, v2] := by cases args; simp_all
  obtain ⟨rfl, rfl⟩ := trodVars_none hV
  obtain ⟨a0, rfl, rfl, rfl, w0⟩ := open_int Try.underlying3 (hval 0 3 v0 rfl rfl) h0
  obtain ⟨a1, rfl, rfl, rfl, w1⟩ := open_int Try.underlying3 (hval 1 3 v1 rfl rfl) h1
  obtain ⟨a2, rfl, rfl, rfl⟩ := open_bool Try.underlying4 (hval 2 4 v2 rfl rfl) h2
  clear hA0 hval0
  refine (aluBack_walk a0 a1 a2 w0 w1 W).mono fun e W' ⟨he, bel⟩ => ?_
  subst he
  exact ⟨_, rfl, _, _, _, [], _, [], hW', trodAll_mk1 (shut_bool Try.underlying4 _), (trodAll_cons_mk (shut_int Try.underlying3 w0) (trodAll_cons_mk (shut_int Try.underlying3 w1) (trodAll_cons_mk (shut_bool Try.underlying4 _) trodAll_mk0))), rfl, bel.frame _, fun h => by cases h⟩

theorem aluBack_over : Rows.aluBackRow.holds Try.pinned (OpenSpec.ofChange Rows.aluBackSpec) :=
  OpenClaim.holds_of_wide 5 Try.f5 rfl rfl rfl rfl rfl rfl rfl ⟨rfl, rfl, rfl, rfl, rfl⟩ rfl rfl rfl rfl rfl (by kernel_rfl) Try.func5 (by kernel_rfl)
    (of_decide_eq_true (by kernel_rfl)) (by unfold Func.isWrapper; first | (rw [if_pos (by decide +kernel)]; kernel_rfl) | (rw [if_neg (by decide +kernel)]; exact ⟨rfl, rfl⟩))
    (fun os started H enc _ => aluBack_lifted os started H enc)

theorem aluBack_holds : Rows.AluBackSaid := aluBack_over
#print axioms aluBack_holds
end Go.Proofs.Ytjainjpfmmonbaa
