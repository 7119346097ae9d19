/- For every file and place the law MprSides of layer 5 returns true: places of one eighth stay side by side on the bus, and the bus has just the places that a byte and 13 bits have. No condition. -/
import Derived.Test.YtddifggepiljbaaPlainMpr
import Derived.Test.YtddifggepiljbaaArrays
namespace Go.Proofs.Ytddifggepiljbaa
open Go.ChangeShapes Go.WideShapes Go.ChangeAt Go.RowKit
open Go.ChangeMaps (open_string shut_string)
set_option linter.unusedVariables false
theorem own : ownKnob Try.prog.godebug = none := by kernel_rfl

theorem mprSides_walk (z0 : List Int) (a1 : Int) (l0 : z0.length = 8) (w0 : ∀ z ∈ z0, (Lit.int .i64 z).wf = true) (w1 : (Lit.int .i64 a1).wf = true) (w : World) :
    Calls Try.prog 4 #[.agg (z0.map (Value.int .i64)).toArray, .int .i64 a1] w fun e w' => e = .returned (.bool true) ∧ Below w.heap.size w w' := by
  obtain ⟨f, rfl⟩ := file_of z0 l0
  have x1 := phys_xor_1 f a1
  have x2 := phys_xor_4096 f a1
  have x3 := phys_le f a1
  have C1 := hide (phys_any f)
  have C2 := hide (phys_any (fun _ => 0) 65535)
  have e2 : physOf (fun _ => 0) 65535 = 8191 := by decide
  rw [e2] at C2
  simp only [List.map]
  go_enter Try.func4, Try.ntmps4
  go_wp2_with fail
  obtain ⟨wa, hwa⟩ : ∃ wa, wa = w.alloc (.cells #[.int .i64 (f 0), .int .i64 (f 1), .int .i64 (f 2), .int .i64 (f 3), .int .i64 (f 4), .int .i64 (f 5), .int .i64 (f 6), .int .i64 (f 7)] 22) := ⟨_, rfl⟩
  rw [← hwa]
  have hl : w.heap.size < wa.heap.size := by rw [hwa]; simp
  have ba : Below w.heap.size w wa := by rw [hwa]; exact (Below.refl _ w).alloc (Nat.le_refl _) _
  have d0 : wa.cell? ⟨w.heap.size, 0, none⟩ = some (.int .i64 (f 0)) := by rw [hwa]; simp
  have d1 : wa.cell? ⟨w.heap.size, 1, none⟩ = some (.int .i64 (f 1)) := by rw [hwa]; simp
  have d2 : wa.cell? ⟨w.heap.size, 2, none⟩ = some (.int .i64 (f 2)) := by rw [hwa]; simp
  have d3 : wa.cell? ⟨w.heap.size, 3, none⟩ = some (.int .i64 (f 3)) := by rw [hwa]; simp
  have d4 : wa.cell? ⟨w.heap.size, 4, none⟩ = some (.int .i64 (f 4)) := by rw [hwa]; simp
  have d5 : wa.cell? ⟨w.heap.size, 5, none⟩ = some (.int .i64 (f 5)) := by rw [hwa]; simp
  have d6 : wa.cell? ⟨w.heap.size, 6, none⟩ = some (.int .i64 (f 6)) := by rw [hwa]; simp
  have d7 : wa.cell? ⟨w.heap.size, 7, none⟩ = some (.int .i64 (f 7)) := by rw [hwa]; simp
  clear hwa
  have c0 := kept_cell d0 hl
  have c1 := kept_cell d1 hl
  have c2 := kept_cell d2 hl
  have c3 := kept_cell d3 hl
  have c4 := kept_cell d4 hl
  have c5 := kept_cell d5 hl
  have c6 := kept_cell d6 hl
  have c7 := kept_cell d7 hl
  haveI := kept_some wa
  refine wp_region_kept (by kernel_rfl) (by kernel_rfl) ?_
  repeat (go_big_quiet_step ((go_at_call 7; exact kept_call (C1.out _ _))))
  refine wpQuiet_nil ?_
  rintro _ ⟨wk, rfl⟩
  have b1 : Below w.heap.size w wk.val := ba.trans (wk.below.mono (Nat.le_of_lt hl))
  go_wp2_with fail
  refine (C1.out _ _).mono ?_
  rintro e w2 ⟨rfl, b2⟩
  have B2 := hide (bnext b1 b2)
  clear b1 b2 c0 c1 c2 c3 c4 c5 c6 c7 d0 d1 d2 d3 d4 d5 d6 d7 ba
  go_wp2_with fail
  refine (C2.out _).mono ?_
  rintro e w3 ⟨rfl, b3⟩
  go_wp2_with fail
  go_ret
  exact ⟨rfl, bnext B2.out b3⟩

set_option maxRecDepth 100000 in
theorem mprSides_lifted (os : Os) (started : os.Started) (H : Type) (enc : TypeId × Value → H) :
    ReturnsInHanded {} Try.checked os 4 .any (Rows.mprSidesSpec.pre6 enc Try.prog Try.f4 Rows.mprSidesRow.domain false) (Rows.mprSidesSpec.post enc Try.prog Try.f4 false true false false) := by
  refine returnsInHanded_of_change (C := Try.checked) own started (by kernel_rfl) Try.func4
    (ChangeSpec.witness6 (enc := enc) (C := Try.checked) false ⟨#[], #[.agg #[.int .i64 0, .int .i64 0, .int .i64 0, .int .i64 0, .int .i64 0, .int .i64 0, .int .i64 0, .int .i64 0], .int .i64 0], []⟩ 8 (by kernel_rfl) (by kernel_rfl) (by kernel_rfl) (by kernel_rfl)) ?_
  intro W base args ds gs before hval0 hW hcnd _
  have hval : ∀ (j : Nat) t v, Try.f4.params[j]? = some t → args[j]? = some v → Value.okWide Try.prog W .any base t v := hval0
  have hW' := hW
  obtain ⟨p, q, hA0, hV, rfl, hfz, hnd⟩ := hW
  have hA : DataW.TrodAll enc Try.prog W 0 (fun _ => true) true Try.f4.params.toList args.toList ds p := hA0
  rw [Try.params4] at hA hval
  obtain ⟨v0, vs0, d0, ds0, p0, q0, hargs, rfl, rfl, h0, r0⟩ := trodAll_cons hA
  obtain ⟨v1, vs1, d1, ds1, p1, q1, rfl, rfl, rfl, h1, r1⟩ := trodAll_cons r0
  obtain ⟨rfl, rfl, rfl⟩ := trodAll_nil r1
  obtain rfl : args = #[v0, v1] := by cases args; simp_all
  obtain ⟨rfl, rfl⟩ := trodVars_none hV
  have k0 := h0
  have lt0 : ∀ x ∈ p0, x.block < W.heap.size := by obtain ⟨m, hm⟩ := k0; exact DataW.trod_lt m _ _ _ hm
  obtain ⟨z0, l0, rfl, w0⟩ := open_array_ints Try.underlying22 Try.underlying3 (by kernel_rfl) (by kernel_rfl) (hval 0 22 v0 rfl rfl) h0
  obtain ⟨a1, rfl, rfl, rfl, w1⟩ := open_int Try.underlying3 (hval 1 3 v1 rfl rfl) h1
  clear hA0 hval0
  refine (mprSides_walk z0 a1 l0 w0 w1 W).mono fun e W' ⟨he, bel⟩ => ?_
  subst he
  exact ⟨_, rfl, _, _, _, [], _, [], hW', trodAll_mk1 (shut_bool Try.underlying4 _), (trodAll_cons_mk (Below.trod laidOut (by kernel_rfl) (of_decide_eq_true (by kernel_rfl)) k0 bel lt0) (trodAll_cons_mk (shut_int Try.underlying3 w1) trodAll_mk0)), rfl, bel.frame _, fun h => by cases h⟩

theorem mprSides_over : Rows.mprSidesRow.holds Try.pinned (OpenSpec.ofChange Rows.mprSidesSpec) :=
  OpenClaim.holds_of_wide 4 Try.f4 rfl rfl rfl rfl rfl rfl rfl ⟨rfl, rfl, rfl, rfl, rfl⟩ rfl rfl rfl rfl rfl (by kernel_rfl) Try.func4 (by kernel_rfl)
    (of_decide_eq_true (by kernel_rfl)) (by unfold Func.isWrapper; first | (rw [if_pos (by decide +kernel)]; kernel_rfl) | (rw [if_neg (by decide +kernel)]; exact ⟨rfl, rfl⟩))
    (fun os started H enc _ => mprSides_lifted os started H enc)

theorem mprSides_holds : Rows.MprSidesSaid := mprSides_over
#print axioms mprSides_holds

end Go.Proofs.Ytddifggepiljbaa
