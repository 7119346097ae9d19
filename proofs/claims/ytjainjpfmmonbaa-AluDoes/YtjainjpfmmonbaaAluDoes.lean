/- For every operation, two numbers and flags the law AluDoes of layer 2 returns true: any operation of any bytes, with any flags, has the document's result and flags. No condition. -/
import Derived.Test.YtjainjpfmmonbaaPlainLaw
import Derived.Test.YtjainjpfmmonbaaRef2Do
import Derived.Test.YtjainjpfmmonbaaArrays
namespace Go.Proofs.Ytjainjpfmmonbaa
open Go.ChangeShapes Go.WideShapes Go.ChangeAt Go.RowKit
open Go.ChangeMaps (open_string shut_string)
set_option linter.unusedVariables false
theorem own : ownKnob Try.prog.godebug = none := by kernel_rfl

theorem two_of (l : List Int) (h : l.length = 2) : ∃ a b, l = [a, b] := by
  match l, h with
  | [a, b], _ => exact ⟨a, b, rfl⟩

theorem aluDoes_walk (a0 : Int) (z1 : List Int) (a2 : Int) (w0 : (Lit.int .i64 a0).wf = true) (l1 : z1.length = 2) (w1 : ∀ z ∈ z1, (Lit.int .i64 z).wf = true) (w2 : (Lit.int .i64 a2).wf = true) (w : World) :
    Calls Try.prog 3 #[.int .i64 a0, .agg (z1.map (Value.int .i64)).toArray, .int .i64 a2] w fun e w' => e = .returned (.bool true) ∧ Below w.heap.size w w' := by
  obtain ⟨x, y, rfl⟩ := two_of z1 l1
  have c1 := hide (do_any a0 x y a2)
  have c2 := hide (rdo_any a0 x y a2)
  generalize (doOf a0 (x % 256) (y % 256) (a2 % 256)).1 = r at *
  generalize (doOf a0 (x % 256) (y % 256) (a2 % 256)).2 = q at *
  have c3 := hide (do_ok 3 88 70 9 5 9 ⟨by decide, by decide⟩ ⟨by decide, by decide⟩ ⟨by decide, by decide⟩ (by decide +kernel))
  have c4 := hide (nz_any a2 x)
  have c5 := hide (rnz_any a2 x)
  simp only [List.map]
  go_enter Try.func3, Try.ntmps3
  go_wp2_with fail
  have hsz : (w.alloc (.cells #[.int .i64 x, .int .i64 y] 22)).heap.size = w.heap.size + 1 := by simp
  have k0 : (w.alloc (.cells #[.int .i64 x, .int .i64 y] 22)).cell? ⟨w.heap.size, 0, none⟩ = some (.int .i64 x) := alloc_row w [x, y] _ _ rfl 0 (Nat.succ_pos _)
  have k1 : (w.alloc (.cells #[.int .i64 x, .int .i64 y] 22)).cell? ⟨w.heap.size, 1, none⟩ = some (.int .i64 y) := alloc_row w [x, y] _ _ rfl 1 (Nat.lt_succ_self _)
  have B0 : Below w.heap.size w (w.alloc (.cells #[.int .i64 x, .int .i64 y] 22)) := (Below.refl _ _).alloc (Nat.le_refl _) _
  generalize w.alloc (.cells #[.int .i64 x, .int .i64 y] 22) = wa at *
  refine (c1.out _).mono ?_
  rintro e wb ⟨rfl, b1⟩
  have x0 := (b1.cell (p := ⟨w.heap.size, 0, none⟩) (by rw [hsz]; exact Nat.lt_succ_self _)).trans k0
  have x1 := (b1.cell (p := ⟨w.heap.size, 1, none⟩) (by rw [hsz]; exact Nat.lt_succ_self _)).trans k1
  have B1 := bnext B0 b1
  have s1 : w.heap.size < wb.heap.size := by have := b1.size; omega
  clear k0 k1 hsz b1
  go_wp2_with fail
  refine (c2.out _).mono ?_
  rintro e wc ⟨rfl, rfl⟩
  go_wp2_with fail
  refine (c3.out _).mono ?_
  rintro e wd ⟨rfl, b2⟩
  have y0 := (b2.cell (p := ⟨w.heap.size, 0, none⟩) s1).trans x0
  have B2 := bnext B1 b2
  clear x0 x1 b2 B1 s1
  go_wp2_with fail
  go_quiet (first | (go_at_call 11; exact Calls.quiet_of_same (nz_any _ _ _)) | (go_at_call 12; exact Calls.quiet_of_same (rnz_any _ _ _)))
  go_wp2
  go_ret
  exact ⟨rfl, below_drew B2 _⟩

set_option maxRecDepth 100000 in
theorem aluDoes_lifted (os : Os) (started : os.Started) (H : Type) (enc : TypeId × Value → H) :
    ReturnsInHanded {} Try.checked os 3 .any (Rows.aluDoesSpec.pre6 enc Try.prog Try.f3 Rows.aluDoesRow.domain false) (Rows.aluDoesSpec.post enc Try.prog Try.f3 false true false false) := by
  refine returnsInHanded_of_change (C := Try.checked) own started (by kernel_rfl) Try.func3
    (ChangeSpec.witness6 (enc := enc) (C := Try.checked) false ⟨#[], #[.int .i64 0, .agg #[.int .i64 0, .int .i64 0], .int .i64 0], []⟩ 8 (by kernel_rfl) (by kernel_rfl) (by kernel_rfl) (by kernel_rfl)) ?_
  intro W base args ds gs before hval0 hW hcnd _
  have hval : ∀ (j : Nat) t v, Try.f3.params[j]? = some t → args[j]? = some v → Value.okWide Try.prog W .any base t v := hval0
  have hW' := hW
  obtain ⟨p, q, hA0, hV, rfl, hfz, hnd⟩ := hW
  have hA : DataW.TrodAll enc Try.prog W 0 (fun _ => true) true Try.f3.params.toList args.toList ds p := hA0
  rw [Try.params3] at hA hval
  obtain ⟨v0, vs0, d0, ds0, p0, q0, hargs, rfl, rfl, h0, r0⟩ := trodAll_cons hA
  obtain ⟨v1, vs1, d1, ds1, p1, q1, rfl, rfl, rfl, h1, r1⟩ := trodAll_cons r0
  obtain ⟨v2, vs2, d2, ds2, p2, q2, rfl, rfl, rfl, h2, r2⟩ := trodAll_cons r1
  obtain ⟨rfl, rfl, rfl⟩ := trodAll_nil r2
  obtain rfl : args = #[v0, v1, v2] := by cases args; simp_all
  obtain ⟨rfl, rfl⟩ := trodVars_none hV
  obtain ⟨a0, rfl, rfl, rfl, w0⟩ := open_int Try.underlying3 (hval 0 3 v0 rfl rfl) h0
  have k1 := h1
  have lt1 : ∀ x ∈ p1, x.block < W.heap.size := by obtain ⟨m, hm⟩ := k1; exact DataW.trod_lt m _ _ _ hm
  obtain ⟨z1, l1, rfl, w1⟩ := open_array_ints Try.underlying22 Try.underlying3 (by kernel_rfl) (by kernel_rfl) (hval 1 22 v1 rfl rfl) h1
  obtain ⟨a2, rfl, rfl, rfl, w2⟩ := open_int Try.underlying3 (hval 2 3 v2 rfl rfl) h2
  clear hA0 hval0
  refine (aluDoes_walk a0 z1 a2 w0 l1 w1 w2 W).mono fun e W' ⟨he, bel⟩ => ?_
  subst he
  exact ⟨_, rfl, _, _, _, [], _, [], hW', trodAll_mk1 (shut_bool Try.underlying4 _), (trodAll_cons_mk (shut_int Try.underlying3 w0) (trodAll_cons_mk (Below.trod laidOut (by kernel_rfl) (of_decide_eq_true (by kernel_rfl)) k1 bel lt1) (trodAll_cons_mk (shut_int Try.underlying3 w2) trodAll_mk0))), rfl, bel.frame _, fun h => by cases h⟩

theorem aluDoes_over : Rows.aluDoesRow.holds Try.pinned (OpenSpec.ofChange Rows.aluDoesSpec) :=
  OpenClaim.holds_of_wide 3 Try.f3 rfl rfl rfl rfl rfl rfl rfl ⟨rfl, rfl, rfl, rfl, rfl⟩ rfl rfl rfl rfl rfl (by kernel_rfl) Try.func3 (by kernel_rfl)
    (of_decide_eq_true (by kernel_rfl)) (by unfold Func.isWrapper; first | (rw [if_pos (by decide +kernel)]; kernel_rfl) | (rw [if_neg (by decide +kernel)]; exact ⟨rfl, rfl⟩))
    (fun os started H enc _ => aluDoes_lifted os started H enc)

theorem aluDoes_holds : Rows.AluDoesSaid := aluDoes_over
#print axioms aluDoes_holds
end Go.Proofs.Ytjainjpfmmonbaa
