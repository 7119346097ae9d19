/- For every mode, registers, operand and pointer the law ModeTells of layer 8 returns true: any mode, with any registers and operand, has the document's pointer and place; any branch its target. No condition. -/
import Derived.Test.YthjncomokbnegaaRef8
import Derived.Test.YthjncomokbnegaaArrays
import Derived.Deep.RegionWith
namespace Go.Proofs.Ythjncomokbnegaa
open Go.ChangeShapes Go.WideShapes Go.ChangeAt Go.RowKit
open Go.ChangeMaps (open_string shut_string)
set_option linter.unusedVariables false
theorem own : ownKnob Try.prog.godebug = none := by kernel_rfl

theorem two_of (l : List Int) (h : l.length = 2) : ∃ a b, l = [a, b] := by
  match l, h with
  | [a, b], _ => exact ⟨a, b, rfl⟩
/-- Block b holds two numbers. -/
def Has2 (w : World) (b : Nat) (x y : Int) : Prop :=
  b < w.heap.size ∧ w.cell? ⟨b, 0, none⟩ = some (.int .i64 x) ∧ w.cell? ⟨b, 1, none⟩ = some (.int .i64 y)
theorem Has2.next {w w' : World} {b : Nat} {x y : Int} (h : Has2 w b x y) (k : Below w.heap.size w w') : Has2 w' b x y := by
  obtain ⟨h0, h1, h2⟩ := h
  exact ⟨Nat.lt_of_lt_of_le h0 k.size, (k.cell (p := ⟨b, 0, none⟩) h0).trans h1, (k.cell (p := ⟨b, 1, none⟩) h0).trans h2⟩
theorem abs_five (w : World) : Calls Try.prog 9 #[.int .i64 9, .agg #[.int .i64 0, .int .i64 0], .int .i64 5, .int .i64 0] w fun e w' => e = .returned (.tuple #[.int .i64 5, .bool true]) ∧ Below w.heap.size w w' :=
  address_9 0 0 5 0 w

set_option maxRecDepth 20000 in
set_option maxHeartbeats 2000000 in
theorem modeTells_walk (m : Int) (z1 z2 : List Int) (w0 : (Lit.int .i64 m).wf = true) (l1 : z1.length = 2) (w1 : ∀ z ∈ z1, (Lit.int .i64 z).wf = true) (l2 : z2.length = 2) (w2 : ∀ z ∈ z2, (Lit.int .i64 z).wf = true) (w : World) :
    Calls Try.prog 3 #[.int .i64 m, .agg (z1.map (Value.int .i64)).toArray, .agg (z2.map (Value.int .i64)).toArray] w fun e w' => e = .returned (.bool true) ∧ Below w.heap.size w w' := by
  obtain ⟨x, y, rfl⟩ := two_of z1 l1
  obtain ⟨o, p, rfl⟩ := two_of z2 l2
  clear w0 w1 w2 l1 l2
  obtain ⟨a, b, h, p1, p2⟩ := pointer_both m x o
  obtain ⟨c, k, a1, a2⟩ := address_both m x y o p
  obtain ⟨v, f1, f2⟩ := after_both o h
  have P1 := hide p1
  have P2 := hide p2
  have A1 := hide a1
  have A2 := hide a2
  have F1 := hide f1
  have F2 := hide f2
  have T1 := hide (target_any o p)
  have T2 := hide (rtarget_any o p)
  clear p1 p2 a1 a2 f1 f2
  generalize wOf o (signOf p) = t at *
  simp only [List.map]
  go_enter Try.func3, Try.ntmps3
  go_wp2_with fail
  obtain ⟨wa, hwa⟩ : ∃ wa, wa = (w.alloc (.cells #[.int .i64 x, .int .i64 y] 22)).alloc (.cells #[.int .i64 o, .int .i64 p] 22) := ⟨_, rfl⟩
  try rw [← hwa]
  have X0 := hide (by rw [hwa]; exact And.intro (by simp; omega) ⟨by simp, by simp⟩ : Has2 wa w.heap.size x y)
  have N0 := hide (by rw [hwa]; exact And.intro (by simp) ⟨by simp, by simp⟩ : Has2 wa (w.heap.size + 1) o p)
  have B0 := hide (by rw [hwa]; exact ((Below.refl _ w).alloc (Nat.le_refl _) _).alloc (by simp) _ : Below w.heap.size w wa)
  clear hwa
  refine (P1.out _).mono ?_
  rintro e w1 ⟨rfl, b1⟩
  have X1 := hide (X0.out.next b1)
  have N1 := hide (N0.out.next b1)
  have B1 := hide (bnext B0.out b1)
  obtain ⟨xd, x0, x1⟩ := X1.out
  obtain ⟨nd, n0, n1⟩ := N1.out
  clear b1 X0 N0 B0
  go_wp2_with fail
  refine (P2.out _).mono ?_
  rintro e w2 ⟨rfl, hw⟩
  subst w2
  go_wp2_with fail
  refine (A1.out _).mono ?_
  rintro e w2 ⟨rfl, b2⟩
  have X2 := hide (X1.out.next b2)
  have N2 := hide (N1.out.next b2)
  have B2 := hide (bnext B1.out b2)
  clear xd x0 x1 nd n0 n1
  obtain ⟨xd, x0, x1⟩ := X2.out
  obtain ⟨nd, n0, n1⟩ := N2.out
  clear b2 X1 N1 B1
  go_wp2_with fail
  refine (A2.out _).mono ?_
  rintro e w3 ⟨rfl, hw⟩
  subst w3
  go_wp2_with fail
  refine (abs_five _).mono ?_
  rintro e w3 ⟨rfl, b3⟩
  have N3 := hide (N2.out.next b3)
  have B3 := hide (bnext B2.out b3)
  clear xd x0 x1 nd n0 n1
  obtain ⟨nd, n0, n1⟩ := N3.out
  have m0 := kept_cell n0 nd
  have m1 := kept_cell n1 nd
  clear b3 X2 N2 B2 n0 n1
  go_wp2_with fail
  haveI := kept_some w3
  refine wp_region_kept (by kernel_rfl) (by kernel_rfl) ?_
  repeat (go_big_quiet_step ((first
    | (go_at_call 11; exact kept_same (T1.out _))
    | (go_at_call 12; exact kept_same (T2.out _))
    | (go_at_call 13; exact kept_call (F1.out _))
    | (go_at_call 14; exact kept_same (F2.out _)))))
  refine wpQuiet_nil ?_
  rintro _ ⟨wk, rfl⟩
  go_wp2
  go_ret
  exact ⟨rfl, bnext B3.out wk.below⟩

set_option maxRecDepth 100000 in
theorem modeTells_lifted (os : Os) (started : os.Started) (H : Type) (enc : TypeId × Value → H) :
    ReturnsInHanded {} Try.checked os 3 .any (Rows.modeTellsSpec.pre6 enc Try.prog Try.f3 Rows.modeTellsRow.domain false) (Rows.modeTellsSpec.post enc Try.prog Try.f3 false true false false) := by
  refine returnsInHanded_of_change (C := Try.checked) own started (by kernel_rfl) Try.func3
    (ChangeSpec.witness6 (enc := enc) (C := Try.checked) false ⟨#[], #[.int .i64 0, .agg #[.int .i64 0, .int .i64 0], .agg #[.int .i64 0, .int .i64 0]], []⟩ 8 (by kernel_rfl) (by kernel_rfl) (by kernel_rfl) (by kernel_rfl)) ?_
  intro W base args ds gs before hval0 hW hcnd _
  have hval : ∀ (j : Nat) t v, Try.f3.params[j]? = some t → args[j]? = some v → Value.okWide Try.prog W .any base t v := hval0
  have hW' := hW
  obtain ⟨p, q, hA0, hV, rfl, hfz, hnd⟩ := hW
  have hA : DataW.TrodAll enc Try.prog W 0 (fun _ => true) true Try.f3.params.toList args.toList ds p := hA0
  rw [Try.params3] at hA hval
  obtain ⟨v0, vs0, d0, ds0, p0, q0, hargs, rfl, rfl, h0, r0⟩ := trodAll_cons hA
  obtain ⟨v1, vs1, d1, ds1, p1, q1, rfl, rfl, rfl, h1, r1⟩ := trodAll_cons r0
  obtain ⟨v2, vs2, d2, ds2, p2, q2, rfl, rfl, rfl, h2, r2⟩ := trodAll_cons r1
  obtain ⟨rfl, rfl, rfl⟩ := trodAll_nil r2
  obtain rfl : args = #[v0, v1, v2] := by cases args; simp_all
  obtain ⟨rfl, rfl⟩ := trodVars_none hV
  obtain ⟨a0, rfl, rfl, rfl, w0⟩ := open_int Try.underlying3 (hval 0 3 v0 rfl rfl) h0
  have k1 := h1
  have lt1 : ∀ x ∈ p1, x.block < W.heap.size := by obtain ⟨m, hm⟩ := k1; exact DataW.trod_lt m _ _ _ hm
  obtain ⟨z1, l1, rfl, w1⟩ := open_array_ints Try.underlying22 Try.underlying3 (by kernel_rfl) (by kernel_rfl) (hval 1 22 v1 rfl rfl) h1
  have k2 := h2
  have lt2 : ∀ x ∈ p2, x.block < W.heap.size := by obtain ⟨m, hm⟩ := k2; exact DataW.trod_lt m _ _ _ hm
  obtain ⟨z2, l2, rfl, w2⟩ := open_array_ints Try.underlying22 Try.underlying3 (by kernel_rfl) (by kernel_rfl) (hval 2 22 v2 rfl rfl) h2
  clear hA0 hval0
  refine (modeTells_walk a0 z1 z2 w0 l1 w1 l2 w2 W).mono fun e W' ⟨he, bel⟩ => ?_
  subst he
  exact ⟨_, rfl, _, _, _, [], _, [], hW', trodAll_mk1 (shut_bool Try.underlying4 _), (trodAll_cons_mk (shut_int Try.underlying3 w0) (trodAll_cons_mk (Below.trod laidOut (by kernel_rfl) (of_decide_eq_true (by kernel_rfl)) k1 bel lt1) (trodAll_cons_mk (Below.trod laidOut (by kernel_rfl) (of_decide_eq_true (by kernel_rfl)) k2 bel lt2) trodAll_mk0))), rfl, bel.frame _, fun h => by cases h⟩

theorem modeTells_over : Rows.modeTellsRow.holds Try.pinned (OpenSpec.ofChange Rows.modeTellsSpec) :=
  OpenClaim.holds_of_wide 3 Try.f3 rfl rfl rfl rfl rfl rfl rfl ⟨rfl, rfl, rfl, rfl, rfl⟩ rfl rfl rfl rfl rfl (by kernel_rfl) Try.func3 (by kernel_rfl)
    (of_decide_eq_true (by kernel_rfl)) (by unfold Func.isWrapper; first | (rw [if_pos (by decide +kernel)]; kernel_rfl) | (rw [if_neg (by decide +kernel)]; exact ⟨rfl, rfl⟩))
    (fun os started H enc _ => modeTells_lifted os started H enc)

theorem modeTells_holds : Rows.ModeTellsSaid := modeTells_over
#print axioms modeTells_holds
end Go.Proofs.Ythjncomokbnegaa
