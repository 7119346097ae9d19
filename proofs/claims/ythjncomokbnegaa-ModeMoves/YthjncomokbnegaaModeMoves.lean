/- For every operand and register the law ModeMoves of layer 8 returns true: with a register more a place is one more, modulo 65536; in the zero page modulo 256. No condition. -/
import Derived.Test.YthjncomokbnegaaMode
import Derived.Test.YthjncomokbnegaaArrays
namespace Go.Proofs.Ythjncomokbnegaa
open Go.ChangeShapes Go.WideShapes Go.ChangeAt Go.RowKit
open Go.ChangeMaps (open_string shut_string)
set_option linter.unusedVariables false
theorem own : ownKnob Try.prog.godebug = none := by kernel_rfl

theorem moves_w (o x : Int) : bits .and .i64 (wOf o x + 1) 65535 = wOf o (x + 1) := by
  rw [and_65535]; unfold wOf; omega
theorem moves_z (o x : Int) : bits .or .i64 8192 (bits .and .i64 (zOf o x + 1) 255) = zOf o (x + 1) := by
  rw [and_255, or_add 13 _ _ (by omega) (by omega) (by omega) (by omega) (by omega) (by omega)]; unfold zOf; omega
theorem and_127 (n : Int) : bits .and .i64 n 127 = n % 128 := and_mask 7 (by decide) n

/-- The four modes that the law walks through. -/
def Four (w : World) (b : Nat) : Prop :=
  b < w.heap.size ∧ w.cell? ⟨b, 0, none⟩ = some (.int .i64 10) ∧ w.cell? ⟨b, 1, none⟩ = some (.int .i64 20) ∧ w.cell? ⟨b, 2, none⟩ = some (.int .i64 4) ∧ w.cell? ⟨b, 3, none⟩ = some (.int .i64 18)
theorem Four.next {w w' : World} {b : Nat} (h : Four w b) (k : Below w.heap.size w w') : Four w' b := by
  obtain ⟨h0, h1, h2, h3, h4⟩ := h
  exact ⟨Nat.lt_of_lt_of_le h0 k.size, (k.cell (p := ⟨b, 0, none⟩) h0).trans h1, (k.cell (p := ⟨b, 1, none⟩) h0).trans h2, (k.cell (p := ⟨b, 2, none⟩) h0).trans h3, (k.cell (p := ⟨b, 3, none⟩) h0).trans h4⟩

set_option maxHeartbeats 1000000 in
theorem modeMoves_walk (o x0 : Int) (w0 : (Lit.int .i64 o).wf = true) (w1 : (Lit.int .i64 x0).wf = true) (w : World) :
    Calls Try.prog 6 #[.int .i64 o, .int .i64 x0] w fun e w' => e = .returned (.bool true) ∧ Below w.heap.size w w' := by
  clear w0 w1
  obtain ⟨x, hx, x1, x2⟩ : ∃ x, bits .and .i64 x0 127 = x ∧ 0 ≤ x ∧ x ≤ 127 := ⟨_, rfl, by rw [and_127]; omega, by rw [and_127]; omega⟩
  have e1 := moves_w o x
  have e2 := moves_z o x
  have l1 := wOf_le o x
  have l2 := zOf_le o x
  go_enter Try.func6, Try.ntmps6
  go_wp2_with fail
  obtain ⟨wa, hwa⟩ : ∃ wa, wa = w.alloc (.cells #[.int .i64 10, .int .i64 20, .int .i64 4, .int .i64 18] 3) := ⟨_, rfl⟩
  try rw [← hwa]
  have H0 := hide (by rw [hwa]; exact And.intro (by simp) ⟨by simp, by simp, by simp, by simp⟩ : Four wa w.heap.size)
  have B0 := hide (by rw [hwa]; exact (Below.refl _ w).alloc (Nat.le_refl _) _ : Below w.heap.size w wa)
  clear hwa
  go_loopw [20] (fun si wr => ∃ i : Nat, i ≤ 4 ∧ si = .int .i64 (i : Int) ∧ Four wr w.heap.size ∧ Below w.heap.size w wr) (fun si _ => 4 - (intOf si).toNat)
  case atStart => exact ⟨0, by omega, rfl, H0.out, B0.out⟩
  case round =>
    clear H0 B0
    obtain ⟨i, hi, rfl, h, b⟩ := hrel
    have H := hide h
    have B := hide b
    obtain ⟨hd, d0, d1, d2, d3⟩ := h
    clear b
    obtain rfl | rfl | rfl | rfl | rfl : i = 0 ∨ i = 1 ∨ i = 2 ∨ i = 3 ∨ i = 4 := by omega
    · go_wp2_with fail
      refine (address_10 x 0 o 0 _).mono ?_
      rintro e w1 ⟨rfl, b1⟩
      go_wp2_with fail
      refine (address_10 (x + 1) 0 o 0 _).mono ?_
      rintro e w2 ⟨rfl, b2⟩
      have BB := hide (bnext b1 b2)
      clear b1 b2
      go_wp2_with fail
      exact ⟨⟨0 + 1, by decide, rfl, H.out.next BB.out, bnext B.out BB.out⟩, by simp [intOf]⟩
    · go_wp2_with fail
      refine (address_20 x 0 o 0 _).mono ?_
      rintro e w1 ⟨rfl, b1⟩
      go_wp2_with fail
      refine (address_20 (x + 1) 0 o 0 _).mono ?_
      rintro e w2 ⟨rfl, b2⟩
      have BB := hide (bnext b1 b2)
      clear b1 b2
      go_wp2_with fail
      exact ⟨⟨1 + 1, by decide, rfl, H.out.next BB.out, bnext B.out BB.out⟩, by simp [intOf]⟩
    · go_wp2_with fail
      refine (address_4 x 0 o 0 _).mono ?_
      rintro e w1 ⟨rfl, b1⟩
      go_wp2_with fail
      refine (address_4 (x + 1) 0 o 0 _).mono ?_
      rintro e w2 ⟨rfl, b2⟩
      have BB := hide (bnext b1 b2)
      clear b1 b2
      go_wp2_with fail
      exact ⟨⟨2 + 1, by decide, rfl, H.out.next BB.out, bnext B.out BB.out⟩, by simp [intOf]⟩
    · go_wp2_with fail
      refine (address_18 x 0 o 0 _).mono ?_
      rintro e w1 ⟨rfl, b1⟩
      go_wp2_with fail
      refine (address_18 (x + 1) 0 o 0 _).mono ?_
      rintro e w2 ⟨rfl, b2⟩
      have BB := hide (bnext b1 b2)
      clear b1 b2
      go_wp2_with fail
      exact ⟨⟨3 + 1, by decide, rfl, H.out.next BB.out, bnext B.out BB.out⟩, by simp [intOf]⟩
    · go_wp2_with fail
      refine (address_11 0 x o 0 _).mono ?_
      rintro e w1 ⟨rfl, b1⟩
      go_wp2_with fail
      refine (address_10 x 0 o 0 _).mono ?_
      rintro e w2 ⟨rfl, b2⟩
      go_wp2
      go_ret
      exact ⟨rfl, bnext B.out (bnext b1 b2)⟩

set_option maxRecDepth 100000 in
theorem modeMoves_lifted (os : Os) (started : os.Started) (H : Type) (enc : TypeId × Value → H) :
    ReturnsInHanded {} Try.checked os 6 .any (Rows.modeMovesSpec.pre6 enc Try.prog Try.f6 Rows.modeMovesRow.domain false) (Rows.modeMovesSpec.post enc Try.prog Try.f6 false true false false) := by
  refine returnsInHanded_of_change (C := Try.checked) own started (by kernel_rfl) Try.func6
    (ChangeSpec.witness6 (enc := enc) (C := Try.checked) false ⟨#[], #[.int .i64 0, .int .i64 0], []⟩ 8 (by kernel_rfl) (by kernel_rfl) (by kernel_rfl) (by kernel_rfl)) ?_
  intro W base args ds gs before hval0 hW hcnd _
  have hval : ∀ (j : Nat) t v, Try.f6.params[j]? = some t → args[j]? = some v → Value.okWide Try.prog W .any base t v := hval0
  have hW' := hW
  obtain ⟨p, q, hA0, hV, rfl, hfz, hnd⟩ := hW
  have hA : DataW.TrodAll enc Try.prog W 0 (fun _ => true) true Try.f6.params.toList args.toList ds p := hA0
  rw [Try.params6] at hA hval
  obtain ⟨v0, vs0, d0, ds0, p0, q0, hargs, rfl, rfl, h0, r0⟩ := trodAll_cons hA
  obtain ⟨v1, vs1, d1, ds1, p1, q1, rfl, rfl, rfl, h1, r1⟩ := trodAll_cons r0
  obtain ⟨rfl, rfl, rfl⟩ := trodAll_nil r1
  obtain rfl : args = #[v0, v1] := by cases args; simp_all
  obtain ⟨rfl, rfl⟩ := trodVars_none hV
  obtain ⟨a0, rfl, rfl, rfl, w0⟩ := open_int Try.underlying3 (hval 0 3 v0 rfl rfl) h0
  obtain ⟨a1, rfl, rfl, rfl, w1⟩ := open_int Try.underlying3 (hval 1 3 v1 rfl rfl) h1
  clear hA0 hval0
  refine (modeMoves_walk a0 a1 w0 w1 W).mono fun e W' ⟨he, bel⟩ => ?_
  subst he
  exact ⟨_, rfl, _, _, _, [], _, [], hW', trodAll_mk1 (shut_bool Try.underlying4 _), (trodAll_cons_mk (shut_int Try.underlying3 w0) (trodAll_cons_mk (shut_int Try.underlying3 w1) trodAll_mk0)), rfl, bel.frame _, fun h => by cases h⟩

theorem modeMoves_over : Rows.modeMovesRow.holds Try.pinned (OpenSpec.ofChange Rows.modeMovesSpec) :=
  OpenClaim.holds_of_wide 6 Try.f6 rfl rfl rfl rfl rfl rfl rfl ⟨rfl, rfl, rfl, rfl, rfl⟩ rfl rfl rfl rfl rfl (by kernel_rfl) Try.func6 (by kernel_rfl)
    (of_decide_eq_true (by kernel_rfl)) (by unfold Func.isWrapper; first | (rw [if_pos (by decide +kernel)]; kernel_rfl) | (rw [if_neg (by decide +kernel)]; exact ⟨rfl, rfl⟩))
    (fun os started H enc _ => modeMoves_lifted os started H enc)

theorem modeMoves_holds : Rows.ModeMovesSaid := modeMoves_over
#print axioms modeMoves_holds
end Go.Proofs.Ythjncomokbnegaa
