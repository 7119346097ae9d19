/- For every operand, register and place the law ModeStays of layer 8 returns true: what is in the zero page stays there, and its place goes round with the register; a branch reaches 128 back and 127 on. No condition. -/
import Derived.Test.YthjncomokbnegaaPlainMode
import Derived.Test.YthjncomokbnegaaArrays
namespace Go.Proofs.Ythjncomokbnegaa
open Go.ChangeShapes Go.WideShapes Go.ChangeAt Go.RowKit
open Go.ChangeMaps (open_string shut_string)
set_option linter.unusedVariables false
theorem own : ownKnob Try.prog.godebug = none := by kernel_rfl

/-- The three modes that the law walks through. -/
def Three (w : World) (b : Nat) : Prop :=
  b < w.heap.size ∧ w.cell? ⟨b, 0, none⟩ = some (.int .i64 3) ∧ w.cell? ⟨b, 1, none⟩ = some (.int .i64 4) ∧ w.cell? ⟨b, 2, none⟩ = some (.int .i64 5)
theorem Three.next {w w' : World} {b : Nat} (h : Three w b) (k : Below w.heap.size w w') : Three w' b := by
  obtain ⟨h0, h1, h2, h3⟩ := h
  exact ⟨Nat.lt_of_lt_of_le h0 k.size, (k.cell (p := ⟨b, 0, none⟩) h0).trans h1, (k.cell (p := ⟨b, 1, none⟩) h0).trans h2, (k.cell (p := ⟨b, 2, none⟩) h0).trans h3⟩

set_option maxHeartbeats 1000000 in
theorem modeStays_walk (o x pc : Int) (w0 : (Lit.int .i64 o).wf = true) (w1 : (Lit.int .i64 x).wf = true) (w2 : (Lit.int .i64 pc).wf = true) (w : World) :
    Calls Try.prog 4 #[.int .i64 o, .int .i64 x, .int .i64 pc] w fun e w' => e = .returned (.bool true) ∧ Below w.heap.size w w' := by
  clear w0 w1 w2
  have e0 := hide (zOf_xor_0 o)
  have ex := hide (zOf_xor o x)
  have l0 := zOf_le o 0
  have lx := zOf_le o x
  obtain ⟨x2, hx2⟩ : ∃ x2, bits .xor .i64 x 256 = x2 := ⟨_, rfl⟩
  obtain ⟨o2, ho2⟩ : ∃ o2, bits .xor .i64 o 256 = o2 := ⟨_, rfl⟩
  rw [ho2] at e0
  rw [hx2, ho2] at ex
  obtain ⟨p, hp, p1, p2⟩ : ∃ p, bits .and .i64 pc 65535 = p ∧ 0 ≤ p ∧ p ≤ 65535 := ⟨_, rfl, by rw [and_65535]; omega, by rw [and_65535]; omega⟩
  go_enter Try.func4, Try.ntmps4
  go_wp2_with fail
  obtain ⟨wa, hwa⟩ : ∃ wa, wa = w.alloc (.cells #[.int .i64 3, .int .i64 4, .int .i64 5] 3) := ⟨_, rfl⟩
  try rw [← hwa]
  have H0 := hide (by rw [hwa]; exact And.intro (by simp) ⟨by simp, by simp, by simp⟩ : Three wa w.heap.size)
  have B0 := hide (by rw [hwa]; exact (Below.refl _ w).alloc (Nat.le_refl _) _ : Below w.heap.size w wa)
  clear hwa
  go_loopw [17] (fun si wr => ∃ i : Nat, i ≤ 3 ∧ si = .int .i64 (i : Int) ∧ Three wr w.heap.size ∧ Below w.heap.size w wr) (fun si _ => 3 - (intOf si).toNat)
  case atStart => exact ⟨0, by omega, rfl, H0.out, B0.out⟩
  case round =>
    clear H0 B0
    obtain ⟨i, hi, rfl, h, b⟩ := hrel
    have H := hide h
    have B := hide b
    obtain ⟨hd, d0, d1, d2⟩ := h
    clear b
    obtain rfl | rfl | rfl | rfl : i = 0 ∨ i = 1 ∨ i = 2 ∨ i = 3 := by omega
    · have C1 := hide (address_3 x x o 0)
      have C2 := hide (address_3 x2 x2 o2 0)
      rw [e0.out] at C2
      generalize zOf o 0 = z at *
      go_wp2_with fail
      refine (C1.out _).mono ?_
      rintro e w1 ⟨rfl, b1⟩
      go_wp2_with fail
      refine (C2.out _).mono ?_
      rintro e w2 ⟨rfl, b2⟩
      have BB := hide (bnext b1 b2)
      clear b1 b2
      go_wp2_with fail
      exact ⟨⟨0 + 1, by decide, rfl, H.out.next BB.out, bnext B.out BB.out⟩, by simp [intOf]⟩
    · have C1 := hide (address_4 x x o 0)
      have C2 := hide (address_4 x2 x2 o2 0)
      rw [ex.out] at C2
      generalize zOf o x = z at *
      go_wp2_with fail
      refine (C1.out _).mono ?_
      rintro e w1 ⟨rfl, b1⟩
      go_wp2_with fail
      refine (C2.out _).mono ?_
      rintro e w2 ⟨rfl, b2⟩
      have BB := hide (bnext b1 b2)
      clear b1 b2
      go_wp2_with fail
      exact ⟨⟨1 + 1, by decide, rfl, H.out.next BB.out, bnext B.out BB.out⟩, by simp [intOf]⟩
    · have C1 := hide (address_5 x x o 0)
      have C2 := hide (address_5 x2 x2 o2 0)
      rw [ex.out] at C2
      generalize zOf o x = z at *
      go_wp2_with fail
      refine (C1.out _).mono ?_
      rintro e w1 ⟨rfl, b1⟩
      go_wp2_with fail
      refine (C2.out _).mono ?_
      rintro e w2 ⟨rfl, b2⟩
      have BB := hide (bnext b1 b2)
      clear b1 b2
      go_wp2_with fail
      exact ⟨⟨2 + 1, by decide, rfl, H.out.next BB.out, bnext B.out BB.out⟩, by simp [intOf]⟩
    · have hr := reach p o p1 p2
      have hs := signOf_le o
      have C0 := hide (target_any p 0)
      rw [wOf_0 p p1 p2] at C0
      have C1 := hide (target_any p o)
      have ht := wOf_le p (signOf o)
      generalize wOf p (signOf o) = t at *
      generalize signOf o = s at *
      go_wp2_with fail
      refine (C1.out _).mono ?_
      rintro e w1 ⟨rfl, rfl⟩
      go_wp2_with fail
      refine (C0.out _).mono ?_
      rintro e w1 ⟨rfl, rfl⟩
      go_wp2_with fail
      refine (after_yes 8447 _).mono ?_
      rintro e w2 ⟨rfl, b2⟩
      rw [show zOf 8447 1 = 8192 from rfl]
      go_wp2_with fail
      refine (after_not 8447 _).mono ?_
      rintro e w3 ⟨rfl, b3⟩
      rw [show wOf 8447 1 = 8448 from rfl]
      go_wp2
      go_ret
      exact ⟨rfl, bnext B.out (bnext b2 b3)⟩

set_option maxRecDepth 100000 in
theorem modeStays_lifted (os : Os) (started : os.Started) (H : Type) (enc : TypeId × Value → H) :
    ReturnsInHanded {} Try.checked os 4 .any (Rows.modeStaysSpec.pre6 enc Try.prog Try.f4 Rows.modeStaysRow.domain false) (Rows.modeStaysSpec.post enc Try.prog Try.f4 false true false false) := by
  refine returnsInHanded_of_change (C := Try.checked) own started (by kernel_rfl) Try.func4
    (ChangeSpec.witness6 (enc := enc) (C := Try.checked) false ⟨#[], #[.int .i64 0, .int .i64 0, .int .i64 0], []⟩ 8 (by kernel_rfl) (by kernel_rfl) (by kernel_rfl) (by kernel_rfl)) ?_
  intro W base args ds gs before hval0 hW hcnd _
  have hval : ∀ (j : Nat) t v, Try.f4.params[j]? = some t → args[j]? = some v → Value.okWide Try.prog W .any base t v := hval0
  have hW' := hW
  obtain ⟨p, q, hA0, hV, rfl, hfz, hnd⟩ := hW
  have hA : DataW.TrodAll enc Try.prog W 0 (fun _ => true) true Try.f4.params.toList args.toList ds p := hA0
  rw [Try.params4] at hA hval
  obtain ⟨v0, vs0, d0, ds0, p0, q0, hargs, rfl, rfl, h0, r0⟩ := trodAll_cons hA
  obtain ⟨v1, vs1, d1, ds1, p1, q1, rfl, rfl, rfl, h1, r1⟩ := trodAll_cons r0
  obtain ⟨v2, vs2, d2, ds2, p2, q2, rfl, rfl, rfl, h2, r2⟩ := trodAll_cons r1
  obtain ⟨rfl, rfl, rfl⟩ := trodAll_nil r2
  obtain rfl : args = #[v0, v1, v2] := by cases args; simp_all
  obtain ⟨rfl, rfl⟩ := trodVars_none hV
  obtain ⟨a0, rfl, rfl, rfl, w0⟩ := open_int Try.underlying3 (hval 0 3 v0 rfl rfl) h0
  obtain ⟨a1, rfl, rfl, rfl, w1⟩ := open_int Try.underlying3 (hval 1 3 v1 rfl rfl) h1
  obtain ⟨a2, rfl, rfl, rfl, w2⟩ := open_int Try.underlying3 (hval 2 3 v2 rfl rfl) h2
  clear hA0 hval0
  refine (modeStays_walk a0 a1 a2 w0 w1 w2 W).mono fun e W' ⟨he, bel⟩ => ?_
  subst he
  exact ⟨_, rfl, _, _, _, [], _, [], hW', trodAll_mk1 (shut_bool Try.underlying4 _), (trodAll_cons_mk (shut_int Try.underlying3 w0) (trodAll_cons_mk (shut_int Try.underlying3 w1) (trodAll_cons_mk (shut_int Try.underlying3 w2) trodAll_mk0))), rfl, bel.frame _, fun h => by cases h⟩

theorem modeStays_over : Rows.modeStaysRow.holds Try.pinned (OpenSpec.ofChange Rows.modeStaysSpec) :=
  OpenClaim.holds_of_wide 4 Try.f4 rfl rfl rfl rfl rfl rfl rfl ⟨rfl, rfl, rfl, rfl, rfl⟩ rfl rfl rfl rfl rfl (by kernel_rfl) Try.func4 (by kernel_rfl)
    (of_decide_eq_true (by kernel_rfl)) (by unfold Func.isWrapper; first | (rw [if_pos (by decide +kernel)]; kernel_rfl) | (rw [if_neg (by decide +kernel)]; exact ⟨rfl, rfl⟩))
    (fun os started H enc _ => modeStays_lifted os started H enc)

theorem modeStays_holds : Rows.ModeStaysSaid := modeStays_over
#print axioms modeStays_holds
end Go.Proofs.Ythjncomokbnegaa
