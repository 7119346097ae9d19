/- For all registers, operands and pointers the law ModeNone of layer 8 returns true: modes that mean no place have none, and no pointer; those that have a pointer mean the place that it tells, or one beside it by Y. No condition. -/
import Derived.Test.YthjncomokbnegaaMode
import Derived.Test.YthjncomokbnegaaArrays
namespace Go.Proofs.Ythjncomokbnegaa
open Go.ChangeShapes Go.WideShapes Go.ChangeAt Go.RowKit
open Go.ChangeMaps (open_string shut_string)
set_option linter.unusedVariables false
theorem own : ownKnob Try.prog.godebug = none := by kernel_rfl

theorem two_of (l : List Int) (h : l.length = 2) : ∃ a b, l = [a, b] := by
  match l, h with
  | [a, b], _ => exact ⟨a, b, rfl⟩
/-- Block b holds two registers. -/
def Has2 (w : World) (b : Nat) (x y : Int) : Prop :=
  b < w.heap.size ∧ w.cell? ⟨b, 0, none⟩ = some (.int .i64 x) ∧ w.cell? ⟨b, 1, none⟩ = some (.int .i64 y)
theorem Has2.next {w w' : World} {b : Nat} {x y : Int} (h : Has2 w b x y) (k : Below w.heap.size w w') : Has2 w' b x y := by
  obtain ⟨h0, h1, h2⟩ := h
  exact ⟨Nat.lt_of_lt_of_le h0 k.size, (k.cell (p := ⟨b, 0, none⟩) h0).trans h1, (k.cell (p := ⟨b, 1, none⟩) h0).trans h2⟩
theorem word_of (p : Int) (h0 : 0 ≤ p) (h1 : p ≤ 65535) : wOf p 0 = p := by unfold wOf; omega
theorem word_by (p y : Int) : bits .and .i64 (p + y) 65535 = wOf p y := by rw [and_65535]; rfl

theorem twentyTwo {i : Nat} (h : i ≤ 21) : i = 0 ∨ i = 1 ∨ i = 2 ∨ i = 3 ∨ i = 4 ∨ i = 5 ∨ i = 6 ∨ i = 7 ∨ i = 8 ∨ i = 9 ∨ i = 10 ∨ i = 11 ∨ i = 12 ∨ i = 13 ∨ i = 14 ∨ i = 15 ∨ i = 16 ∨ i = 17 ∨ i = 18 ∨ i = 19 ∨ i = 20 ∨ i = 21 := by omega

set_option maxRecDepth 20000 in
set_option maxHeartbeats 4000000 in
theorem modeNone_walk (z0 : List Int) (o p0 : Int) (l0 : z0.length = 2) (w0 : ∀ z ∈ z0, (Lit.int .i64 z).wf = true) (w1 : (Lit.int .i64 o).wf = true) (w2 : (Lit.int .i64 p0).wf = true) (w : World) :
    Calls Try.prog 5 #[.agg (z0.map (Value.int .i64)).toArray, .int .i64 o, .int .i64 p0] w fun e w' => e = .returned (.bool true) ∧ Below w.heap.size w w' := by
  obtain ⟨x0, y0, rfl⟩ := two_of z0 l0
  clear w0 w1 w2 l0
  obtain ⟨x, hx, x1, x2⟩ : ∃ x, bits .and .i64 x0 255 = x ∧ 0 ≤ x ∧ x ≤ 255 := ⟨_, rfl, by rw [and_255]; omega, by rw [and_255]; omega⟩
  obtain ⟨y, hy, y1, y2⟩ : ∃ y, bits .and .i64 y0 255 = y ∧ 0 ≤ y ∧ y ≤ 255 := ⟨_, rfl, by rw [and_255]; omega, by rw [and_255]; omega⟩
  obtain ⟨p, hp, p1, p2⟩ : ∃ p, bits .and .i64 p0 65535 = p ∧ 0 ≤ p ∧ p ≤ 65535 := ⟨_, rfl, by rw [and_65535]; omega, by rw [and_65535]; omega⟩
  have e7 := word_by p y
  simp only [List.map]
  go_enter Try.func5, Try.ntmps5
  go_wp2_with fail
  obtain ⟨wa, hwa⟩ : ∃ wa, wa = w.alloc (.cells #[.int .i64 x, .int .i64 y] 22) := ⟨_, rfl⟩
  try rw [← hwa]
  have H0 := hide (by rw [hwa]; exact And.intro (by simp) ⟨by simp, by simp⟩ : Has2 wa w.heap.size x y)
  have B0 := hide (by rw [hwa]; exact (Below.refl _ w).alloc (Nat.le_refl _) _ : Below w.heap.size w wa)
  clear hwa hx hy hp
  go_loopw [7] (fun si wr => ∃ i : Nat, i ≤ 21 ∧ si = .int .i64 (i : Int) ∧ Has2 wr w.heap.size x y ∧ Below w.heap.size w wr) (fun si _ => 21 - (intOf si).toNat)
  case atStart => exact ⟨0, by omega, rfl, H0.out, B0.out⟩
  case round =>
    clear H0 B0
    obtain ⟨i, hi, rfl, h, b⟩ := hrel
    have H := hide h
    have B := hide b
    obtain ⟨hd, d0, d1⟩ := h
    clear b
    have k0 := hide (word_of p p1 p2)
    have az0 := zOf_le o 0
    have azx := zOf_le o x
    have azy := zOf_le o y
    have aw0 := wOf_le o 0
    have awx := wOf_le o x
    have awy := wOf_le o y
    have apy := wOf_le p y
    rcases twentyTwo hi with rfl | rfl | rfl | rfl | rfl | rfl | rfl | rfl | rfl | rfl | rfl | rfl | rfl | rfl | rfl | rfl | rfl | rfl | rfl | rfl | rfl | rfl
    · have C1 := hide (fun w => address_no 0 x y o p w (by decide) (by decide) (by decide) (by decide) (by decide) (by decide) (by decide) (by decide) (by decide) (by decide) (by decide) (by decide) (by decide) (by decide) (by decide) (by decide))
      have C2 := hide (fun w => pointer_no 0 x o w (by decide) (by decide) (by decide) (by decide) (by decide))
      skip
      go_wp2_with fail
      refine (C1.out _).mono ?_
      rintro e w1 ⟨rfl, b1⟩
      have H1 := hide (H.out.next b1)
      obtain ⟨hd1, f0, f1⟩ := H1.out
      go_wp2_with fail
      refine (C2.out _).mono ?_
      rintro e w2 ⟨rfl, b2⟩
      have H2 := hide (H1.out.next b2)
      obtain ⟨hd2, g0, g1⟩ := H2.out
      have BB := hide (bnext b1 b2)
      clear b1 b2
      go_wp2_with fail
      exact ⟨⟨0 + 1, by decide, rfl, H2.out, bnext B.out BB.out⟩, by simp [intOf]⟩
    · have C1 := hide (fun w => address_no 1 x y o p w (by decide) (by decide) (by decide) (by decide) (by decide) (by decide) (by decide) (by decide) (by decide) (by decide) (by decide) (by decide) (by decide) (by decide) (by decide) (by decide))
      have C2 := hide (fun w => pointer_no 1 x o w (by decide) (by decide) (by decide) (by decide) (by decide))
      skip
      go_wp2_with fail
      refine (C1.out _).mono ?_
      rintro e w1 ⟨rfl, b1⟩
      have H1 := hide (H.out.next b1)
      obtain ⟨hd1, f0, f1⟩ := H1.out
      go_wp2_with fail
      refine (C2.out _).mono ?_
      rintro e w2 ⟨rfl, b2⟩
      have H2 := hide (H1.out.next b2)
      obtain ⟨hd2, g0, g1⟩ := H2.out
      have BB := hide (bnext b1 b2)
      clear b1 b2
      go_wp2_with fail
      exact ⟨⟨1 + 1, by decide, rfl, H2.out, bnext B.out BB.out⟩, by simp [intOf]⟩
    · have C1 := hide (fun w => address_no 2 x y o p w (by decide) (by decide) (by decide) (by decide) (by decide) (by decide) (by decide) (by decide) (by decide) (by decide) (by decide) (by decide) (by decide) (by decide) (by decide) (by decide))
      have C2 := hide (fun w => pointer_no 2 x o w (by decide) (by decide) (by decide) (by decide) (by decide))
      skip
      go_wp2_with fail
      refine (C1.out _).mono ?_
      rintro e w1 ⟨rfl, b1⟩
      have H1 := hide (H.out.next b1)
      obtain ⟨hd1, f0, f1⟩ := H1.out
      go_wp2_with fail
      refine (C2.out _).mono ?_
      rintro e w2 ⟨rfl, b2⟩
      have H2 := hide (H1.out.next b2)
      obtain ⟨hd2, g0, g1⟩ := H2.out
      have BB := hide (bnext b1 b2)
      clear b1 b2
      go_wp2_with fail
      exact ⟨⟨2 + 1, by decide, rfl, H2.out, bnext B.out BB.out⟩, by simp [intOf]⟩
    · have C1 := hide (address_3 x y o p)
      have C2 := hide (fun w => pointer_no 3 x o w (by decide) (by decide) (by decide) (by decide) (by decide))
      skip
      go_wp2_with fail
      refine (C1.out _).mono ?_
      rintro e w1 ⟨rfl, b1⟩
      have H1 := hide (H.out.next b1)
      obtain ⟨hd1, f0, f1⟩ := H1.out
      go_wp2_with fail
      refine (C2.out _).mono ?_
      rintro e w2 ⟨rfl, b2⟩
      have H2 := hide (H1.out.next b2)
      obtain ⟨hd2, g0, g1⟩ := H2.out
      have BB := hide (bnext b1 b2)
      clear b1 b2
      go_wp2_with fail
      exact ⟨⟨3 + 1, by decide, rfl, H2.out, bnext B.out BB.out⟩, by simp [intOf]⟩
    · have C1 := hide (address_4 x y o p)
      have C2 := hide (fun w => pointer_no 4 x o w (by decide) (by decide) (by decide) (by decide) (by decide))
      skip
      go_wp2_with fail
      refine (C1.out _).mono ?_
      rintro e w1 ⟨rfl, b1⟩
      have H1 := hide (H.out.next b1)
      obtain ⟨hd1, f0, f1⟩ := H1.out
      go_wp2_with fail
      refine (C2.out _).mono ?_
      rintro e w2 ⟨rfl, b2⟩
      have H2 := hide (H1.out.next b2)
      obtain ⟨hd2, g0, g1⟩ := H2.out
      have BB := hide (bnext b1 b2)
      clear b1 b2
      go_wp2_with fail
      exact ⟨⟨4 + 1, by decide, rfl, H2.out, bnext B.out BB.out⟩, by simp [intOf]⟩
    · have C1 := hide (address_5 x y o p)
      have C2 := hide (fun w => pointer_no 5 x o w (by decide) (by decide) (by decide) (by decide) (by decide))
      skip
      go_wp2_with fail
      refine (C1.out _).mono ?_
      rintro e w1 ⟨rfl, b1⟩
      have H1 := hide (H.out.next b1)
      obtain ⟨hd1, f0, f1⟩ := H1.out
      go_wp2_with fail
      refine (C2.out _).mono ?_
      rintro e w2 ⟨rfl, b2⟩
      have H2 := hide (H1.out.next b2)
      obtain ⟨hd2, g0, g1⟩ := H2.out
      have BB := hide (bnext b1 b2)
      clear b1 b2
      go_wp2_with fail
      exact ⟨⟨5 + 1, by decide, rfl, H2.out, bnext B.out BB.out⟩, by simp [intOf]⟩
    · have C1 := hide (address_6 x y o p)
      have C2 := hide (pointer_6 x o)
      rw [k0.out] at C1
      go_wp2_with fail
      refine (C1.out _).mono ?_
      rintro e w1 ⟨rfl, b1⟩
      have H1 := hide (H.out.next b1)
      obtain ⟨hd1, f0, f1⟩ := H1.out
      go_wp2_with fail
      refine (C2.out _).mono ?_
      rintro e w2 ⟨rfl, b2⟩
      have H2 := hide (H1.out.next b2)
      obtain ⟨hd2, g0, g1⟩ := H2.out
      have BB := hide (bnext b1 b2)
      clear b1 b2
      go_wp2_with fail
      exact ⟨⟨6 + 1, by decide, rfl, H2.out, bnext B.out BB.out⟩, by simp [intOf]⟩
    · have C1 := hide (address_7 x y o p)
      have C2 := hide (pointer_7 x o)
      skip
      go_wp2_with fail
      refine (C1.out _).mono ?_
      rintro e w1 ⟨rfl, b1⟩
      have H1 := hide (H.out.next b1)
      obtain ⟨hd1, f0, f1⟩ := H1.out
      go_wp2_with fail
      refine (C2.out _).mono ?_
      rintro e w2 ⟨rfl, b2⟩
      have H2 := hide (H1.out.next b2)
      obtain ⟨hd2, g0, g1⟩ := H2.out
      have BB := hide (bnext b1 b2)
      clear b1 b2
      go_wp2_with fail
      exact ⟨⟨7 + 1, by decide, rfl, H2.out, bnext B.out BB.out⟩, by simp [intOf]⟩
    · have C1 := hide (address_8 x y o p)
      have C2 := hide (pointer_8 x o)
      rw [k0.out] at C1
      go_wp2_with fail
      refine (C1.out _).mono ?_
      rintro e w1 ⟨rfl, b1⟩
      have H1 := hide (H.out.next b1)
      obtain ⟨hd1, f0, f1⟩ := H1.out
      go_wp2_with fail
      refine (C2.out _).mono ?_
      rintro e w2 ⟨rfl, b2⟩
      have H2 := hide (H1.out.next b2)
      obtain ⟨hd2, g0, g1⟩ := H2.out
      have BB := hide (bnext b1 b2)
      clear b1 b2
      go_wp2_with fail
      exact ⟨⟨8 + 1, by decide, rfl, H2.out, bnext B.out BB.out⟩, by simp [intOf]⟩
    · have C1 := hide (address_9 x y o p)
      have C2 := hide (fun w => pointer_no 9 x o w (by decide) (by decide) (by decide) (by decide) (by decide))
      skip
      go_wp2_with fail
      refine (C1.out _).mono ?_
      rintro e w1 ⟨rfl, b1⟩
      have H1 := hide (H.out.next b1)
      obtain ⟨hd1, f0, f1⟩ := H1.out
      go_wp2_with fail
      refine (C2.out _).mono ?_
      rintro e w2 ⟨rfl, b2⟩
      have H2 := hide (H1.out.next b2)
      obtain ⟨hd2, g0, g1⟩ := H2.out
      have BB := hide (bnext b1 b2)
      clear b1 b2
      go_wp2_with fail
      exact ⟨⟨9 + 1, by decide, rfl, H2.out, bnext B.out BB.out⟩, by simp [intOf]⟩
    · have C1 := hide (address_10 x y o p)
      have C2 := hide (fun w => pointer_no 10 x o w (by decide) (by decide) (by decide) (by decide) (by decide))
      skip
      go_wp2_with fail
      refine (C1.out _).mono ?_
      rintro e w1 ⟨rfl, b1⟩
      have H1 := hide (H.out.next b1)
      obtain ⟨hd1, f0, f1⟩ := H1.out
      go_wp2_with fail
      refine (C2.out _).mono ?_
      rintro e w2 ⟨rfl, b2⟩
      have H2 := hide (H1.out.next b2)
      obtain ⟨hd2, g0, g1⟩ := H2.out
      have BB := hide (bnext b1 b2)
      clear b1 b2
      go_wp2_with fail
      exact ⟨⟨10 + 1, by decide, rfl, H2.out, bnext B.out BB.out⟩, by simp [intOf]⟩
    · have C1 := hide (address_11 x y o p)
      have C2 := hide (fun w => pointer_no 11 x o w (by decide) (by decide) (by decide) (by decide) (by decide))
      skip
      go_wp2_with fail
      refine (C1.out _).mono ?_
      rintro e w1 ⟨rfl, b1⟩
      have H1 := hide (H.out.next b1)
      obtain ⟨hd1, f0, f1⟩ := H1.out
      go_wp2_with fail
      refine (C2.out _).mono ?_
      rintro e w2 ⟨rfl, b2⟩
      have H2 := hide (H1.out.next b2)
      obtain ⟨hd2, g0, g1⟩ := H2.out
      have BB := hide (bnext b1 b2)
      clear b1 b2
      go_wp2_with fail
      exact ⟨⟨11 + 1, by decide, rfl, H2.out, bnext B.out BB.out⟩, by simp [intOf]⟩
    · have C1 := hide (address_12 x y o p)
      have C2 := hide (pointer_12 x o)
      rw [k0.out] at C1
      go_wp2_with fail
      refine (C1.out _).mono ?_
      rintro e w1 ⟨rfl, b1⟩
      have H1 := hide (H.out.next b1)
      obtain ⟨hd1, f0, f1⟩ := H1.out
      go_wp2_with fail
      refine (C2.out _).mono ?_
      rintro e w2 ⟨rfl, b2⟩
      have H2 := hide (H1.out.next b2)
      obtain ⟨hd2, g0, g1⟩ := H2.out
      have BB := hide (bnext b1 b2)
      clear b1 b2
      go_wp2_with fail
      exact ⟨⟨12 + 1, by decide, rfl, H2.out, bnext B.out BB.out⟩, by simp [intOf]⟩
    · have C1 := hide (address_13 x y o p)
      have C2 := hide (pointer_13 x o)
      rw [k0.out] at C1
      go_wp2_with fail
      refine (C1.out _).mono ?_
      rintro e w1 ⟨rfl, b1⟩
      have H1 := hide (H.out.next b1)
      obtain ⟨hd1, f0, f1⟩ := H1.out
      go_wp2_with fail
      refine (C2.out _).mono ?_
      rintro e w2 ⟨rfl, b2⟩
      have H2 := hide (H1.out.next b2)
      obtain ⟨hd2, g0, g1⟩ := H2.out
      have BB := hide (bnext b1 b2)
      clear b1 b2
      go_wp2_with fail
      exact ⟨⟨13 + 1, by decide, rfl, H2.out, bnext B.out BB.out⟩, by simp [intOf]⟩
    · have C1 := hide (fun w => address_no 14 x y o p w (by decide) (by decide) (by decide) (by decide) (by decide) (by decide) (by decide) (by decide) (by decide) (by decide) (by decide) (by decide) (by decide) (by decide) (by decide) (by decide))
      have C2 := hide (fun w => pointer_no 14 x o w (by decide) (by decide) (by decide) (by decide) (by decide))
      skip
      go_wp2_with fail
      refine (C1.out _).mono ?_
      rintro e w1 ⟨rfl, b1⟩
      have H1 := hide (H.out.next b1)
      obtain ⟨hd1, f0, f1⟩ := H1.out
      go_wp2_with fail
      refine (C2.out _).mono ?_
      rintro e w2 ⟨rfl, b2⟩
      have H2 := hide (H1.out.next b2)
      obtain ⟨hd2, g0, g1⟩ := H2.out
      have BB := hide (bnext b1 b2)
      clear b1 b2
      go_wp2_with fail
      exact ⟨⟨14 + 1, by decide, rfl, H2.out, bnext B.out BB.out⟩, by simp [intOf]⟩
    · have C1 := hide (address_15 x y o p)
      have C2 := hide (fun w => pointer_no 15 x o w (by decide) (by decide) (by decide) (by decide) (by decide))
      skip
      go_wp2_with fail
      refine (C1.out _).mono ?_
      rintro e w1 ⟨rfl, b1⟩
      have H1 := hide (H.out.next b1)
      obtain ⟨hd1, f0, f1⟩ := H1.out
      go_wp2_with fail
      refine (C2.out _).mono ?_
      rintro e w2 ⟨rfl, b2⟩
      have H2 := hide (H1.out.next b2)
      obtain ⟨hd2, g0, g1⟩ := H2.out
      have BB := hide (bnext b1 b2)
      clear b1 b2
      go_wp2_with fail
      exact ⟨⟨15 + 1, by decide, rfl, H2.out, bnext B.out BB.out⟩, by simp [intOf]⟩
    · have C1 := hide (fun w => address_no 16 x y o p w (by decide) (by decide) (by decide) (by decide) (by decide) (by decide) (by decide) (by decide) (by decide) (by decide) (by decide) (by decide) (by decide) (by decide) (by decide) (by decide))
      have C2 := hide (fun w => pointer_no 16 x o w (by decide) (by decide) (by decide) (by decide) (by decide))
      skip
      go_wp2_with fail
      refine (C1.out _).mono ?_
      rintro e w1 ⟨rfl, b1⟩
      have H1 := hide (H.out.next b1)
      obtain ⟨hd1, f0, f1⟩ := H1.out
      go_wp2_with fail
      refine (C2.out _).mono ?_
      rintro e w2 ⟨rfl, b2⟩
      have H2 := hide (H1.out.next b2)
      obtain ⟨hd2, g0, g1⟩ := H2.out
      have BB := hide (bnext b1 b2)
      clear b1 b2
      go_wp2_with fail
      exact ⟨⟨16 + 1, by decide, rfl, H2.out, bnext B.out BB.out⟩, by simp [intOf]⟩
    · have C1 := hide (address_17 x y o p)
      have C2 := hide (fun w => pointer_no 17 x o w (by decide) (by decide) (by decide) (by decide) (by decide))
      skip
      go_wp2_with fail
      refine (C1.out _).mono ?_
      rintro e w1 ⟨rfl, b1⟩
      have H1 := hide (H.out.next b1)
      obtain ⟨hd1, f0, f1⟩ := H1.out
      go_wp2_with fail
      refine (C2.out _).mono ?_
      rintro e w2 ⟨rfl, b2⟩
      have H2 := hide (H1.out.next b2)
      obtain ⟨hd2, g0, g1⟩ := H2.out
      have BB := hide (bnext b1 b2)
      clear b1 b2
      go_wp2_with fail
      exact ⟨⟨17 + 1, by decide, rfl, H2.out, bnext B.out BB.out⟩, by simp [intOf]⟩
    · have C1 := hide (address_18 x y o p)
      have C2 := hide (fun w => pointer_no 18 x o w (by decide) (by decide) (by decide) (by decide) (by decide))
      skip
      go_wp2_with fail
      refine (C1.out _).mono ?_
      rintro e w1 ⟨rfl, b1⟩
      have H1 := hide (H.out.next b1)
      obtain ⟨hd1, f0, f1⟩ := H1.out
      go_wp2_with fail
      refine (C2.out _).mono ?_
      rintro e w2 ⟨rfl, b2⟩
      have H2 := hide (H1.out.next b2)
      obtain ⟨hd2, g0, g1⟩ := H2.out
      have BB := hide (bnext b1 b2)
      clear b1 b2
      go_wp2_with fail
      exact ⟨⟨18 + 1, by decide, rfl, H2.out, bnext B.out BB.out⟩, by simp [intOf]⟩
    · have C1 := hide (address_19 x y o p)
      have C2 := hide (fun w => pointer_no 19 x o w (by decide) (by decide) (by decide) (by decide) (by decide))
      skip
      go_wp2_with fail
      refine (C1.out _).mono ?_
      rintro e w1 ⟨rfl, b1⟩
      have H1 := hide (H.out.next b1)
      obtain ⟨hd1, f0, f1⟩ := H1.out
      go_wp2_with fail
      refine (C2.out _).mono ?_
      rintro e w2 ⟨rfl, b2⟩
      have H2 := hide (H1.out.next b2)
      obtain ⟨hd2, g0, g1⟩ := H2.out
      have BB := hide (bnext b1 b2)
      clear b1 b2
      go_wp2_with fail
      exact ⟨⟨19 + 1, by decide, rfl, H2.out, bnext B.out BB.out⟩, by simp [intOf]⟩
    · have C1 := hide (address_20 x y o p)
      have C2 := hide (fun w => pointer_no 20 x o w (by decide) (by decide) (by decide) (by decide) (by decide))
      skip
      go_wp2_with fail
      refine (C1.out _).mono ?_
      rintro e w1 ⟨rfl, b1⟩
      have H1 := hide (H.out.next b1)
      obtain ⟨hd1, f0, f1⟩ := H1.out
      go_wp2_with fail
      refine (C2.out _).mono ?_
      rintro e w2 ⟨rfl, b2⟩
      have H2 := hide (H1.out.next b2)
      obtain ⟨hd2, g0, g1⟩ := H2.out
      have BB := hide (bnext b1 b2)
      clear b1 b2
      go_wp2_with fail
      exact ⟨⟨20 + 1, by decide, rfl, H2.out, bnext B.out BB.out⟩, by simp [intOf]⟩
    · have C1 := hide (fun w => address_no 21 x y o p w (by decide) (by decide) (by decide) (by decide) (by decide) (by decide) (by decide) (by decide) (by decide) (by decide) (by decide) (by decide) (by decide) (by decide) (by decide) (by decide))
      go_wp2_with fail
      refine (C1.out _).mono ?_
      rintro e w1 ⟨rfl, b1⟩
      go_wp2
      go_ret
      exact ⟨rfl, bnext B.out b1⟩

set_option maxRecDepth 100000 in
theorem modeNone_lifted (os : Os) (started : os.Started) (H : Type) (enc : TypeId × Value → H) :
    ReturnsInHanded {} Try.checked os 5 .any (Rows.modeNoneSpec.pre6 enc Try.prog Try.f5 Rows.modeNoneRow.domain false) (Rows.modeNoneSpec.post enc Try.prog Try.f5 false true false false) := by
  refine returnsInHanded_of_change (C := Try.checked) own started (by kernel_rfl) Try.func5
    (ChangeSpec.witness6 (enc := enc) (C := Try.checked) false ⟨#[], #[.agg #[.int .i64 0, .int .i64 0], .int .i64 0, .int .i64 0], []⟩ 8 (by kernel_rfl) (by kernel_rfl) (by kernel_rfl) (by kernel_rfl)) ?_
  intro W base args ds gs before hval0 hW hcnd _
  have hval : ∀ (j : Nat) t v, Try.f5.params[j]? = some t → args[j]? = some v → Value.okWide Try.prog W .any base t v := hval0
  have hW' := hW
  obtain ⟨p, q, hA0, hV, rfl, hfz, hnd⟩ := hW
  have hA : DataW.TrodAll enc Try.prog W 0 (fun _ => true) true Try.f5.params.toList args.toList ds p := hA0
  rw [Try.params5] at hA hval
  obtain ⟨v0, vs0, d0, ds0, p0, q0, hargs, rfl, rfl, h0, r0⟩ := trodAll_cons hA
  obtain ⟨v1, vs1, d1, ds1, p1, q1, rfl, rfl, rfl, h1, r1⟩ := trodAll_cons r0
  obtain ⟨v2, vs2, d2, ds2, p2, q2, rfl, rfl, rfl, h2, r2⟩ := trodAll_cons r1
  obtain ⟨rfl, rfl, rfl⟩ := trodAll_nil r2
  obtain rfl : args = #[v0, v1, v2] := by cases args; simp_all
  obtain ⟨rfl, rfl⟩ := trodVars_none hV
  have k0 := h0
  have lt0 : ∀ x ∈ p0, x.block < W.heap.size := by obtain ⟨m, hm⟩ := k0; exact DataW.trod_lt m _ _ _ hm
  obtain ⟨z0, l0, rfl, w0⟩ := open_array_ints Try.underlying22 Try.underlying3 (by kernel_rfl) (by kernel_rfl) (hval 0 22 v0 rfl rfl) h0
  obtain ⟨a1, rfl, rfl, rfl, w1⟩ := open_int Try.underlying3 (hval 1 3 v1 rfl rfl) h1
  obtain ⟨a2, rfl, rfl, rfl, w2⟩ := open_int Try.underlying3 (hval 2 3 v2 rfl rfl) h2
  clear hA0 hval0
  refine (modeNone_walk z0 a1 a2 l0 w0 w1 w2 W).mono fun e W' ⟨he, bel⟩ => ?_
  subst he
  exact ⟨_, rfl, _, _, _, [], _, [], hW', trodAll_mk1 (shut_bool Try.underlying4 _), (trodAll_cons_mk (Below.trod laidOut (by kernel_rfl) (of_decide_eq_true (by kernel_rfl)) k0 bel lt0) (trodAll_cons_mk (shut_int Try.underlying3 w1) (trodAll_cons_mk (shut_int Try.underlying3 w2) trodAll_mk0))), rfl, bel.frame _, fun h => by cases h⟩

theorem modeNone_over : Rows.modeNoneRow.holds Try.pinned (OpenSpec.ofChange Rows.modeNoneSpec) :=
  OpenClaim.holds_of_wide 5 Try.f5 rfl rfl rfl rfl rfl rfl rfl ⟨rfl, rfl, rfl, rfl, rfl⟩ rfl rfl rfl rfl rfl (by kernel_rfl) Try.func5 (by kernel_rfl)
    (of_decide_eq_true (by kernel_rfl)) (by unfold Func.isWrapper; first | (rw [if_pos (by decide +kernel)]; kernel_rfl) | (rw [if_neg (by decide +kernel)]; exact ⟨rfl, rfl⟩))
    (fun os started H enc _ => modeNone_lifted os started H enc)

theorem modeNone_holds : Rows.ModeNoneSaid := modeNone_over
#print axioms modeNone_holds
end Go.Proofs.Ythjncomokbnegaa
