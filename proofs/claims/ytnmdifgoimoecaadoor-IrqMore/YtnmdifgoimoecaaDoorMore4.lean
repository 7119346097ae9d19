/- The law IrqMore where the line is 4: a case each of what is taken ahead and behind, in letters. -/
import Derived.Test.YtnmdifgoimoecaaDoorMoreKit
namespace Go.Proofs.YtnmdifgoimoecaaDoor
open Go.RowKit
set_option linter.unusedVariables false

/-- What the walk is told, in letters. -/
theorem more_4_no (a b k p0 m l m' l' p p' y z v u x : Int) (there : Bool) (w : World) (hL : HasVec w) (em : bits .and .i64 a 7 = m) (el : bits .and .i64 b 7 = l) (ey : k.tmod 3 = y) (y0 : -3 < y) (y1 : y < 3) (ep : bits .andNot .i64 p0 4 = p) (ep' : bits .or .i64 p 4 = p') (ej : (y + 3).tmod 3 = 2) (em' : bits .or .i64 m 4 = m') (ez : bits .and .i64 m 4 = z) (C1 : Hid (∀ w, HasVec w → Calls Tryd.prog 6 #[.agg #[.int .i64 m, .int .i64 l], .int .i64 p] w fun e w' => e = .returned (.tuple #[.int .i64 v, .bool false]) ∧ Below w.heap.size w w')) (CR : Hid (∀ w, Calls Tryd.prog 8 #[.agg #[.int .i64 m, .int .i64 l], .int .i64 4, .bool true] w fun e w' => e = .returned (.agg #[.int .i64 m, .int .i64 l']) ∧ Below w.heap.size w w')) (C2 : Hid (∀ w, HasVec w → Calls Tryd.prog 6 #[.agg #[.int .i64 m, .int .i64 l'], .int .i64 p] w fun e w' => e = .returned (.tuple #[.int .i64 u, .bool false]) ∧ Below w.heap.size w w')) (CS : Hid (∀ w, Calls Tryd.prog 8 #[.agg #[.int .i64 m', .int .i64 l], .int .i64 4, .bool true] w fun e w' => e = .returned (.agg #[.int .i64 m', .int .i64 l']) ∧ Below w.heap.size w w')) (C3 : Hid (∀ w, HasVec w → Calls Tryd.prog 6 #[.agg #[.int .i64 m', .int .i64 l'], .int .i64 p] w fun e w' => e = .returned (.tuple #[.int .i64 x, .bool there]) ∧ Below w.heap.size w w')) (C4 : Hid (∀ w, Calls Tryd.prog 6 #[.agg #[.int .i64 m', .int .i64 l], .int .i64 p'] w fun e w' => e = .returned (.tuple #[.int .i64 0, .bool false]) ∧ Below w.heap.size w w')) (H4 : Hid (there = true → x ≠ 65530)) (hz : ¬ z = 0) : Calls Tryd.prog 4 #[.agg #[.int .i64 a, .int .i64 b], .int .i64 k, .int .i64 p0] w fun e w' => e = .returned (.bool true) ∧ Below w.heap.size w w' := by
  have e6 : bits .and .i64 4 6 = 4 := by decide +kernel
  have hpos := hL.pos
  have HA := hide (hL.next ((Below.refl _ w).alloc (Nat.le_refl _) (.cells #[.int .i64 m, .int .i64 l] 23)))
  clear hL
  go_enter Tryd.func4, Tryd.ntmps4
  go_wp2_with fail
  refine (C1.out _ HA.out).mono ?_
  rintro e w1 ⟨rfl, b1⟩
  have S1 := hide ((hasS_new w m l).next b1)
  have B1 := hide (bnext ((Below.refl _ w).alloc (Nat.le_refl _) _) b1)
  have V1 := hide (HA.out.next b1)
  clear b1 HA C1
  go_wp2_with (first | (refine wpList_load_row rfl 23 (.tmp 3) rfl w.heap.size rfl 23 _ (0, 0) _ S1.out Tryd.underlying23 rfl (by kernel_rfl) ?_))
  refine (CR.out _).mono ?_
  rintro e w2 ⟨rfl, b2⟩
  have S2 := hide (S1.out.next b2)
  have B2 := hide (bnext B1.out b2)
  have V2 := hide (V1.out.next b2)
  clear b2 S1 B1 V1 CR
  go_wp2_with fail
  refine (C2.out _ V2.out).mono ?_
  rintro e w3 ⟨rfl, b3⟩
  have S3 := hide (S2.out.next b3)
  have B3 := hide (bnext B2.out b3)
  have V3 := hide (V2.out.next b3)
  have c0 := S3.out.c0
  have f0 := frozen_of_row w3 w.heap.size 0 _ _ S3.out
  have S4 := hide (S3.out.set0 m')
  have B4 := hide (B3.out.setCell (p := ⟨w.heap.size, 0, none⟩) (Nat.le_refl _) (.int .i64 m'))
  have V4 := hide (V3.out.set0 m' (Nat.ne_of_lt hpos))
  clear b3 S2 B2 V2 C2 S3 B3 V3 hpos
  go_wp2_with (first | (refine wpList_load_row rfl 23 (.tmp 3) rfl w.heap.size rfl 23 _ (0, 0) _ S4.out Tryd.underlying23 rfl (by kernel_rfl) ?_))
  refine (CS.out _).mono ?_
  rintro e w5 ⟨rfl, b5⟩
  have S5 := hide (S4.out.next b5)
  have B5 := hide (bnext B4.out b5)
  have V5 := hide (V4.out.next b5)
  clear b5 S4 B4 V4 CS c0 f0
  go_wp2_with fail
  refine (C3.out _ V5.out).mono ?_
  rintro e w6 ⟨rfl, b6⟩
  have S6 := hide (S5.out.next b6)
  have B6 := hide (bnext B5.out b6)
  have V6 := hide (V5.out.next b6)
  clear b6 S5 B5 V5 C3
  go_wp2_with (first | (refine wpList_load_row rfl 23 (.tmp 3) rfl w.heap.size rfl 23 _ (0, 0) _ S6.out Tryd.underlying23 rfl (by kernel_rfl) ?_))
  refine (C4.out _).mono ?_
  rintro e w7 ⟨rfl, b7⟩
  have B7 := hide (bnext B6.out b7)
  have V7 := hide (V6.out.next b7)
  clear b7 S6 B6 V6 C4
  go_wp2_with fail
  refine (only_4 _ V7.out).mono ?_
  rintro e w8 ⟨rfl, b8⟩
  have B8 := hide (bnext B7.out b8)
  clear b8 B7 V7
  cases there
  · go_wp2
    go_ret
    exact ⟨rfl, B8.out⟩
  · have h4 := H4.out rfl
    clear H4
    go_wp2
    go_ret
    exact ⟨ret_bool (by simp [h4]), B8.out⟩
theorem more_4_own_true_z (a b k p0 m l m' l' p p' y z v u x : Int) (there : Bool) (w : World) (hL : HasVec w) (em : bits .and .i64 a 7 = m) (el : bits .and .i64 b 7 = l) (ey : k.tmod 3 = y) (y0 : -3 < y) (y1 : y < 3) (ep : bits .andNot .i64 p0 4 = p) (ep' : bits .or .i64 p 4 = p') (ej : (y + 3).tmod 3 = 2) (em' : bits .or .i64 m 4 = m') (ez : bits .and .i64 m 4 = z) (C1 : Hid (∀ w, HasVec w → Calls Tryd.prog 6 #[.agg #[.int .i64 m, .int .i64 l], .int .i64 p] w fun e w' => e = .returned (.tuple #[.int .i64 v, .bool true]) ∧ Below w.heap.size w w')) (CR : Hid (∀ w, Calls Tryd.prog 8 #[.agg #[.int .i64 m, .int .i64 l], .int .i64 4, .bool true] w fun e w' => e = .returned (.agg #[.int .i64 m, .int .i64 l']) ∧ Below w.heap.size w w')) (C2 : Hid (∀ w, HasVec w → Calls Tryd.prog 6 #[.agg #[.int .i64 m, .int .i64 l'], .int .i64 p] w fun e w' => e = .returned (.tuple #[.int .i64 65530, .bool true]) ∧ Below w.heap.size w w')) (CS : Hid (∀ w, Calls Tryd.prog 8 #[.agg #[.int .i64 m', .int .i64 l], .int .i64 4, .bool true] w fun e w' => e = .returned (.agg #[.int .i64 m', .int .i64 l']) ∧ Below w.heap.size w w')) (C3 : Hid (∀ w, HasVec w → Calls Tryd.prog 6 #[.agg #[.int .i64 m', .int .i64 l'], .int .i64 p] w fun e w' => e = .returned (.tuple #[.int .i64 x, .bool there]) ∧ Below w.heap.size w w')) (C4 : Hid (∀ w, Calls Tryd.prog 6 #[.agg #[.int .i64 m', .int .i64 l], .int .i64 p'] w fun e w' => e = .returned (.tuple #[.int .i64 0, .bool false]) ∧ Below w.heap.size w w')) (H4 : Hid (there = true → x ≠ 65530)) (hz : z = 0) : Calls Tryd.prog 4 #[.agg #[.int .i64 a, .int .i64 b], .int .i64 k, .int .i64 p0] w fun e w' => e = .returned (.bool true) ∧ Below w.heap.size w w' := by
  subst hz
  have e6 : bits .and .i64 4 6 = 4 := by decide +kernel
  have hpos := hL.pos
  have HA := hide (hL.next ((Below.refl _ w).alloc (Nat.le_refl _) (.cells #[.int .i64 m, .int .i64 l] 23)))
  clear hL
  go_enter Tryd.func4, Tryd.ntmps4
  go_wp2_with fail
  refine (C1.out _ HA.out).mono ?_
  rintro e w1 ⟨rfl, b1⟩
  have S1 := hide ((hasS_new w m l).next b1)
  have B1 := hide (bnext ((Below.refl _ w).alloc (Nat.le_refl _) _) b1)
  have V1 := hide (HA.out.next b1)
  clear b1 HA C1
  go_wp2_with (first | (refine wpList_load_row rfl 23 (.tmp 3) rfl w.heap.size rfl 23 _ (0, 0) _ S1.out Tryd.underlying23 rfl (by kernel_rfl) ?_))
  refine (CR.out _).mono ?_
  rintro e w2 ⟨rfl, b2⟩
  have S2 := hide (S1.out.next b2)
  have B2 := hide (bnext B1.out b2)
  have V2 := hide (V1.out.next b2)
  clear b2 S1 B1 V1 CR
  go_wp2_with fail
  refine (C2.out _ V2.out).mono ?_
  rintro e w3 ⟨rfl, b3⟩
  have S3 := hide (S2.out.next b3)
  have B3 := hide (bnext B2.out b3)
  have V3 := hide (V2.out.next b3)
  have c0 := S3.out.c0
  have f0 := frozen_of_row w3 w.heap.size 0 _ _ S3.out
  have S4 := hide (S3.out.set0 m')
  have B4 := hide (B3.out.setCell (p := ⟨w.heap.size, 0, none⟩) (Nat.le_refl _) (.int .i64 m'))
  have V4 := hide (V3.out.set0 m' (Nat.ne_of_lt hpos))
  clear b3 S2 B2 V2 C2 S3 B3 V3 hpos
  go_wp2_with (first | (refine wpList_load_row rfl 23 (.tmp 3) rfl w.heap.size rfl 23 _ (0, 0) _ S4.out Tryd.underlying23 rfl (by kernel_rfl) ?_))
  refine (CS.out _).mono ?_
  rintro e w5 ⟨rfl, b5⟩
  have S5 := hide (S4.out.next b5)
  have B5 := hide (bnext B4.out b5)
  have V5 := hide (V4.out.next b5)
  clear b5 S4 B4 V4 CS c0 f0
  go_wp2_with fail
  refine (C3.out _ V5.out).mono ?_
  rintro e w6 ⟨rfl, b6⟩
  have S6 := hide (S5.out.next b6)
  have B6 := hide (bnext B5.out b6)
  have V6 := hide (V5.out.next b6)
  clear b6 S5 B5 V5 C3
  go_wp2_with (first | (refine wpList_load_row rfl 23 (.tmp 3) rfl w.heap.size rfl 23 _ (0, 0) _ S6.out Tryd.underlying23 rfl (by kernel_rfl) ?_))
  refine (C4.out _).mono ?_
  rintro e w7 ⟨rfl, b7⟩
  have B7 := hide (bnext B6.out b7)
  have V7 := hide (V6.out.next b7)
  clear b7 S6 B6 V6 C4
  go_wp2_with fail
  refine (only_4 _ V7.out).mono ?_
  rintro e w8 ⟨rfl, b8⟩
  have B8 := hide (bnext B7.out b8)
  clear b8 B7 V7
  cases there
  · go_wp2
    go_ret
    exact ⟨rfl, B8.out⟩
  · have h4 := H4.out rfl
    clear H4
    go_wp2
    go_ret
    exact ⟨ret_bool (by simp [h4]), B8.out⟩
theorem more_4_old_true_z (a b k p0 m l m' l' p p' y z v u x : Int) (there : Bool) (w : World) (hL : HasVec w) (em : bits .and .i64 a 7 = m) (el : bits .and .i64 b 7 = l) (ey : k.tmod 3 = y) (y0 : -3 < y) (y1 : y < 3) (ep : bits .andNot .i64 p0 4 = p) (ep' : bits .or .i64 p 4 = p') (ej : (y + 3).tmod 3 = 2) (em' : bits .or .i64 m 4 = m') (ez : bits .and .i64 m 4 = z) (C1 : Hid (∀ w, HasVec w → Calls Tryd.prog 6 #[.agg #[.int .i64 m, .int .i64 l], .int .i64 p] w fun e w' => e = .returned (.tuple #[.int .i64 v, .bool true]) ∧ Below w.heap.size w w')) (CR : Hid (∀ w, Calls Tryd.prog 8 #[.agg #[.int .i64 m, .int .i64 l], .int .i64 4, .bool true] w fun e w' => e = .returned (.agg #[.int .i64 m, .int .i64 l']) ∧ Below w.heap.size w w')) (C2 : Hid (∀ w, HasVec w → Calls Tryd.prog 6 #[.agg #[.int .i64 m, .int .i64 l'], .int .i64 p] w fun e w' => e = .returned (.tuple #[.int .i64 v, .bool true]) ∧ Below w.heap.size w w')) (CS : Hid (∀ w, Calls Tryd.prog 8 #[.agg #[.int .i64 m', .int .i64 l], .int .i64 4, .bool true] w fun e w' => e = .returned (.agg #[.int .i64 m', .int .i64 l']) ∧ Below w.heap.size w w')) (C3 : Hid (∀ w, HasVec w → Calls Tryd.prog 6 #[.agg #[.int .i64 m', .int .i64 l'], .int .i64 p] w fun e w' => e = .returned (.tuple #[.int .i64 x, .bool there]) ∧ Below w.heap.size w w')) (C4 : Hid (∀ w, Calls Tryd.prog 6 #[.agg #[.int .i64 m', .int .i64 l], .int .i64 p'] w fun e w' => e = .returned (.tuple #[.int .i64 0, .bool false]) ∧ Below w.heap.size w w')) (H4 : Hid (there = true → x ≠ 65530)) (hv : ¬ v = 65530) (hz : z = 0) : Calls Tryd.prog 4 #[.agg #[.int .i64 a, .int .i64 b], .int .i64 k, .int .i64 p0] w fun e w' => e = .returned (.bool true) ∧ Below w.heap.size w w' := by
  subst hz
  have e6 : bits .and .i64 4 6 = 4 := by decide +kernel
  have hpos := hL.pos
  have HA := hide (hL.next ((Below.refl _ w).alloc (Nat.le_refl _) (.cells #[.int .i64 m, .int .i64 l] 23)))
  clear hL
  go_enter Tryd.func4, Tryd.ntmps4
  go_wp2_with fail
  refine (C1.out _ HA.out).mono ?_
  rintro e w1 ⟨rfl, b1⟩
  have S1 := hide ((hasS_new w m l).next b1)
  have B1 := hide (bnext ((Below.refl _ w).alloc (Nat.le_refl _) _) b1)
  have V1 := hide (HA.out.next b1)
  clear b1 HA C1
  go_wp2_with (first | (refine wpList_load_row rfl 23 (.tmp 3) rfl w.heap.size rfl 23 _ (0, 0) _ S1.out Tryd.underlying23 rfl (by kernel_rfl) ?_))
  refine (CR.out _).mono ?_
  rintro e w2 ⟨rfl, b2⟩
  have S2 := hide (S1.out.next b2)
  have B2 := hide (bnext B1.out b2)
  have V2 := hide (V1.out.next b2)
  clear b2 S1 B1 V1 CR
  go_wp2_with fail
  refine (C2.out _ V2.out).mono ?_
  rintro e w3 ⟨rfl, b3⟩
  have S3 := hide (S2.out.next b3)
  have B3 := hide (bnext B2.out b3)
  have V3 := hide (V2.out.next b3)
  have c0 := S3.out.c0
  have f0 := frozen_of_row w3 w.heap.size 0 _ _ S3.out
  have S4 := hide (S3.out.set0 m')
  have B4 := hide (B3.out.setCell (p := ⟨w.heap.size, 0, none⟩) (Nat.le_refl _) (.int .i64 m'))
  have V4 := hide (V3.out.set0 m' (Nat.ne_of_lt hpos))
  clear b3 S2 B2 V2 C2 S3 B3 V3 hpos
  go_wp2_with (first | (refine wpList_load_row rfl 23 (.tmp 3) rfl w.heap.size rfl 23 _ (0, 0) _ S4.out Tryd.underlying23 rfl (by kernel_rfl) ?_))
  refine (CS.out _).mono ?_
  rintro e w5 ⟨rfl, b5⟩
  have S5 := hide (S4.out.next b5)
  have B5 := hide (bnext B4.out b5)
  have V5 := hide (V4.out.next b5)
  clear b5 S4 B4 V4 CS c0 f0
  go_wp2_with fail
  refine (C3.out _ V5.out).mono ?_
  rintro e w6 ⟨rfl, b6⟩
  have S6 := hide (S5.out.next b6)
  have B6 := hide (bnext B5.out b6)
  have V6 := hide (V5.out.next b6)
  clear b6 S5 B5 V5 C3
  go_wp2_with (first | (refine wpList_load_row rfl 23 (.tmp 3) rfl w.heap.size rfl 23 _ (0, 0) _ S6.out Tryd.underlying23 rfl (by kernel_rfl) ?_))
  refine (C4.out _).mono ?_
  rintro e w7 ⟨rfl, b7⟩
  have B7 := hide (bnext B6.out b7)
  have V7 := hide (V6.out.next b7)
  clear b7 S6 B6 V6 C4
  go_wp2_with fail
  refine (only_4 _ V7.out).mono ?_
  rintro e w8 ⟨rfl, b8⟩
  have B8 := hide (bnext B7.out b8)
  clear b8 B7 V7
  cases there
  · go_wp2
    go_ret
    exact ⟨rfl, B8.out⟩
  · have h4 := H4.out rfl
    clear H4
    go_wp2
    go_ret
    exact ⟨ret_bool (by simp [h4]), B8.out⟩
theorem more_4_own_true_n (a b k p0 m l m' l' p p' y z v u x : Int) (there : Bool) (w : World) (hL : HasVec w) (em : bits .and .i64 a 7 = m) (el : bits .and .i64 b 7 = l) (ey : k.tmod 3 = y) (y0 : -3 < y) (y1 : y < 3) (ep : bits .andNot .i64 p0 4 = p) (ep' : bits .or .i64 p 4 = p') (ej : (y + 3).tmod 3 = 2) (em' : bits .or .i64 m 4 = m') (ez : bits .and .i64 m 4 = z) (C1 : Hid (∀ w, HasVec w → Calls Tryd.prog 6 #[.agg #[.int .i64 m, .int .i64 l], .int .i64 p] w fun e w' => e = .returned (.tuple #[.int .i64 v, .bool true]) ∧ Below w.heap.size w w')) (CR : Hid (∀ w, Calls Tryd.prog 8 #[.agg #[.int .i64 m, .int .i64 l], .int .i64 4, .bool true] w fun e w' => e = .returned (.agg #[.int .i64 m, .int .i64 l']) ∧ Below w.heap.size w w')) (C2 : Hid (∀ w, HasVec w → Calls Tryd.prog 6 #[.agg #[.int .i64 m, .int .i64 l'], .int .i64 p] w fun e w' => e = .returned (.tuple #[.int .i64 65530, .bool true]) ∧ Below w.heap.size w w')) (CS : Hid (∀ w, Calls Tryd.prog 8 #[.agg #[.int .i64 m', .int .i64 l], .int .i64 4, .bool true] w fun e w' => e = .returned (.agg #[.int .i64 m', .int .i64 l']) ∧ Below w.heap.size w w')) (C3 : Hid (∀ w, HasVec w → Calls Tryd.prog 6 #[.agg #[.int .i64 m', .int .i64 l'], .int .i64 p] w fun e w' => e = .returned (.tuple #[.int .i64 x, .bool there]) ∧ Below w.heap.size w w')) (C4 : Hid (∀ w, Calls Tryd.prog 6 #[.agg #[.int .i64 m', .int .i64 l], .int .i64 p'] w fun e w' => e = .returned (.tuple #[.int .i64 0, .bool false]) ∧ Below w.heap.size w w')) (H4 : Hid (there = true → x ≠ 65530)) (hz : ¬ z = 0) : Calls Tryd.prog 4 #[.agg #[.int .i64 a, .int .i64 b], .int .i64 k, .int .i64 p0] w fun e w' => e = .returned (.bool true) ∧ Below w.heap.size w w' := by
  have e6 : bits .and .i64 4 6 = 4 := by decide +kernel
  have hpos := hL.pos
  have HA := hide (hL.next ((Below.refl _ w).alloc (Nat.le_refl _) (.cells #[.int .i64 m, .int .i64 l] 23)))
  clear hL
  go_enter Tryd.func4, Tryd.ntmps4
  go_wp2_with fail
  refine (C1.out _ HA.out).mono ?_
  rintro e w1 ⟨rfl, b1⟩
  have S1 := hide ((hasS_new w m l).next b1)
  have B1 := hide (bnext ((Below.refl _ w).alloc (Nat.le_refl _) _) b1)
  have V1 := hide (HA.out.next b1)
  clear b1 HA C1
  go_wp2_with (first | (refine wpList_load_row rfl 23 (.tmp 3) rfl w.heap.size rfl 23 _ (0, 0) _ S1.out Tryd.underlying23 rfl (by kernel_rfl) ?_))
  refine (CR.out _).mono ?_
  rintro e w2 ⟨rfl, b2⟩
  have S2 := hide (S1.out.next b2)
  have B2 := hide (bnext B1.out b2)
  have V2 := hide (V1.out.next b2)
  clear b2 S1 B1 V1 CR
  go_wp2_with fail
  refine (C2.out _ V2.out).mono ?_
  rintro e w3 ⟨rfl, b3⟩
  have S3 := hide (S2.out.next b3)
  have B3 := hide (bnext B2.out b3)
  have V3 := hide (V2.out.next b3)
  have c0 := S3.out.c0
  have f0 := frozen_of_row w3 w.heap.size 0 _ _ S3.out
  have S4 := hide (S3.out.set0 m')
  have B4 := hide (B3.out.setCell (p := ⟨w.heap.size, 0, none⟩) (Nat.le_refl _) (.int .i64 m'))
  have V4 := hide (V3.out.set0 m' (Nat.ne_of_lt hpos))
  clear b3 S2 B2 V2 C2 S3 B3 V3 hpos
  go_wp2_with (first | (refine wpList_load_row rfl 23 (.tmp 3) rfl w.heap.size rfl 23 _ (0, 0) _ S4.out Tryd.underlying23 rfl (by kernel_rfl) ?_))
  refine (CS.out _).mono ?_
  rintro e w5 ⟨rfl, b5⟩
  have S5 := hide (S4.out.next b5)
  have B5 := hide (bnext B4.out b5)
  have V5 := hide (V4.out.next b5)
  clear b5 S4 B4 V4 CS c0 f0
  go_wp2_with fail
  refine (C3.out _ V5.out).mono ?_
  rintro e w6 ⟨rfl, b6⟩
  have S6 := hide (S5.out.next b6)
  have B6 := hide (bnext B5.out b6)
  have V6 := hide (V5.out.next b6)
  clear b6 S5 B5 V5 C3
  go_wp2_with (first | (refine wpList_load_row rfl 23 (.tmp 3) rfl w.heap.size rfl 23 _ (0, 0) _ S6.out Tryd.underlying23 rfl (by kernel_rfl) ?_))
  refine (C4.out _).mono ?_
  rintro e w7 ⟨rfl, b7⟩
  have B7 := hide (bnext B6.out b7)
  have V7 := hide (V6.out.next b7)
  clear b7 S6 B6 V6 C4
  go_wp2_with fail
  refine (only_4 _ V7.out).mono ?_
  rintro e w8 ⟨rfl, b8⟩
  have B8 := hide (bnext B7.out b8)
  clear b8 B7 V7
  cases there
  · go_wp2
    go_ret
    exact ⟨rfl, B8.out⟩
  · have h4 := H4.out rfl
    clear H4
    go_wp2
    go_ret
    exact ⟨ret_bool (by simp [h4]), B8.out⟩
theorem more_4_old_true_n (a b k p0 m l m' l' p p' y z v u x : Int) (there : Bool) (w : World) (hL : HasVec w) (em : bits .and .i64 a 7 = m) (el : bits .and .i64 b 7 = l) (ey : k.tmod 3 = y) (y0 : -3 < y) (y1 : y < 3) (ep : bits .andNot .i64 p0 4 = p) (ep' : bits .or .i64 p 4 = p') (ej : (y + 3).tmod 3 = 2) (em' : bits .or .i64 m 4 = m') (ez : bits .and .i64 m 4 = z) (C1 : Hid (∀ w, HasVec w → Calls Tryd.prog 6 #[.agg #[.int .i64 m, .int .i64 l], .int .i64 p] w fun e w' => e = .returned (.tuple #[.int .i64 v, .bool true]) ∧ Below w.heap.size w w')) (CR : Hid (∀ w, Calls Tryd.prog 8 #[.agg #[.int .i64 m, .int .i64 l], .int .i64 4, .bool true] w fun e w' => e = .returned (.agg #[.int .i64 m, .int .i64 l']) ∧ Below w.heap.size w w')) (C2 : Hid (∀ w, HasVec w → Calls Tryd.prog 6 #[.agg #[.int .i64 m, .int .i64 l'], .int .i64 p] w fun e w' => e = .returned (.tuple #[.int .i64 v, .bool true]) ∧ Below w.heap.size w w')) (CS : Hid (∀ w, Calls Tryd.prog 8 #[.agg #[.int .i64 m', .int .i64 l], .int .i64 4, .bool true] w fun e w' => e = .returned (.agg #[.int .i64 m', .int .i64 l']) ∧ Below w.heap.size w w')) (C3 : Hid (∀ w, HasVec w → Calls Tryd.prog 6 #[.agg #[.int .i64 m', .int .i64 l'], .int .i64 p] w fun e w' => e = .returned (.tuple #[.int .i64 x, .bool there]) ∧ Below w.heap.size w w')) (C4 : Hid (∀ w, Calls Tryd.prog 6 #[.agg #[.int .i64 m', .int .i64 l], .int .i64 p'] w fun e w' => e = .returned (.tuple #[.int .i64 0, .bool false]) ∧ Below w.heap.size w w')) (H4 : Hid (there = true → x ≠ 65530)) (hv : ¬ v = 65530) (hz : ¬ z = 0) : Calls Tryd.prog 4 #[.agg #[.int .i64 a, .int .i64 b], .int .i64 k, .int .i64 p0] w fun e w' => e = .returned (.bool true) ∧ Below w.heap.size w w' := by
  have e6 : bits .and .i64 4 6 = 4 := by decide +kernel
  have hpos := hL.pos
  have HA := hide (hL.next ((Below.refl _ w).alloc (Nat.le_refl _) (.cells #[.int .i64 m, .int .i64 l] 23)))
  clear hL
  go_enter Tryd.func4, Tryd.ntmps4
  go_wp2_with fail
  refine (C1.out _ HA.out).mono ?_
  rintro e w1 ⟨rfl, b1⟩
  have S1 := hide ((hasS_new w m l).next b1)
  have B1 := hide (bnext ((Below.refl _ w).alloc (Nat.le_refl _) _) b1)
  have V1 := hide (HA.out.next b1)
  clear b1 HA C1
  go_wp2_with (first | (refine wpList_load_row rfl 23 (.tmp 3) rfl w.heap.size rfl 23 _ (0, 0) _ S1.out Tryd.underlying23 rfl (by kernel_rfl) ?_))
  refine (CR.out _).mono ?_
  rintro e w2 ⟨rfl, b2⟩
  have S2 := hide (S1.out.next b2)
  have B2 := hide (bnext B1.out b2)
  have V2 := hide (V1.out.next b2)
  clear b2 S1 B1 V1 CR
  go_wp2_with fail
  refine (C2.out _ V2.out).mono ?_
  rintro e w3 ⟨rfl, b3⟩
  have S3 := hide (S2.out.next b3)
  have B3 := hide (bnext B2.out b3)
  have V3 := hide (V2.out.next b3)
  have c0 := S3.out.c0
  have f0 := frozen_of_row w3 w.heap.size 0 _ _ S3.out
  have S4 := hide (S3.out.set0 m')
  have B4 := hide (B3.out.setCell (p := ⟨w.heap.size, 0, none⟩) (Nat.le_refl _) (.int .i64 m'))
  have V4 := hide (V3.out.set0 m' (Nat.ne_of_lt hpos))
  clear b3 S2 B2 V2 C2 S3 B3 V3 hpos
  go_wp2_with (first | (refine wpList_load_row rfl 23 (.tmp 3) rfl w.heap.size rfl 23 _ (0, 0) _ S4.out Tryd.underlying23 rfl (by kernel_rfl) ?_))
  refine (CS.out _).mono ?_
  rintro e w5 ⟨rfl, b5⟩
  have S5 := hide (S4.out.next b5)
  have B5 := hide (bnext B4.out b5)
  have V5 := hide (V4.out.next b5)
  clear b5 S4 B4 V4 CS c0 f0
  go_wp2_with fail
  refine (C3.out _ V5.out).mono ?_
  rintro e w6 ⟨rfl, b6⟩
  have S6 := hide (S5.out.next b6)
  have B6 := hide (bnext B5.out b6)
  have V6 := hide (V5.out.next b6)
  clear b6 S5 B5 V5 C3
  go_wp2_with (first | (refine wpList_load_row rfl 23 (.tmp 3) rfl w.heap.size rfl 23 _ (0, 0) _ S6.out Tryd.underlying23 rfl (by kernel_rfl) ?_))
  refine (C4.out _).mono ?_
  rintro e w7 ⟨rfl, b7⟩
  have B7 := hide (bnext B6.out b7)
  have V7 := hide (V6.out.next b7)
  clear b7 S6 B6 V6 C4
  go_wp2_with fail
  refine (only_4 _ V7.out).mono ?_
  rintro e w8 ⟨rfl, b8⟩
  have B8 := hide (bnext B7.out b8)
  clear b8 B7 V7
  cases there
  · go_wp2
    go_ret
    exact ⟨rfl, B8.out⟩
  · have h4 := H4.out rfl
    clear H4
    go_wp2
    go_ret
    exact ⟨ret_bool (by simp [h4]), B8.out⟩
theorem more_4_own_false_z (a b k p0 m l m' l' p p' y z v u x : Int) (there : Bool) (w : World) (hL : HasVec w) (em : bits .and .i64 a 7 = m) (el : bits .and .i64 b 7 = l) (ey : k.tmod 3 = y) (y0 : -3 < y) (y1 : y < 3) (ep : bits .andNot .i64 p0 4 = p) (ep' : bits .or .i64 p 4 = p') (ej : (y + 3).tmod 3 = 2) (em' : bits .or .i64 m 4 = m') (ez : bits .and .i64 m 4 = z) (C1 : Hid (∀ w, HasVec w → Calls Tryd.prog 6 #[.agg #[.int .i64 m, .int .i64 l], .int .i64 p] w fun e w' => e = .returned (.tuple #[.int .i64 v, .bool false]) ∧ Below w.heap.size w w')) (CR : Hid (∀ w, Calls Tryd.prog 8 #[.agg #[.int .i64 m, .int .i64 l], .int .i64 4, .bool true] w fun e w' => e = .returned (.agg #[.int .i64 m, .int .i64 l']) ∧ Below w.heap.size w w')) (C2 : Hid (∀ w, HasVec w → Calls Tryd.prog 6 #[.agg #[.int .i64 m, .int .i64 l'], .int .i64 p] w fun e w' => e = .returned (.tuple #[.int .i64 65530, .bool true]) ∧ Below w.heap.size w w')) (CS : Hid (∀ w, Calls Tryd.prog 8 #[.agg #[.int .i64 m', .int .i64 l], .int .i64 4, .bool true] w fun e w' => e = .returned (.agg #[.int .i64 m', .int .i64 l']) ∧ Below w.heap.size w w')) (C3 : Hid (∀ w, HasVec w → Calls Tryd.prog 6 #[.agg #[.int .i64 m', .int .i64 l'], .int .i64 p] w fun e w' => e = .returned (.tuple #[.int .i64 x, .bool there]) ∧ Below w.heap.size w w')) (C4 : Hid (∀ w, Calls Tryd.prog 6 #[.agg #[.int .i64 m', .int .i64 l], .int .i64 p'] w fun e w' => e = .returned (.tuple #[.int .i64 0, .bool false]) ∧ Below w.heap.size w w')) (H4 : Hid (there = true → x ≠ 65530)) (hz : z = 0) : Calls Tryd.prog 4 #[.agg #[.int .i64 a, .int .i64 b], .int .i64 k, .int .i64 p0] w fun e w' => e = .returned (.bool true) ∧ Below w.heap.size w w' := by
  subst hz
  have e6 : bits .and .i64 4 6 = 4 := by decide +kernel
  have hpos := hL.pos
  have HA := hide (hL.next ((Below.refl _ w).alloc (Nat.le_refl _) (.cells #[.int .i64 m, .int .i64 l] 23)))
  clear hL
  go_enter Tryd.func4, Tryd.ntmps4
  go_wp2_with fail
  refine (C1.out _ HA.out).mono ?_
  rintro e w1 ⟨rfl, b1⟩
  have S1 := hide ((hasS_new w m l).next b1)
  have B1 := hide (bnext ((Below.refl _ w).alloc (Nat.le_refl _) _) b1)
  have V1 := hide (HA.out.next b1)
  clear b1 HA C1
  go_wp2_with (first | (refine wpList_load_row rfl 23 (.tmp 3) rfl w.heap.size rfl 23 _ (0, 0) _ S1.out Tryd.underlying23 rfl (by kernel_rfl) ?_))
  refine (CR.out _).mono ?_
  rintro e w2 ⟨rfl, b2⟩
  have S2 := hide (S1.out.next b2)
  have B2 := hide (bnext B1.out b2)
  have V2 := hide (V1.out.next b2)
  clear b2 S1 B1 V1 CR
  go_wp2_with fail
  refine (C2.out _ V2.out).mono ?_
  rintro e w3 ⟨rfl, b3⟩
  have S3 := hide (S2.out.next b3)
  have B3 := hide (bnext B2.out b3)
  have V3 := hide (V2.out.next b3)
  have c0 := S3.out.c0
  have f0 := frozen_of_row w3 w.heap.size 0 _ _ S3.out
  have S4 := hide (S3.out.set0 m')
  have B4 := hide (B3.out.setCell (p := ⟨w.heap.size, 0, none⟩) (Nat.le_refl _) (.int .i64 m'))
  have V4 := hide (V3.out.set0 m' (Nat.ne_of_lt hpos))
  clear b3 S2 B2 V2 C2 S3 B3 V3 hpos
  go_wp2_with (first | (refine wpList_load_row rfl 23 (.tmp 3) rfl w.heap.size rfl 23 _ (0, 0) _ S4.out Tryd.underlying23 rfl (by kernel_rfl) ?_))
  refine (CS.out _).mono ?_
  rintro e w5 ⟨rfl, b5⟩
  have S5 := hide (S4.out.next b5)
  have B5 := hide (bnext B4.out b5)
  have V5 := hide (V4.out.next b5)
  clear b5 S4 B4 V4 CS c0 f0
  go_wp2_with fail
  refine (C3.out _ V5.out).mono ?_
  rintro e w6 ⟨rfl, b6⟩
  have S6 := hide (S5.out.next b6)
  have B6 := hide (bnext B5.out b6)
  have V6 := hide (V5.out.next b6)
  clear b6 S5 B5 V5 C3
  go_wp2_with (first | (refine wpList_load_row rfl 23 (.tmp 3) rfl w.heap.size rfl 23 _ (0, 0) _ S6.out Tryd.underlying23 rfl (by kernel_rfl) ?_))
  refine (C4.out _).mono ?_
  rintro e w7 ⟨rfl, b7⟩
  have B7 := hide (bnext B6.out b7)
  have V7 := hide (V6.out.next b7)
  clear b7 S6 B6 V6 C4
  go_wp2_with fail
  refine (only_4 _ V7.out).mono ?_
  rintro e w8 ⟨rfl, b8⟩
  have B8 := hide (bnext B7.out b8)
  clear b8 B7 V7
  cases there
  · go_wp2
    go_ret
    exact ⟨rfl, B8.out⟩
  · have h4 := H4.out rfl
    clear H4
    go_wp2
    go_ret
    exact ⟨ret_bool (by simp [h4]), B8.out⟩
theorem more_4_old_false_z (a b k p0 m l m' l' p p' y z v u x : Int) (there : Bool) (w : World) (hL : HasVec w) (em : bits .and .i64 a 7 = m) (el : bits .and .i64 b 7 = l) (ey : k.tmod 3 = y) (y0 : -3 < y) (y1 : y < 3) (ep : bits .andNot .i64 p0 4 = p) (ep' : bits .or .i64 p 4 = p') (ej : (y + 3).tmod 3 = 2) (em' : bits .or .i64 m 4 = m') (ez : bits .and .i64 m 4 = z) (C1 : Hid (∀ w, HasVec w → Calls Tryd.prog 6 #[.agg #[.int .i64 m, .int .i64 l], .int .i64 p] w fun e w' => e = .returned (.tuple #[.int .i64 v, .bool false]) ∧ Below w.heap.size w w')) (CR : Hid (∀ w, Calls Tryd.prog 8 #[.agg #[.int .i64 m, .int .i64 l], .int .i64 4, .bool true] w fun e w' => e = .returned (.agg #[.int .i64 m, .int .i64 l']) ∧ Below w.heap.size w w')) (C2 : Hid (∀ w, HasVec w → Calls Tryd.prog 6 #[.agg #[.int .i64 m, .int .i64 l'], .int .i64 p] w fun e w' => e = .returned (.tuple #[.int .i64 v, .bool true]) ∧ Below w.heap.size w w')) (CS : Hid (∀ w, Calls Tryd.prog 8 #[.agg #[.int .i64 m', .int .i64 l], .int .i64 4, .bool true] w fun e w' => e = .returned (.agg #[.int .i64 m', .int .i64 l']) ∧ Below w.heap.size w w')) (C3 : Hid (∀ w, HasVec w → Calls Tryd.prog 6 #[.agg #[.int .i64 m', .int .i64 l'], .int .i64 p] w fun e w' => e = .returned (.tuple #[.int .i64 x, .bool there]) ∧ Below w.heap.size w w')) (C4 : Hid (∀ w, Calls Tryd.prog 6 #[.agg #[.int .i64 m', .int .i64 l], .int .i64 p'] w fun e w' => e = .returned (.tuple #[.int .i64 0, .bool false]) ∧ Below w.heap.size w w')) (H4 : Hid (there = true → x ≠ 65530)) (hv : ¬ v = 65530) (hz : z = 0) : Calls Tryd.prog 4 #[.agg #[.int .i64 a, .int .i64 b], .int .i64 k, .int .i64 p0] w fun e w' => e = .returned (.bool true) ∧ Below w.heap.size w w' := by
  subst hz
  have e6 : bits .and .i64 4 6 = 4 := by decide +kernel
  have hpos := hL.pos
  have HA := hide (hL.next ((Below.refl _ w).alloc (Nat.le_refl _) (.cells #[.int .i64 m, .int .i64 l] 23)))
  clear hL
  go_enter Tryd.func4, Tryd.ntmps4
  go_wp2_with fail
  refine (C1.out _ HA.out).mono ?_
  rintro e w1 ⟨rfl, b1⟩
  have S1 := hide ((hasS_new w m l).next b1)
  have B1 := hide (bnext ((Below.refl _ w).alloc (Nat.le_refl _) _) b1)
  have V1 := hide (HA.out.next b1)
  clear b1 HA C1
  go_wp2_with (first | (refine wpList_load_row rfl 23 (.tmp 3) rfl w.heap.size rfl 23 _ (0, 0) _ S1.out Tryd.underlying23 rfl (by kernel_rfl) ?_))
  refine (CR.out _).mono ?_
  rintro e w2 ⟨rfl, b2⟩
  have S2 := hide (S1.out.next b2)
  have B2 := hide (bnext B1.out b2)
  have V2 := hide (V1.out.next b2)
  clear b2 S1 B1 V1 CR
  go_wp2_with fail
  refine (C2.out _ V2.out).mono ?_
  rintro e w3 ⟨rfl, b3⟩
  have S3 := hide (S2.out.next b3)
  have B3 := hide (bnext B2.out b3)
  have V3 := hide (V2.out.next b3)
  have c0 := S3.out.c0
  have f0 := frozen_of_row w3 w.heap.size 0 _ _ S3.out
  have S4 := hide (S3.out.set0 m')
  have B4 := hide (B3.out.setCell (p := ⟨w.heap.size, 0, none⟩) (Nat.le_refl _) (.int .i64 m'))
  have V4 := hide (V3.out.set0 m' (Nat.ne_of_lt hpos))
  clear b3 S2 B2 V2 C2 S3 B3 V3 hpos
  go_wp2_with (first | (refine wpList_load_row rfl 23 (.tmp 3) rfl w.heap.size rfl 23 _ (0, 0) _ S4.out Tryd.underlying23 rfl (by kernel_rfl) ?_))
  refine (CS.out _).mono ?_
  rintro e w5 ⟨rfl, b5⟩
  have S5 := hide (S4.out.next b5)
  have B5 := hide (bnext B4.out b5)
  have V5 := hide (V4.out.next b5)
  clear b5 S4 B4 V4 CS c0 f0
  go_wp2_with fail
  refine (C3.out _ V5.out).mono ?_
  rintro e w6 ⟨rfl, b6⟩
  have S6 := hide (S5.out.next b6)
  have B6 := hide (bnext B5.out b6)
  have V6 := hide (V5.out.next b6)
  clear b6 S5 B5 V5 C3
  go_wp2_with (first | (refine wpList_load_row rfl 23 (.tmp 3) rfl w.heap.size rfl 23 _ (0, 0) _ S6.out Tryd.underlying23 rfl (by kernel_rfl) ?_))
  refine (C4.out _).mono ?_
  rintro e w7 ⟨rfl, b7⟩
  have B7 := hide (bnext B6.out b7)
  have V7 := hide (V6.out.next b7)
  clear b7 S6 B6 V6 C4
  go_wp2_with fail
  refine (only_4 _ V7.out).mono ?_
  rintro e w8 ⟨rfl, b8⟩
  have B8 := hide (bnext B7.out b8)
  clear b8 B7 V7
  cases there
  · go_wp2
    go_ret
    exact ⟨rfl, B8.out⟩
  · have h4 := H4.out rfl
    clear H4
    go_wp2
    go_ret
    exact ⟨ret_bool (by simp [h4]), B8.out⟩
theorem more_4_own_false_n (a b k p0 m l m' l' p p' y z v u x : Int) (there : Bool) (w : World) (hL : HasVec w) (em : bits .and .i64 a 7 = m) (el : bits .and .i64 b 7 = l) (ey : k.tmod 3 = y) (y0 : -3 < y) (y1 : y < 3) (ep : bits .andNot .i64 p0 4 = p) (ep' : bits .or .i64 p 4 = p') (ej : (y + 3).tmod 3 = 2) (em' : bits .or .i64 m 4 = m') (ez : bits .and .i64 m 4 = z) (C1 : Hid (∀ w, HasVec w → Calls Tryd.prog 6 #[.agg #[.int .i64 m, .int .i64 l], .int .i64 p] w fun e w' => e = .returned (.tuple #[.int .i64 v, .bool false]) ∧ Below w.heap.size w w')) (CR : Hid (∀ w, Calls Tryd.prog 8 #[.agg #[.int .i64 m, .int .i64 l], .int .i64 4, .bool true] w fun e w' => e = .returned (.agg #[.int .i64 m, .int .i64 l']) ∧ Below w.heap.size w w')) (C2 : Hid (∀ w, HasVec w → Calls Tryd.prog 6 #[.agg #[.int .i64 m, .int .i64 l'], .int .i64 p] w fun e w' => e = .returned (.tuple #[.int .i64 65530, .bool true]) ∧ Below w.heap.size w w')) (CS : Hid (∀ w, Calls Tryd.prog 8 #[.agg #[.int .i64 m', .int .i64 l], .int .i64 4, .bool true] w fun e w' => e = .returned (.agg #[.int .i64 m', .int .i64 l']) ∧ Below w.heap.size w w')) (C3 : Hid (∀ w, HasVec w → Calls Tryd.prog 6 #[.agg #[.int .i64 m', .int .i64 l'], .int .i64 p] w fun e w' => e = .returned (.tuple #[.int .i64 x, .bool there]) ∧ Below w.heap.size w w')) (C4 : Hid (∀ w, Calls Tryd.prog 6 #[.agg #[.int .i64 m', .int .i64 l], .int .i64 p'] w fun e w' => e = .returned (.tuple #[.int .i64 0, .bool false]) ∧ Below w.heap.size w w')) (H4 : Hid (there = true → x ≠ 65530)) (hz : ¬ z = 0) : Calls Tryd.prog 4 #[.agg #[.int .i64 a, .int .i64 b], .int .i64 k, .int .i64 p0] w fun e w' => e = .returned (.bool true) ∧ Below w.heap.size w w' := by
  have e6 : bits .and .i64 4 6 = 4 := by decide +kernel
  have hpos := hL.pos
  have HA := hide (hL.next ((Below.refl _ w).alloc (Nat.le_refl _) (.cells #[.int .i64 m, .int .i64 l] 23)))
  clear hL
  go_enter Tryd.func4, Tryd.ntmps4
  go_wp2_with fail
  refine (C1.out _ HA.out).mono ?_
  rintro e w1 ⟨rfl, b1⟩
  have S1 := hide ((hasS_new w m l).next b1)
  have B1 := hide (bnext ((Below.refl _ w).alloc (Nat.le_refl _) _) b1)
  have V1 := hide (HA.out.next b1)
  clear b1 HA C1
  go_wp2_with (first | (refine wpList_load_row rfl 23 (.tmp 3) rfl w.heap.size rfl 23 _ (0, 0) _ S1.out Tryd.underlying23 rfl (by kernel_rfl) ?_))
  refine (CR.out _).mono ?_
  rintro e w2 ⟨rfl, b2⟩
  have S2 := hide (S1.out.next b2)
  have B2 := hide (bnext B1.out b2)
  have V2 := hide (V1.out.next b2)
  clear b2 S1 B1 V1 CR
  go_wp2_with fail
  refine (C2.out _ V2.out).mono ?_
  rintro e w3 ⟨rfl, b3⟩
  have S3 := hide (S2.out.next b3)
  have B3 := hide (bnext B2.out b3)
  have V3 := hide (V2.out.next b3)
  have c0 := S3.out.c0
  have f0 := frozen_of_row w3 w.heap.size 0 _ _ S3.out
  have S4 := hide (S3.out.set0 m')
  have B4 := hide (B3.out.setCell (p := ⟨w.heap.size, 0, none⟩) (Nat.le_refl _) (.int .i64 m'))
  have V4 := hide (V3.out.set0 m' (Nat.ne_of_lt hpos))
  clear b3 S2 B2 V2 C2 S3 B3 V3 hpos
  go_wp2_with (first | (refine wpList_load_row rfl 23 (.tmp 3) rfl w.heap.size rfl 23 _ (0, 0) _ S4.out Tryd.underlying23 rfl (by kernel_rfl) ?_))
  refine (CS.out _).mono ?_
  rintro e w5 ⟨rfl, b5⟩
  have S5 := hide (S4.out.next b5)
  have B5 := hide (bnext B4.out b5)
  have V5 := hide (V4.out.next b5)
  clear b5 S4 B4 V4 CS c0 f0
  go_wp2_with fail
  refine (C3.out _ V5.out).mono ?_
  rintro e w6 ⟨rfl, b6⟩
  have S6 := hide (S5.out.next b6)
  have B6 := hide (bnext B5.out b6)
  have V6 := hide (V5.out.next b6)
  clear b6 S5 B5 V5 C3
  go_wp2_with (first | (refine wpList_load_row rfl 23 (.tmp 3) rfl w.heap.size rfl 23 _ (0, 0) _ S6.out Tryd.underlying23 rfl (by kernel_rfl) ?_))
  refine (C4.out _).mono ?_
  rintro e w7 ⟨rfl, b7⟩
  have B7 := hide (bnext B6.out b7)
  have V7 := hide (V6.out.next b7)
  clear b7 S6 B6 V6 C4
  go_wp2_with fail
  refine (only_4 _ V7.out).mono ?_
  rintro e w8 ⟨rfl, b8⟩
  have B8 := hide (bnext B7.out b8)
  clear b8 B7 V7
  cases there
  · go_wp2
    go_ret
    exact ⟨rfl, B8.out⟩
  · have h4 := H4.out rfl
    clear H4
    go_wp2
    go_ret
    exact ⟨ret_bool (by simp [h4]), B8.out⟩
theorem more_4_old_false_n (a b k p0 m l m' l' p p' y z v u x : Int) (there : Bool) (w : World) (hL : HasVec w) (em : bits .and .i64 a 7 = m) (el : bits .and .i64 b 7 = l) (ey : k.tmod 3 = y) (y0 : -3 < y) (y1 : y < 3) (ep : bits .andNot .i64 p0 4 = p) (ep' : bits .or .i64 p 4 = p') (ej : (y + 3).tmod 3 = 2) (em' : bits .or .i64 m 4 = m') (ez : bits .and .i64 m 4 = z) (C1 : Hid (∀ w, HasVec w → Calls Tryd.prog 6 #[.agg #[.int .i64 m, .int .i64 l], .int .i64 p] w fun e w' => e = .returned (.tuple #[.int .i64 v, .bool false]) ∧ Below w.heap.size w w')) (CR : Hid (∀ w, Calls Tryd.prog 8 #[.agg #[.int .i64 m, .int .i64 l], .int .i64 4, .bool true] w fun e w' => e = .returned (.agg #[.int .i64 m, .int .i64 l']) ∧ Below w.heap.size w w')) (C2 : Hid (∀ w, HasVec w → Calls Tryd.prog 6 #[.agg #[.int .i64 m, .int .i64 l'], .int .i64 p] w fun e w' => e = .returned (.tuple #[.int .i64 v, .bool true]) ∧ Below w.heap.size w w')) (CS : Hid (∀ w, Calls Tryd.prog 8 #[.agg #[.int .i64 m', .int .i64 l], .int .i64 4, .bool true] w fun e w' => e = .returned (.agg #[.int .i64 m', .int .i64 l']) ∧ Below w.heap.size w w')) (C3 : Hid (∀ w, HasVec w → Calls Tryd.prog 6 #[.agg #[.int .i64 m', .int .i64 l'], .int .i64 p] w fun e w' => e = .returned (.tuple #[.int .i64 x, .bool there]) ∧ Below w.heap.size w w')) (C4 : Hid (∀ w, Calls Tryd.prog 6 #[.agg #[.int .i64 m', .int .i64 l], .int .i64 p'] w fun e w' => e = .returned (.tuple #[.int .i64 0, .bool false]) ∧ Below w.heap.size w w')) (H4 : Hid (there = true → x ≠ 65530)) (hv : ¬ v = 65530) (hz : ¬ z = 0) : Calls Tryd.prog 4 #[.agg #[.int .i64 a, .int .i64 b], .int .i64 k, .int .i64 p0] w fun e w' => e = .returned (.bool true) ∧ Below w.heap.size w w' := by
  have e6 : bits .and .i64 4 6 = 4 := by decide +kernel
  have hpos := hL.pos
  have HA := hide (hL.next ((Below.refl _ w).alloc (Nat.le_refl _) (.cells #[.int .i64 m, .int .i64 l] 23)))
  clear hL
  go_enter Tryd.func4, Tryd.ntmps4
  go_wp2_with fail
  refine (C1.out _ HA.out).mono ?_
  rintro e w1 ⟨rfl, b1⟩
  have S1 := hide ((hasS_new w m l).next b1)
  have B1 := hide (bnext ((Below.refl _ w).alloc (Nat.le_refl _) _) b1)
  have V1 := hide (HA.out.next b1)
  clear b1 HA C1
  go_wp2_with (first | (refine wpList_load_row rfl 23 (.tmp 3) rfl w.heap.size rfl 23 _ (0, 0) _ S1.out Tryd.underlying23 rfl (by kernel_rfl) ?_))
  refine (CR.out _).mono ?_
  rintro e w2 ⟨rfl, b2⟩
  have S2 := hide (S1.out.next b2)
  have B2 := hide (bnext B1.out b2)
  have V2 := hide (V1.out.next b2)
  clear b2 S1 B1 V1 CR
  go_wp2_with fail
  refine (C2.out _ V2.out).mono ?_
  rintro e w3 ⟨rfl, b3⟩
  have S3 := hide (S2.out.next b3)
  have B3 := hide (bnext B2.out b3)
  have V3 := hide (V2.out.next b3)
  have c0 := S3.out.c0
  have f0 := frozen_of_row w3 w.heap.size 0 _ _ S3.out
  have S4 := hide (S3.out.set0 m')
  have B4 := hide (B3.out.setCell (p := ⟨w.heap.size, 0, none⟩) (Nat.le_refl _) (.int .i64 m'))
  have V4 := hide (V3.out.set0 m' (Nat.ne_of_lt hpos))
  clear b3 S2 B2 V2 C2 S3 B3 V3 hpos
  go_wp2_with (first | (refine wpList_load_row rfl 23 (.tmp 3) rfl w.heap.size rfl 23 _ (0, 0) _ S4.out Tryd.underlying23 rfl (by kernel_rfl) ?_))
  refine (CS.out _).mono ?_
  rintro e w5 ⟨rfl, b5⟩
  have S5 := hide (S4.out.next b5)
  have B5 := hide (bnext B4.out b5)
  have V5 := hide (V4.out.next b5)
  clear b5 S4 B4 V4 CS c0 f0
  go_wp2_with fail
  refine (C3.out _ V5.out).mono ?_
  rintro e w6 ⟨rfl, b6⟩
  have S6 := hide (S5.out.next b6)
  have B6 := hide (bnext B5.out b6)
  have V6 := hide (V5.out.next b6)
  clear b6 S5 B5 V5 C3
  go_wp2_with (first | (refine wpList_load_row rfl 23 (.tmp 3) rfl w.heap.size rfl 23 _ (0, 0) _ S6.out Tryd.underlying23 rfl (by kernel_rfl) ?_))
  refine (C4.out _).mono ?_
  rintro e w7 ⟨rfl, b7⟩
  have B7 := hide (bnext B6.out b7)
  have V7 := hide (V6.out.next b7)
  clear b7 S6 B6 V6 C4
  go_wp2_with fail
  refine (only_4 _ V7.out).mono ?_
  rintro e w8 ⟨rfl, b8⟩
  have B8 := hide (bnext B7.out b8)
  clear b8 B7 V7
  cases there
  · go_wp2
    go_ret
    exact ⟨rfl, B8.out⟩
  · have h4 := H4.out rfl
    clear H4
    go_wp2
    go_ret
    exact ⟨ret_bool (by simp [h4]), B8.out⟩
theorem more_4 (ok isa : Bool) (a b k p0 m l m' l' p p' y z v u x : Int) (there : Bool) (w : World) (hL : HasVec w) (em : bits .and .i64 a 7 = m) (el : bits .and .i64 b 7 = l) (ey : k.tmod 3 = y) (y0 : -3 < y) (y1 : y < 3) (ep : bits .andNot .i64 p0 4 = p) (ep' : bits .or .i64 p 4 = p') (ej : (y + 3).tmod 3 = 2) (em' : bits .or .i64 m 4 = m') (ez : bits .and .i64 m 4 = z) (C1 : Hid (∀ w, HasVec w → Calls Tryd.prog 6 #[.agg #[.int .i64 m, .int .i64 l], .int .i64 p] w fun e w' => e = .returned (.tuple #[.int .i64 v, .bool ok]) ∧ Below w.heap.size w w')) (CR : Hid (∀ w, Calls Tryd.prog 8 #[.agg #[.int .i64 m, .int .i64 l], .int .i64 4, .bool true] w fun e w' => e = .returned (.agg #[.int .i64 m, .int .i64 l']) ∧ Below w.heap.size w w')) (C2 : Hid (∀ w, HasVec w → Calls Tryd.prog 6 #[.agg #[.int .i64 m, .int .i64 l'], .int .i64 p] w fun e w' => e = .returned (.tuple #[.int .i64 u, .bool isa]) ∧ Below w.heap.size w w')) (CS : Hid (∀ w, Calls Tryd.prog 8 #[.agg #[.int .i64 m', .int .i64 l], .int .i64 4, .bool true] w fun e w' => e = .returned (.agg #[.int .i64 m', .int .i64 l']) ∧ Below w.heap.size w w')) (C3 : Hid (∀ w, HasVec w → Calls Tryd.prog 6 #[.agg #[.int .i64 m', .int .i64 l'], .int .i64 p] w fun e w' => e = .returned (.tuple #[.int .i64 x, .bool there]) ∧ Below w.heap.size w w')) (C4 : Hid (∀ w, Calls Tryd.prog 6 #[.agg #[.int .i64 m', .int .i64 l], .int .i64 p'] w fun e w' => e = .returned (.tuple #[.int .i64 0, .bool false]) ∧ Below w.heap.size w w')) (H4 : Hid (there = true → x ≠ 65530)) (h1 : ok = true → isa = true) (h2 : isa = true → u = 65530 ∨ u = v) (h3 : z = 0 → isa = true) : Calls Tryd.prog 4 #[.agg #[.int .i64 a, .int .i64 b], .int .i64 k, .int .i64 p0] w fun e w' => e = .returned (.bool true) ∧ Below w.heap.size w w' := by
  cases isa
  · have hz : ¬ z = 0 := fun e => by cases h3 e
    cases ok
    · exact more_4_no a b k p0 m l m' l' p p' y z v u x there w hL em el ey y0 y1 ep ep' ej em' ez C1 CR C2 CS C3 C4 H4 hz
    · cases h1 rfl
  · by_cases hu : u = 65530
    · subst hu
      by_cases hz : z = 0
      · cases ok
        · exact more_4_own_false_z a b k p0 m l m' l' p p' y z v 0 x there w hL em el ey y0 y1 ep ep' ej em' ez C1 CR C2 CS C3 C4 H4 hz
        · exact more_4_own_true_z a b k p0 m l m' l' p p' y z v 0 x there w hL em el ey y0 y1 ep ep' ej em' ez C1 CR C2 CS C3 C4 H4 hz
      · cases ok
        · exact more_4_own_false_n a b k p0 m l m' l' p p' y z v 0 x there w hL em el ey y0 y1 ep ep' ej em' ez C1 CR C2 CS C3 C4 H4 hz
        · exact more_4_own_true_n a b k p0 m l m' l' p p' y z v 0 x there w hL em el ey y0 y1 ep ep' ej em' ez C1 CR C2 CS C3 C4 H4 hz
    · obtain rfl : u = v := (h2 rfl).resolve_left hu
      by_cases hz : z = 0
      · cases ok
        · exact more_4_old_false_z a b k p0 m l m' l' p p' y z u 0 x there w hL em el ey y0 y1 ep ep' ej em' ez C1 CR C2 CS C3 C4 H4 hu hz
        · exact more_4_old_true_z a b k p0 m l m' l' p p' y z u 0 x there w hL em el ey y0 y1 ep ep' ej em' ez C1 CR C2 CS C3 C4 H4 hu hz
      · cases ok
        · exact more_4_old_false_n a b k p0 m l m' l' p p' y z u 0 x there w hL em el ey y0 y1 ep ep' ej em' ez C1 CR C2 CS C3 C4 H4 hu hz
        · exact more_4_old_true_n a b k p0 m l m' l' p p' y z u 0 x there w hL em el ey y0 y1 ep ep' ej em' ez C1 CR C2 CS C3 C4 H4 hu hz
end Go.Proofs.YtnmdifgoimoecaaDoor
