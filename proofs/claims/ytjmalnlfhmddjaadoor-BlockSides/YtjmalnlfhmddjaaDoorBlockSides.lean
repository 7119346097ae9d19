/- For all ends and numbers the law BlockSides of layer 9 returns true: what goes on goes by one each byte; what alternates has two places; the other way round TDD goes the way of TII; behind 65536 bytes all begins anew. The condition: the table of the ways holds what the program's text lays into it (the card ties it). -/
import Derived.Test.YtjmalnlfhmddjaaDoorStep
import Derived.Test.YtjmalnlfhmddjaaDoorTwo
import Derived.Test.YtjmalnlfhmddjaaDoorArrays
import Derived.Test.YtjmalnlfhmddjaaDoorBlkLaid
import Derived.Test.YtjmalnlfhmddjaaDoorTie
import Derived.Test.YtjmalnlfhmddjaaDoorCards
import Derived.SevenTiedAt
import Derived.OpenShut
import Derived.ShutString
import Derived.ChangeOld
import Derived.Below
namespace Go.Proofs.YtjmalnlfhmddjaaDoor
open Go.ChangeShapes Go.WideShapes Go.ChangeAt Go.RowKit
open Go.ChangeMaps (open_string shut_string)
set_option linter.unusedVariables false
theorem own : ownKnob Tryd.prog.godebug = none := by kernel_rfl

theorem eq_bool {x y : Int} {s : Bool} (h : x = y ↔ s = true) : (x == y) = s := by
  cases s
  · simp at h; simpa using h
  · simp at h; simpa using h
/-- The contract of one call, said of every world. -/
def Steps (A B k i x y : Int) : Prop := ∀ w, HasPaths w → Calls Tryd.prog 6 #[.int .i64 k, .int .i64 i, .agg #[.int .i64 A, .int .i64 B]] w fun e w' => e = .returned (.tuple #[.int .i64 x, .int .i64 y]) ∧ Below w.heap.size w w'
/-- What a round's four calls give. -/
def Four (A B k i a b e f g h o : Int) (s : Bool) : Prop :=
  Steps A B k i a b ∧ Steps A B k (i + 65536) a b ∧ Steps A B k (i + 1) e f ∧ Steps A B k (i + 2) g h ∧ (0 ≤ a ∧ a ≤ 65535) ∧ (0 ≤ e ∧ e ≤ 65535) ∧ bits .and .i64 (e - a) 65535 = o ∧ (o == 1) = s
theorem steps_to {A B k i x y u v : Int} (c : Steps A B k i x y) (h : x = u) (l : y = v) : Steps A B k i u v := h ▸ l ▸ c
theorem four_0 (A B i : Int) : ∃ a b e f g h o, Four A B 0 i a b e f g h o true :=
  ⟨_, _, _, _, _, _, _, step_0 i A B, steps_to (step_0 (i + 65536) A B) (by unfold goOf; omega) (by unfold goOf; omega), step_0 (i + 1) A B, step_0 (i + 2) A B, goOf_le _ _, goOf_le _ _, and_65535 _, eq_bool (by unfold goOf; simp; omega)⟩
theorem four_1 (A B i : Int) : ∃ a b e f g h o, Four A B 1 i a b e f g h o false :=
  ⟨_, _, _, _, _, _, _, step_1 i A B, steps_to (step_1 (i + 65536) A B) (by unfold goOf; omega) (by unfold goOf; omega), step_1 (i + 1) A B, step_1 (i + 2) A B, goOf_le _ _, goOf_le _ _, and_65535 _, eq_bool (by unfold goOf; simp; omega)⟩
theorem four_2 (A B i : Int) : ∃ a b e g o, Four A B 2 i a b e b g b o true :=
  ⟨_, _, _, _, _, step_2 i A B, steps_to (step_2 (i + 65536) A B) (by unfold goOf; omega) (by unfold goOf; omega), step_2 (i + 1) A B, step_2 (i + 2) A B, goOf_le _ _, goOf_le _ _, and_65535 _, eq_bool (by unfold goOf; simp; omega)⟩
theorem four_3 (A B i : Int) : ∃ a b e f g o, Four A B 3 i a b e f g b o true ∧ (f == b) = false :=
  ⟨_, _, _, _, _, _, ⟨step_3 i A B, steps_to (step_3 (i + 65536) A B) (by unfold goOf; omega) (by unfold goOf; omega), step_3 (i + 1) A B, steps_to (step_3 (i + 2) A B) rfl (by unfold goOf; omega), goOf_le _ _, goOf_le _ _, and_65535 _, eq_bool (by unfold goOf; simp; omega)⟩, eq_bool (by unfold goOf; simp; omega)⟩
theorem four_4 (A B i : Int) : ∃ a b e f h o, Four A B 4 i a b e f a h o (decide (i % 2 = 0)) ∧ (e == a) = false :=
  ⟨_, _, _, _, _, _, ⟨step_4 i A B, steps_to (step_4 (i + 65536) A B) (by unfold goOf; omega) (by unfold goOf; omega), step_4 (i + 1) A B, steps_to (step_4 (i + 2) A B) (by unfold goOf; omega) rfl, goOf_le _ _, goOf_le _ _, and_65535 _, eq_bool (by unfold goOf; simp; omega)⟩, eq_bool (by unfold goOf; simp; omega)⟩
theorem last_both (A B i : Int) : ∃ a b, Steps A B 0 i a b ∧ Steps A B 1 (65536 - i) a b :=
  ⟨_, _, step_0 i A B, steps_to (step_1 (65536 - i) A B) (by unfold goOf; omega) (by unfold goOf; omega)⟩
set_option maxRecDepth 20000 in
set_option maxHeartbeats 2000000 in
theorem sides (A B i I r : Int) (w : World) (hP : HasPaths w) (ei : bits .and .i64 i 65535 = I) (i0 : 0 ≤ I) (i1 : I ≤ 65535) (er : bits .and .i64 I 1 = r) (hr : (r == 0) = decide (I % 2 = 0)) (k5 : ∀ w, Calls Tryd.prog 12 #[.int .i64 1] w fun e w' => e = .returned (.int .i64 23) ∧ w' = w) :
    Calls Tryd.prog 4 #[.int .i64 i, .agg #[.int .i64 A, .int .i64 B]] w fun e w' => e = .returned (.bool true) ∧ Below w.heap.size w w' := by
  have C5 := hide k5
  have HR := hide hr
  clear k5 hr
  go_enter Tryd.func4, Tryd.ntmps4
  go_wp2_with fail
  obtain ⟨wa, hwa⟩ : ∃ wa, wa = w.alloc (.cells #[.int .i64 A, .int .i64 B] 25) := ⟨_, rfl⟩
  rw [← hwa]
  have H0 := hide (by rw [hwa]; exact And.intro (by simp) ⟨by simp, by simp⟩ : Has2 wa w.heap.size A B)
  have B0 := hide (by rw [hwa]; exact (Below.refl _ w).alloc (Nat.le_refl _) _ : Below w.heap.size w wa)
  have P0 := hide (hP.next B0.out)
  clear hwa hP
  go_loopw [5] (fun si wr => ∃ k : Int, (k = 0 ∨ k = 1 ∨ k = 2 ∨ k = 3 ∨ k = 4 ∨ k = 5) ∧ si = .int .i64 k ∧ Has2 wr w.heap.size A B ∧ HasPaths wr ∧ Below w.heap.size w wr) (fun si _ => 5 - (intOf si).toNat)
  case atStart => exact ⟨0, .inl rfl, rfl, H0.out, P0.out, B0.out⟩
  case round =>
    obtain ⟨k, hk, rfl, hH, hP, hB⟩ := hrel
    have H1 := hide hH
    have P1 := hide hP
    have B1 := hide hB
    clear hH hP hB H0 P0 B0
    obtain ⟨hd, h0, h1⟩ := H1.out
    rcases hk with rfl | rfl | rfl | rfl | rfl | rfl
    · obtain ⟨a, b, e, f, g, h, o, m1, m2, m3, m4, a0, e0, eo, so⟩ := four_0 A B I
      have c1 := hide m1
      have c2 := hide m2
      have c3 := hide m3
      have c4 := hide m4
      clear m1 m2 m3 m4
      go_wp2_with fail
      refine (c1.out _ P1.out).mono ?_
      rintro _ w2 ⟨rfl, bb⟩
      have H2 := hide (H1.out.next bb)
      have P2 := hide (P1.out.next bb)
      have B2 := hide (bnext B1.out bb)
      clear hd h0 h1 bb
      obtain ⟨hd, h0, h1⟩ := H2.out
      clear H1 P1 B1
      go_wp2_with fail
      refine (c2.out _ P2.out).mono ?_
      rintro _ w3 ⟨rfl, bb⟩
      have H3 := hide (H2.out.next bb)
      have P3 := hide (P2.out.next bb)
      have B3 := hide (bnext B2.out bb)
      clear hd h0 h1 bb
      obtain ⟨hd, h0, h1⟩ := H3.out
      clear H2 P2 B2
      go_wp2_with fail
      refine (c3.out _ P3.out).mono ?_
      rintro _ w4 ⟨rfl, bb⟩
      have H4 := hide (H3.out.next bb)
      have P4 := hide (P3.out.next bb)
      have B4 := hide (bnext B3.out bb)
      clear hd h0 h1 bb
      obtain ⟨hd, h0, h1⟩ := H4.out
      clear H3 P3 B3
      go_wp2_with fail
      refine (c4.out _ P4.out).mono ?_
      rintro _ w5 ⟨rfl, bb⟩
      have H5 := hide (H4.out.next bb)
      have P5 := hide (P4.out.next bb)
      have B5 := hide (bnext B4.out bb)
      clear hd h0 h1 bb
      obtain ⟨hd, h0, h1⟩ := H5.out
      clear H4 P4 B4
      go_wp2_with fail
      go_roundw
      case rel => exact ⟨1, by omega, rfl, H5.out, P5.out, B5.out⟩
      case measure => simp [intOf]
    · obtain ⟨a, b, e, f, g, h, o, m1, m2, m3, m4, a0, e0, eo, so⟩ := four_1 A B I
      have c1 := hide m1
      have c2 := hide m2
      have c3 := hide m3
      have c4 := hide m4
      clear m1 m2 m3 m4
      go_wp2_with fail
      refine (c1.out _ P1.out).mono ?_
      rintro _ w2 ⟨rfl, bb⟩
      have H2 := hide (H1.out.next bb)
      have P2 := hide (P1.out.next bb)
      have B2 := hide (bnext B1.out bb)
      clear hd h0 h1 bb
      obtain ⟨hd, h0, h1⟩ := H2.out
      clear H1 P1 B1
      go_wp2_with fail
      refine (c2.out _ P2.out).mono ?_
      rintro _ w3 ⟨rfl, bb⟩
      have H3 := hide (H2.out.next bb)
      have P3 := hide (P2.out.next bb)
      have B3 := hide (bnext B2.out bb)
      clear hd h0 h1 bb
      obtain ⟨hd, h0, h1⟩ := H3.out
      clear H2 P2 B2
      go_wp2_with fail
      refine (c3.out _ P3.out).mono ?_
      rintro _ w4 ⟨rfl, bb⟩
      have H4 := hide (H3.out.next bb)
      have P4 := hide (P3.out.next bb)
      have B4 := hide (bnext B3.out bb)
      clear hd h0 h1 bb
      obtain ⟨hd, h0, h1⟩ := H4.out
      clear H3 P3 B3
      go_wp2_with fail
      refine (c4.out _ P4.out).mono ?_
      rintro _ w5 ⟨rfl, bb⟩
      have H5 := hide (H4.out.next bb)
      have P5 := hide (P4.out.next bb)
      have B5 := hide (bnext B4.out bb)
      clear hd h0 h1 bb
      obtain ⟨hd, h0, h1⟩ := H5.out
      clear H4 P4 B4
      go_wp2_with fail
      go_roundw
      case rel => exact ⟨2, by omega, rfl, H5.out, P5.out, B5.out⟩
      case measure => simp [intOf]
    · obtain ⟨a, b, e, g, o, m1, m2, m3, m4, a0, e0, eo, so⟩ := four_2 A B I
      have c1 := hide m1
      have c2 := hide m2
      have c3 := hide m3
      have c4 := hide m4
      clear m1 m2 m3 m4
      go_wp2_with fail
      refine (c1.out _ P1.out).mono ?_
      rintro _ w2 ⟨rfl, bb⟩
      have H2 := hide (H1.out.next bb)
      have P2 := hide (P1.out.next bb)
      have B2 := hide (bnext B1.out bb)
      clear hd h0 h1 bb
      obtain ⟨hd, h0, h1⟩ := H2.out
      clear H1 P1 B1
      go_wp2_with fail
      refine (c2.out _ P2.out).mono ?_
      rintro _ w3 ⟨rfl, bb⟩
      have H3 := hide (H2.out.next bb)
      have P3 := hide (P2.out.next bb)
      have B3 := hide (bnext B2.out bb)
      clear hd h0 h1 bb
      obtain ⟨hd, h0, h1⟩ := H3.out
      clear H2 P2 B2
      go_wp2_with fail
      refine (c3.out _ P3.out).mono ?_
      rintro _ w4 ⟨rfl, bb⟩
      have H4 := hide (H3.out.next bb)
      have P4 := hide (P3.out.next bb)
      have B4 := hide (bnext B3.out bb)
      clear hd h0 h1 bb
      obtain ⟨hd, h0, h1⟩ := H4.out
      clear H3 P3 B3
      go_wp2_with fail
      refine (c4.out _ P4.out).mono ?_
      rintro _ w5 ⟨rfl, bb⟩
      have H5 := hide (H4.out.next bb)
      have P5 := hide (P4.out.next bb)
      have B5 := hide (bnext B4.out bb)
      clear hd h0 h1 bb
      obtain ⟨hd, h0, h1⟩ := H5.out
      clear H4 P4 B4
      go_wp2_with fail
      go_roundw
      case rel => exact ⟨3, by omega, rfl, H5.out, P5.out, B5.out⟩
      case measure => simp [intOf]
    · obtain ⟨a, b, e, f, g, o, ⟨m1, m2, m3, m4, a0, e0, eo, so⟩, nf⟩ := four_3 A B I
      have c1 := hide m1
      have c2 := hide m2
      have c3 := hide m3
      have c4 := hide m4
      clear m1 m2 m3 m4
      go_wp2_with fail
      refine (c1.out _ P1.out).mono ?_
      rintro _ w2 ⟨rfl, bb⟩
      have H2 := hide (H1.out.next bb)
      have P2 := hide (P1.out.next bb)
      have B2 := hide (bnext B1.out bb)
      clear hd h0 h1 bb
      obtain ⟨hd, h0, h1⟩ := H2.out
      clear H1 P1 B1
      go_wp2_with fail
      refine (c2.out _ P2.out).mono ?_
      rintro _ w3 ⟨rfl, bb⟩
      have H3 := hide (H2.out.next bb)
      have P3 := hide (P2.out.next bb)
      have B3 := hide (bnext B2.out bb)
      clear hd h0 h1 bb
      obtain ⟨hd, h0, h1⟩ := H3.out
      clear H2 P2 B2
      go_wp2_with fail
      refine (c3.out _ P3.out).mono ?_
      rintro _ w4 ⟨rfl, bb⟩
      have H4 := hide (H3.out.next bb)
      have P4 := hide (P3.out.next bb)
      have B4 := hide (bnext B3.out bb)
      clear hd h0 h1 bb
      obtain ⟨hd, h0, h1⟩ := H4.out
      clear H3 P3 B3
      go_wp2_with fail
      refine (c4.out _ P4.out).mono ?_
      rintro _ w5 ⟨rfl, bb⟩
      have H5 := hide (H4.out.next bb)
      have P5 := hide (P4.out.next bb)
      have B5 := hide (bnext B4.out bb)
      clear hd h0 h1 bb
      obtain ⟨hd, h0, h1⟩ := H5.out
      clear H4 P4 B4
      go_wp2_with fail
      go_roundw
      case rel => exact ⟨4, by omega, rfl, H5.out, P5.out, B5.out⟩
      case measure => simp [intOf]
    · obtain ⟨a, b, e, f, h, o, ⟨m1, m2, m3, m4, a0, e0, eo, so⟩, nf⟩ := four_4 A B I
      have hr := HR.out
      generalize decide (I % 2 = 0) = t at *
      have c1 := hide m1
      have c2 := hide m2
      have c3 := hide m3
      have c4 := hide m4
      clear m1 m2 m3 m4
      go_wp2_with fail
      refine (c1.out _ P1.out).mono ?_
      rintro _ w2 ⟨rfl, bb⟩
      have H2 := hide (H1.out.next bb)
      have P2 := hide (P1.out.next bb)
      have B2 := hide (bnext B1.out bb)
      clear hd h0 h1 bb
      obtain ⟨hd, h0, h1⟩ := H2.out
      clear H1 P1 B1
      go_wp2_with fail
      refine (c2.out _ P2.out).mono ?_
      rintro _ w3 ⟨rfl, bb⟩
      have H3 := hide (H2.out.next bb)
      have P3 := hide (P2.out.next bb)
      have B3 := hide (bnext B2.out bb)
      clear hd h0 h1 bb
      obtain ⟨hd, h0, h1⟩ := H3.out
      clear H2 P2 B2
      go_wp2_with fail
      refine (c3.out _ P3.out).mono ?_
      rintro _ w4 ⟨rfl, bb⟩
      have H4 := hide (H3.out.next bb)
      have P4 := hide (P3.out.next bb)
      have B4 := hide (bnext B3.out bb)
      clear hd h0 h1 bb
      obtain ⟨hd, h0, h1⟩ := H4.out
      clear H3 P3 B3
      go_wp2_with fail
      refine (c4.out _ P4.out).mono ?_
      rintro _ w5 ⟨rfl, bb⟩
      have H5 := hide (H4.out.next bb)
      have P5 := hide (P4.out.next bb)
      have B5 := hide (bnext B4.out bb)
      clear hd h0 h1 bb
      obtain ⟨hd, h0, h1⟩ := H5.out
      clear H4 P4 B4
      go_wp2_with fail
      go_roundw
      case rel => exact ⟨5, by omega, rfl, H5.out, P5.out, B5.out⟩
      case measure => simp [intOf]
    · obtain ⟨a, b, m1, m2⟩ := last_both A B I
      have c1 := hide m1
      have c2 := hide m2
      clear m1 m2
      go_wp2_with fail
      refine (c1.out _ P1.out).mono ?_
      rintro _ w2 ⟨rfl, bb⟩
      have H2 := hide (H1.out.next bb)
      have P2 := hide (P1.out.next bb)
      have B2 := hide (bnext B1.out bb)
      clear hd h0 h1 bb
      obtain ⟨hd, h0, h1⟩ := H2.out
      clear H1 P1 B1
      go_wp2_with fail
      refine (c2.out _ P2.out).mono ?_
      rintro _ w3 ⟨rfl, bb⟩
      have H3 := hide (H2.out.next bb)
      have P3 := hide (P2.out.next bb)
      have B3 := hide (bnext B2.out bb)
      clear hd h0 h1 bb
      obtain ⟨hd, h0, h1⟩ := H3.out
      clear H2 P2 B2
      go_wp2_with fail
      refine (C5.out _).mono ?_
      rintro _ w4 ⟨rfl, hw⟩
      subst w4
      go_wp2_with fail
      go_ret
      exact ⟨rfl, B3.out⟩

theorem blockSides_walk (a0 : Int) (z1 : List Int) (w : World) (w0 : (Lit.int .i64 a0).wf = true) (l1 : z1.length = 2) (w1 : ∀ z ∈ z1, (Lit.int .i64 z).wf = true) (hL : HasPaths w) :
    Calls Tryd.prog 4 #[.int .i64 a0, .agg (z1.map (Value.int .i64)).toArray] w fun e w' => e = .returned (.bool true) ∧ Below w.heap.size w w' := by
  obtain ⟨a, b, rfl⟩ := two_of z1 l1
  simp only [List.map]
  exact sides a b a0 (a0 % 65536) _ w hL (and_65535 a0) (by omega) (by omega) (and_1 _) (eq_bool (by simp)) (fun w => cycles_any 1 w)

set_option maxRecDepth 100000 in
theorem blockSides_lifted (os : Os) (started : os.Started) (H : Type) (enc : TypeId × Value → H) :
    ReturnsInHanded {} Tryd.checked os 4 .any (fun w args => (Rows.blockSidesSpec.pre enc Tryd.prog Tryd.f4 [] false w args ∧ laidMetH Tryd.prog laidPaths w) ∧ sizedMet enc Tryd.prog Tryd.f4 (OpenSpec.ofChange Rows.blockSidesSpec) false w args)
      (Rows.blockSidesSpec.post enc Tryd.prog Tryd.f4 false true false false) := by
  refine returnsInHanded_of_change_and (C := Tryd.checked) (X := fun w _ => laidMetH Tryd.prog laidPaths w) (fun _ _ _ hh h => h.of_heap hh) own started (by kernel_rfl) Tryd.func4
    (ChangeSpec.witness_at (enc := enc) (C := Tryd.checked) (os := os) (X := fun w _ => laidMetH Tryd.prog laidPaths w) false (laidWorld os) #[.int .i64 0, .agg #[.int .i64 0, .int .i64 0]] 8 rfl (by kernel_rfl) (by kernel_rfl) (by kernel_rfl) (by kernel_rfl) (by kernel_rfl) (laidWorld_paths os _)) ?_
  intro W base args ds gs before hval0 hW _ _ hL _
  have hval : ∀ (j : Nat) t v, Tryd.f4.params[j]? = some t → args[j]? = some v → Value.okWide Tryd.prog W .any base t v := hval0
  have hW' := hW
  obtain ⟨p, q, hA0, hV, rfl, hfz, hnd⟩ := hW
  have hA : DataW.TrodAll enc Tryd.prog W 0 (fun _ => true) true Tryd.f4.params.toList args.toList ds p := hA0
  rw [Tryd.params4] at hA hval
  obtain ⟨v0, vs0, d0, ds0, p0, q0, hargs, rfl, rfl, h0, r0⟩ := trodAll_cons hA
  obtain ⟨v1, vs1, d1, ds1, p1, q1, rfl, rfl, rfl, h1, r1⟩ := trodAll_cons r0
  obtain ⟨rfl, rfl, rfl⟩ := trodAll_nil r1
  obtain rfl : args = #[v0, v1] := by cases args; simp_all
  obtain ⟨rfl, rfl⟩ := trodVars_none hV
  obtain ⟨a0, rfl, rfl, rfl, w0⟩ := open_int Tryd.underlying3 (hval 0 3 v0 rfl rfl) h0
  have k1 := h1
  have lt1 : ∀ x ∈ p1, x.block < W.heap.size := by obtain ⟨m, hm⟩ := k1; exact DataW.trod_lt m _ _ _ hm
  obtain ⟨z1, l1, rfl, w1⟩ := open_array_ints Tryd.underlying25 Tryd.underlying3 (by kernel_rfl) (by kernel_rfl) (hval 1 25 v1 rfl rfl) h1
  clear hA0 hval0
  refine (blockSides_walk a0 z1 W w0 l1 w1 (laid_paths hL)).mono fun e W' ⟨he, bel⟩ => ?_
  subst he
  exact ⟨_, rfl, _, _, _, [], _, [], hW', trodAll_mk1 (shut_bool Tryd.underlying4 _), (trodAll_cons_mk (shut_int Tryd.underlying3 w0) (trodAll_cons_mk (Below.trod laidOut (by kernel_rfl) (of_decide_eq_true (by kernel_rfl)) k1 bel lt1) trodAll_mk0)), rfl, bel.frame _, fun h => by cases h⟩

theorem blockSides_over : Rows.blockSidesRow.holds Tryd.pinned (OpenSpec.ofChange Rows.blockSidesSpec) :=
  OpenClaim.holds_of_wide 4 Tryd.f4 rfl rfl rfl rfl rfl rfl rfl ⟨rfl, rfl, rfl, rfl, rfl⟩ rfl rfl rfl rfl rfl (by kernel_rfl) Tryd.func4 (by kernel_rfl)
    (of_decide_eq_true (by kernel_rfl)) (by unfold Func.isWrapper; first | (rw [if_pos (by decide +kernel)]; kernel_rfl) | (rw [if_neg (by decide +kernel)]; exact ⟨rfl, rfl⟩))
    (fun os started H enc _ => blockSides_lifted os started H enc)

theorem blockSides_row : Rows.BlockSidesSaid := blockSides_over

theorem blockSides_holds : Rows.BlockSidesCardSaid :=
  Claim7.holds_tied_plain_at .later [] [.data] true (true, "226d930e239870412cef5cbfd11501ef4a2598172ed79a96949de5c2add574a4") false
    blockSides_row (fun _ h => by cases h) (by kernel_rfl) (fun _ h => by cases h) blockSides_row_tie rfl ⟨rfl, rfl⟩ (by kernel_rfl) rfl
    (fun f fn hf hfn => by
      obtain rfl : f = 4 := Option.some.inj ((show Tryd.prog.funcNamed "phosphor/phosphorlaw09.BlockSides" = some 4 by kernel_rfl).symm.trans hf) |>.symm
      obtain rfl : fn = Tryd.f4 := (Option.some.inj (Tryd.func4.symm.trans hfn)).symm
      exact ⟨by kernel_rfl, fun j t ht => by
        rw [Tryd.params4] at ht
        rcases j with _ | _ | j
        · obtain rfl : t = 3 := by simpa using ht.symm
          exact (show Tryd.prog.wantsStandIn 3 = false by kernel_rfl)
        · obtain rfl : t = 25 := by simpa using ht.symm
          exact (show Tryd.prog.wantsStandIn 25 = false by kernel_rfl)
        · simp at ht⟩)
    (by kernel_rfl)
#print axioms blockSides_holds
end Go.Proofs.YtjmalnlfhmddjaaDoor
