/- For all ends and numbers the law BlockCovers of layer 9 returns true: a transfer that goes on at both ends touches each place once, up to 65536; a length of 0 is all of them. The condition: the table of the ways holds what the program's text lays into it (the card ties it). -/
import Derived.Test.YtjmalnlfhmddjaaDoorStep
import Derived.Test.YtjmalnlfhmddjaaDoorTwo
import Derived.Test.YtjmalnlfhmddjaaDoorArrays
import Derived.Test.YtjmalnlfhmddjaaDoorBlkLaid
import Derived.Test.YtjmalnlfhmddjaaDoorTie
import Derived.Test.YtjmalnlfhmddjaaDoorCards
import Derived.SevenTiedAt
import Derived.OpenShut
import Derived.ShutString
import Derived.ChangeOld
import Derived.Below
namespace Go.Proofs.YtjmalnlfhmddjaaDoor
open Go.ChangeShapes Go.WideShapes Go.ChangeAt Go.RowKit
open Go.ChangeMaps (open_string shut_string)
set_option linter.unusedVariables false
theorem own : ownKnob Tryd.prog.godebug = none := by kernel_rfl

set_option maxRecDepth 20000 in
theorem covers (a b i k I K x1 x2 y1 y2 u1 u2 v1 v2 n : Int) (s z : Bool) (w : World) (hP : HasPaths w) (ei : bits .and .i64 i 65535 = I) (ek : bits .and .i64 k 65535 = K) (hs : (I == K) = s)
    (s1 : (x1 == y1) = s) (s2 : (x2 == y2) = s) (s3 : (u1 == v1) = s) (s4 : (u2 == v2) = s) (hz : (I == 0) = z) (hn : (n == 65536) = z) (n0 : 1 ≤ n) (n1 : n ≤ 65536)
    (k1 : ∀ w, HasPaths w → Calls Tryd.prog 6 #[.int .i64 0, .int .i64 I, .agg #[.int .i64 a, .int .i64 b]] w fun e w' => e = .returned (.tuple #[.int .i64 x1, .int .i64 x2]) ∧ Below w.heap.size w w')
    (k2 : ∀ w, HasPaths w → Calls Tryd.prog 6 #[.int .i64 0, .int .i64 K, .agg #[.int .i64 a, .int .i64 b]] w fun e w' => e = .returned (.tuple #[.int .i64 y1, .int .i64 y2]) ∧ Below w.heap.size w w')
    (k3 : ∀ w, HasPaths w → Calls Tryd.prog 6 #[.int .i64 1, .int .i64 I, .agg #[.int .i64 a, .int .i64 b]] w fun e w' => e = .returned (.tuple #[.int .i64 u1, .int .i64 u2]) ∧ Below w.heap.size w w')
    (k4 : ∀ w, HasPaths w → Calls Tryd.prog 6 #[.int .i64 1, .int .i64 K, .agg #[.int .i64 a, .int .i64 b]] w fun e w' => e = .returned (.tuple #[.int .i64 v1, .int .i64 v2]) ∧ Below w.heap.size w w')
    (k5 : ∀ w, Calls Tryd.prog 10 #[.int .i64 I] w fun e w' => e = .returned (.int .i64 n) ∧ w' = w)
    (k6 : ∀ w, Calls Tryd.prog 12 #[.int .i64 I] w fun e w' => e = .returned (.int .i64 (17 + 6 * n)) ∧ w' = w) :
    Calls Tryd.prog 5 #[.agg #[.int .i64 a, .int .i64 b], .int .i64 i, .int .i64 k] w fun e w' => e = .returned (.bool true) ∧ Below w.heap.size w w' := by
  have c1 := hide k1
  have c2 := hide k2
  have c3 := hide k3
  have c4 := hide k4
  have c5 := hide k5
  have c6 := hide k6
  clear k1 k2 k3 k4 k5 k6
  go_enter Tryd.func5, Tryd.ntmps5
  go_wp2_with fail
  obtain ⟨wa, hwa⟩ : ∃ wa, wa = w.alloc (.cells #[.int .i64 a, .int .i64 b] 25) := ⟨_, rfl⟩
  rw [← hwa]
  have H0 := hide (by rw [hwa]; exact And.intro (by simp) ⟨by simp, by simp⟩ : Has2 wa w.heap.size a b)
  have B0 := hide (by rw [hwa]; exact (Below.refl _ w).alloc (Nat.le_refl _) _ : Below w.heap.size w wa)
  have P0 := hide (hP.next B0.out)
  clear hwa hP
  obtain ⟨hd, h0, h1⟩ := H0.out
  refine (c1.out _ P0.out).mono ?_
  rintro e w1 ⟨rfl, bb⟩
  have H1 := hide (H0.out.next bb)
  have P1 := hide (P0.out.next bb)
  have B1 := hide (bnext B0.out bb)
  clear hd h0 h1 bb
  obtain ⟨hd, h0, h1⟩ := H1.out
  clear H0 P0 B0
  go_wp2_with fail
  refine (c2.out _ P1.out).mono ?_
  rintro e w2 ⟨rfl, bb⟩
  have H2 := hide (H1.out.next bb)
  have P2 := hide (P1.out.next bb)
  have B2 := hide (bnext B1.out bb)
  clear hd h0 h1 bb
  obtain ⟨hd, h0, h1⟩ := H2.out
  clear H1 P1 B1
  go_wp2_with fail
  refine (c3.out _ P2.out).mono ?_
  rintro e w3 ⟨rfl, bb⟩
  have H3 := hide (H2.out.next bb)
  have P3 := hide (P2.out.next bb)
  have B3 := hide (bnext B2.out bb)
  clear hd h0 h1 bb
  obtain ⟨hd, h0, h1⟩ := H3.out
  clear H2 P2 B2
  go_wp2_with fail
  refine (c4.out _ P3.out).mono ?_
  rintro e w4 ⟨rfl, bb⟩
  have H4 := hide (H3.out.next bb)
  have P4 := hide (P3.out.next bb)
  have B4 := hide (bnext B3.out bb)
  clear hd h0 h1 bb
  obtain ⟨hd, h0, h1⟩ := H4.out
  clear H3 P3 B3
  go_wp2_with fail
  refine (c5.out _).mono ?_
  rintro e w5 ⟨rfl, hw⟩
  subst w5
  go_wp2_with fail
  refine (c6.out _).mono ?_
  rintro e w5 ⟨rfl, hw⟩
  subst w5
  go_wp2_with fail
  go_ret
  exact ⟨rfl, B4.out⟩

theorem eq_bool {x y : Int} {s : Bool} (h : x = y ↔ s = true) : (x == y) = s := by
  cases s
  · simp at h; simpa using h
  · simp at h; simpa using h
theorem blockCovers_walk (z0 : List Int) (a1 a2 : Int) (w : World) (l0 : z0.length = 2) (w0 : ∀ z ∈ z0, (Lit.int .i64 z).wf = true) (w1 : (Lit.int .i64 a1).wf = true) (w2 : (Lit.int .i64 a2).wf = true) (hL : HasPaths w) :
    Calls Tryd.prog 5 #[.agg (z0.map (Value.int .i64)).toArray, .int .i64 a1, .int .i64 a2] w fun e w' => e = .returned (.bool true) ∧ Below w.heap.size w w' := by
  obtain ⟨a, b, rfl⟩ := two_of z0 l0
  simp only [List.map]
  refine covers a b a1 a2 (a1 % 65536) (a2 % 65536) _ _ _ _ _ _ _ _ (countOf (a1 % 65536)) (decide (a1 % 65536 = a2 % 65536)) (decide (a1 % 65536 = 0)) w hL (and_65535 a1) (and_65535 a2) ?_ ?_ ?_ ?_ ?_ ?_ ?_ (countOf_le _).1 (countOf_le _).2
    (fun w h => step_0 _ a b w h) (fun w h => step_0 _ a b w h) (fun w h => step_1 _ a b w h) (fun w h => step_1 _ a b w h) (fun w => count_any _ w) (fun w => cycles_any _ w)
  · refine eq_bool ?_; simp
  · refine eq_bool ?_; simp only [decide_eq_true_eq]; unfold goOf; omega
  · refine eq_bool ?_; simp only [decide_eq_true_eq]; unfold goOf; omega
  · refine eq_bool ?_; simp only [decide_eq_true_eq]; unfold goOf; omega
  · refine eq_bool ?_; simp only [decide_eq_true_eq]; unfold goOf; omega
  · refine eq_bool ?_; simp
  · refine eq_bool ?_; simp only [decide_eq_true_eq]; unfold countOf; split <;> omega

set_option maxRecDepth 100000 in
theorem blockCovers_lifted (os : Os) (started : os.Started) (H : Type) (enc : TypeId × Value → H) :
    ReturnsInHanded {} Tryd.checked os 5 .any (fun w args => (Rows.blockCoversSpec.pre enc Tryd.prog Tryd.f5 [] false w args ∧ laidMetH Tryd.prog laidPaths w) ∧ sizedMet enc Tryd.prog Tryd.f5 (OpenSpec.ofChange Rows.blockCoversSpec) false w args)
      (Rows.blockCoversSpec.post enc Tryd.prog Tryd.f5 false true false false) := by
  refine returnsInHanded_of_change_and (C := Tryd.checked) (X := fun w _ => laidMetH Tryd.prog laidPaths w) (fun _ _ _ hh h => h.of_heap hh) own started (by kernel_rfl) Tryd.func5
    (ChangeSpec.witness_at (enc := enc) (C := Tryd.checked) (os := os) (X := fun w _ => laidMetH Tryd.prog laidPaths w) false (laidWorld os) #[.agg #[.int .i64 0, .int .i64 0], .int .i64 0, .int .i64 0] 8 rfl (by kernel_rfl) (by kernel_rfl) (by kernel_rfl) (by kernel_rfl) (by kernel_rfl) (laidWorld_paths os _)) ?_
  intro W base args ds gs before hval0 hW _ _ hL _
  have hval : ∀ (j : Nat) t v, Tryd.f5.params[j]? = some t → args[j]? = some v → Value.okWide Tryd.prog W .any base t v := hval0
  have hW' := hW
  obtain ⟨p, q, hA0, hV, rfl, hfz, hnd⟩ := hW
  have hA : DataW.TrodAll enc Tryd.prog W 0 (fun _ => true) true Tryd.f5.params.toList args.toList ds p := hA0
  rw [Tryd.params5] at hA hval
  obtain ⟨v0, vs0, d0, ds0, p0, q0, hargs, rfl, rfl, h0, r0⟩ := trodAll_cons hA
  obtain ⟨v1, vs1, d1, ds1, p1, q1, rfl, rfl, rfl, h1, r1⟩ := trodAll_cons r0
  obtain ⟨v2, vs2, d2, ds2, p2, q2, rfl, rfl, rfl, h2, r2⟩ := trodAll_cons r1
  obtain ⟨rfl, rfl, rfl⟩ := trodAll_nil r2
  obtain rfl : args = #[v0, v1, v2] := by cases args; simp_all
  obtain ⟨rfl, rfl⟩ := trodVars_none hV
  have k0 := h0
  have lt0 : ∀ x ∈ p0, x.block < W.heap.size := by obtain ⟨m, hm⟩ := k0; exact DataW.trod_lt m _ _ _ hm
  obtain ⟨z0, l0, rfl, w0⟩ := open_array_ints Tryd.underlying25 Tryd.underlying3 (by kernel_rfl) (by kernel_rfl) (hval 0 25 v0 rfl rfl) h0
  obtain ⟨a1, rfl, rfl, rfl, w1⟩ := open_int Tryd.underlying3 (hval 1 3 v1 rfl rfl) h1
  obtain ⟨a2, rfl, rfl, rfl, w2⟩ := open_int Tryd.underlying3 (hval 2 3 v2 rfl rfl) h2
  clear hA0 hval0
  refine (blockCovers_walk z0 a1 a2 W l0 w0 w1 w2 (laid_paths hL)).mono fun e W' ⟨he, bel⟩ => ?_
  subst he
  exact ⟨_, rfl, _, _, _, [], _, [], hW', trodAll_mk1 (shut_bool Tryd.underlying4 _), (trodAll_cons_mk (Below.trod laidOut (by kernel_rfl) (of_decide_eq_true (by kernel_rfl)) k0 bel lt0) (trodAll_cons_mk (shut_int Tryd.underlying3 w1) (trodAll_cons_mk (shut_int Tryd.underlying3 w2) trodAll_mk0))), rfl, bel.frame _, fun h => by cases h⟩

theorem blockCovers_over : Rows.blockCoversRow.holds Tryd.pinned (OpenSpec.ofChange Rows.blockCoversSpec) :=
  OpenClaim.holds_of_wide 5 Tryd.f5 rfl rfl rfl rfl rfl rfl rfl ⟨rfl, rfl, rfl, rfl, rfl⟩ rfl rfl rfl rfl rfl (by kernel_rfl) Tryd.func5 (by kernel_rfl)
    (of_decide_eq_true (by kernel_rfl)) (by unfold Func.isWrapper; first | (rw [if_pos (by decide +kernel)]; kernel_rfl) | (rw [if_neg (by decide +kernel)]; exact ⟨rfl, rfl⟩))
    (fun os started H enc _ => blockCovers_lifted os started H enc)

theorem blockCovers_row : Rows.BlockCoversSaid := blockCovers_over

theorem blockCovers_holds : Rows.BlockCoversCardSaid :=
  Claim7.holds_tied_plain_at .later [] [.data] true (true, "226d930e239870412cef5cbfd11501ef4a2598172ed79a96949de5c2add574a4") false
    blockCovers_row (fun _ h => by cases h) (by kernel_rfl) (fun _ h => by cases h) blockCovers_row_tie rfl ⟨rfl, rfl⟩ (by kernel_rfl) rfl
    (fun f fn hf hfn => by
      obtain rfl : f = 5 := Option.some.inj ((show Tryd.prog.funcNamed "phosphor/phosphorlaw09.BlockCovers" = some 5 by kernel_rfl).symm.trans hf) |>.symm
      obtain rfl : fn = Tryd.f5 := (Option.some.inj (Tryd.func5.symm.trans hfn)).symm
      exact ⟨by kernel_rfl, fun j t ht => by
        rw [Tryd.params5] at ht
        rcases j with _ | _ | _ | j
        · obtain rfl : t = 25 := by simpa using ht.symm
          exact (show Tryd.prog.wantsStandIn 25 = false by kernel_rfl)
        · obtain rfl : t = 3 := by simpa using ht.symm
          exact (show Tryd.prog.wantsStandIn 3 = false by kernel_rfl)
        · obtain rfl : t = 3 := by simpa using ht.symm
          exact (show Tryd.prog.wantsStandIn 3 = false by kernel_rfl)
        · simp at ht⟩)
    (by kernel_rfl)
#print axioms blockCovers_holds
end Go.Proofs.YtjmalnlfhmddjaaDoor
