/- For every kind, numbers and name the law BlockTells of layer 9 returns true: any byte of any transfer goes from and to the document's places; any length means its count and cycles; any name is its kind, or none. The condition: the two tables hold what the program's text lays into them (the card ties it). -/
import Derived.Test.YtjmalnlfhmddjaaDoorRef9
import Derived.Test.YtjmalnlfhmddjaaDoorTwo
import Derived.Test.YtjmalnlfhmddjaaDoorArrays
import Derived.Test.YtjmalnlfhmddjaaDoorBlkLaid
import Derived.Test.YtjmalnlfhmddjaaDoorTie
import Derived.Test.YtjmalnlfhmddjaaDoorCards
import Derived.Deep.RegionWith
import Derived.SevenTiedAt
import Derived.OpenShut
import Derived.ShutString
import Derived.ChangeOld
import Derived.Below
namespace Go.Proofs.YtjmalnlfhmddjaaDoor
open Go.ChangeShapes Go.WideShapes Go.ChangeAt Go.RowKit
open Go.ChangeMaps (open_string shut_string)
set_option linter.unusedVariables false
theorem own : ownKnob Tryd.prog.godebug = none := by kernel_rfl

/-- Block b holds three numbers. -/
def Has3 (w : World) (b : Nat) (x y z : Int) : Prop :=
  b < w.heap.size ∧ w.cell? ⟨b, 0, none⟩ = some (.int .i64 x) ∧ w.cell? ⟨b, 1, none⟩ = some (.int .i64 y) ∧ w.cell? ⟨b, 2, none⟩ = some (.int .i64 z)
theorem Has3.next {w w' : World} {b : Nat} {x y z : Int} (h : Has3 w b x y z) (k : Below w.heap.size w w') : Has3 w' b x y z := by
  obtain ⟨h0, h1, h2, h3⟩ := h
  exact ⟨Nat.lt_of_lt_of_le h0 k.size, (k.cell (p := ⟨b, 0, none⟩) h0).trans h1, (k.cell (p := ⟨b, 1, none⟩) h0).trans h2, (k.cell (p := ⟨b, 2, none⟩) h0).trans h3⟩

set_option maxRecDepth 20000 in
set_option maxHeartbeats 2000000 in
theorem tells_short (k p q r : Int) (s : ByteArray) (w : World) (hP : HasPaths w) (hN : HasNames w) (hs : (s.size : Int) ≤ 100) :
    Calls Tryd.prog 3 #[.int .i64 k, .agg #[.int .i64 p, .int .i64 q, .int .i64 r], .string s] w fun e w' => e = .returned (.bool true) ∧ Below w.heap.size w w' := by
  obtain ⟨x, y, s1, s2⟩ := step_both k p q r
  obtain ⟨m, ok, d1, d2⟩ := kind_both s
  have c1 := hide s1
  have c2 := hide s2
  have c3 := hide d1
  have c4 := hide d2
  have c5 := hide (fun w => count_any p w)
  have c6 := hide (fun w => rcount_any p w)
  have c7 := hide (fun w => cycles_any p w)
  have hc := countOf_le p
  clear s1 s2 d1 d2
  have d8 : ∀ w, Calls Tryd.prog 10 #[.int .i64 0] w fun e w' => e = .returned (.int .i64 65536) ∧ w' = w := fun w => count_any 0 w
  have c8 := hide d8
  clear d8
  generalize countOf p = n at *
  go_enter Tryd.func3, Tryd.ntmps3
  go_wp2_with fail
  obtain ⟨wa, hwa⟩ : ∃ wa, wa = w.alloc (.cells #[.int .i64 p, .int .i64 q, .int .i64 r] 22) := ⟨_, rfl⟩
  rw [← hwa]
  have H0 := hide (by rw [hwa]; exact And.intro (by simp) ⟨by simp, by simp, by simp⟩ : Has3 wa w.heap.size p q r)
  have B0 := hide (by rw [hwa]; exact (Below.refl _ w).alloc (Nat.le_refl _) _ : Below w.heap.size w wa)
  have P0 := hide (hP.next B0.out)
  have N0 := hide (hN.next B0.out)
  clear hwa hP hN
  refine (c1.out _ P0.out).mono ?_
  rintro _ w1 ⟨rfl, b1⟩
  have H1 := hide (H0.out.next b1)
  have N1 := hide (N0.out.next b1)
  have B1 := hide (bnext B0.out b1)
  clear b1 H0 P0 N0 B0
  obtain ⟨hd, h0, h1, h2⟩ := H1.out
  go_wp2_with fail
  refine (c2.out _).mono ?_
  rintro _ w2 ⟨rfl, hw⟩
  subst w2
  go_wp2_with fail
  refine (c3.out _ N1.out).mono ?_
  rintro _ w2 ⟨rfl, hw⟩
  subst w2
  go_wp2_with fail
  refine (c4.out _).mono ?_
  rintro _ w2 ⟨rfl, b2⟩
  have H2 := hide (H1.out.next b2)
  have B2 := hide (bnext B1.out b2)
  clear b2 H1 N1 B1 hd h0 h1 h2
  obtain ⟨hd, h0, h1, h2⟩ := H2.out
  have m0 := kept_cell h0 hd
  clear h0 h1 h2
  go_wp2_with fail
  haveI := kept_some w2
  refine wp_region_kept (by kernel_rfl) (by kernel_rfl) ?_
  repeat (go_big_quiet_step ((first
    | (go_at_call_of 10 (Value.int .i64 p); exact kept_same (c5.out _))
    | (go_at_call_of 10 (Value.int .i64 0); exact kept_same (c8.out _))
    | (go_at_call 11; exact kept_same (c6.out _))
    | (go_at_call 12; exact kept_same (c7.out _)))))
  refine wpQuiet_nil ?_
  rintro _ ⟨wk, rfl⟩
  go_wp2
  go_ret
  exact ⟨rfl, bnext B2.out wk.below⟩
set_option maxRecDepth 20000 in
set_option maxHeartbeats 2000000 in
theorem tells_long (k p q r : Int) (s : ByteArray) (w : World) (hP : HasPaths w) (hN : HasNames w) (hs : 100 < (s.size : Int)) (hm : s.size ≤ maxLen) :
    Calls Tryd.prog 3 #[.int .i64 k, .agg #[.int .i64 p, .int .i64 q, .int .i64 r], .string s] w fun e w' => e = .returned (.bool true) ∧ Below w.heap.size w w' := by
  obtain ⟨x, y, s1, s2⟩ := step_both k p q r
  obtain ⟨m, ok, d1, d2⟩ := kind_both (s.extract 0 100)
  have c1 := hide s1
  have c2 := hide s2
  have c3 := hide d1
  have c4 := hide d2
  have c5 := hide (fun w => count_any p w)
  have c6 := hide (fun w => rcount_any p w)
  have c7 := hide (fun w => cycles_any p w)
  have hc := countOf_le p
  clear s1 s2 d1 d2
  have d8 : ∀ w, Calls Tryd.prog 10 #[.int .i64 0] w fun e w' => e = .returned (.int .i64 65536) ∧ w' = w := fun w => count_any 0 w
  have c8 := hide d8
  clear d8
  generalize countOf p = n at *
  go_enter Tryd.func3, Tryd.ntmps3
  go_wp2_with fail
  obtain ⟨wa, hwa⟩ : ∃ wa, wa = w.alloc (.cells #[.int .i64 p, .int .i64 q, .int .i64 r] 22) := ⟨_, rfl⟩
  rw [← hwa]
  have H0 := hide (by rw [hwa]; exact And.intro (by simp) ⟨by simp, by simp, by simp⟩ : Has3 wa w.heap.size p q r)
  have B0 := hide (by rw [hwa]; exact (Below.refl _ w).alloc (Nat.le_refl _) _ : Below w.heap.size w wa)
  have P0 := hide (hP.next B0.out)
  have N0 := hide (hN.next B0.out)
  clear hwa hP hN
  refine (c1.out _ P0.out).mono ?_
  rintro _ w1 ⟨rfl, b1⟩
  have H1 := hide (H0.out.next b1)
  have N1 := hide (N0.out.next b1)
  have B1 := hide (bnext B0.out b1)
  clear b1 H0 P0 N0 B0
  obtain ⟨hd, h0, h1, h2⟩ := H1.out
  go_wp2_with fail
  refine (c2.out _).mono ?_
  rintro _ w2 ⟨rfl, hw⟩
  subst w2
  go_wp2_with fail
  refine (c3.out _ N1.out).mono ?_
  rintro _ w2 ⟨rfl, hw⟩
  subst w2
  go_wp2_with fail
  refine (c4.out _).mono ?_
  rintro _ w2 ⟨rfl, b2⟩
  have H2 := hide (H1.out.next b2)
  have B2 := hide (bnext B1.out b2)
  clear b2 H1 N1 B1 hd h0 h1 h2
  obtain ⟨hd, h0, h1, h2⟩ := H2.out
  have m0 := kept_cell h0 hd
  clear h0 h1 h2
  go_wp2_with fail
  haveI := kept_some w2
  refine wp_region_kept (by kernel_rfl) (by kernel_rfl) ?_
  repeat (go_big_quiet_step ((first
    | (go_at_call_of 10 (Value.int .i64 p); exact kept_same (c5.out _))
    | (go_at_call_of 10 (Value.int .i64 0); exact kept_same (c8.out _))
    | (go_at_call 11; exact kept_same (c6.out _))
    | (go_at_call 12; exact kept_same (c7.out _)))))
  refine wpQuiet_nil ?_
  rintro _ ⟨wk, rfl⟩
  go_wp2
  go_ret
  exact ⟨rfl, bnext B2.out wk.below⟩

theorem blockTells_walk (a0 : Int) (z1 : List Int) (a2 : ByteArray) (w : World) (w0 : (Lit.int .i64 a0).wf = true) (l1 : z1.length = 3) (w1 : ∀ z ∈ z1, (Lit.int .i64 z).wf = true) (w2 : a2.size ≤ maxLen) (hL : HasPaths w ∧ HasNames w) :
    Calls Tryd.prog 3 #[.int .i64 a0, .agg (z1.map (Value.int .i64)).toArray, .string a2] w fun e w' => e = .returned (.bool true) ∧ Below w.heap.size w w' := by
  obtain ⟨p, q, r, rfl⟩ := three_of z1 l1
  simp only [List.map]
  by_cases h : (a2.size : Int) ≤ 100
  · exact tells_short a0 p q r a2 w hL.1 hL.2 h
  · exact tells_long a0 p q r a2 w hL.1 hL.2 (by omega) w2

set_option maxRecDepth 100000 in
theorem blockTells_lifted (os : Os) (started : os.Started) (H : Type) (enc : TypeId × Value → H) :
    ReturnsInHanded {} Tryd.checked os 3 .any (fun w args => (Rows.blockTellsSpec.pre enc Tryd.prog Tryd.f3 [] false w args ∧ laidMetH Tryd.prog laidTwo w) ∧ sizedMet enc Tryd.prog Tryd.f3 (OpenSpec.ofChange Rows.blockTellsSpec) false w args)
      (Rows.blockTellsSpec.post enc Tryd.prog Tryd.f3 false true false false) := by
  refine returnsInHanded_of_change_and (C := Tryd.checked) (X := fun w _ => laidMetH Tryd.prog laidTwo w) (fun _ _ _ hh h => h.of_heap hh) own started (by kernel_rfl) Tryd.func3
    (ChangeSpec.witness_at (enc := enc) (C := Tryd.checked) (os := os) (X := fun w _ => laidMetH Tryd.prog laidTwo w) false (laidWorld os) #[.int .i64 0, .agg #[.int .i64 0, .int .i64 0, .int .i64 0], .string ByteArray.empty] 8 rfl (by kernel_rfl) (by kernel_rfl) (by kernel_rfl) (by kernel_rfl) (by kernel_rfl) (laidWorld_two os _)) ?_
  intro W base args ds gs before hval0 hW _ _ hL _
  have hval : ∀ (j : Nat) t v, Tryd.f3.params[j]? = some t → args[j]? = some v → Value.okWide Tryd.prog W .any base t v := hval0
  have hW' := hW
  obtain ⟨p, q, hA0, hV, rfl, hfz, hnd⟩ := hW
  have hA : DataW.TrodAll enc Tryd.prog W 0 (fun _ => true) true Tryd.f3.params.toList args.toList ds p := hA0
  rw [Tryd.params3] at hA hval
  obtain ⟨v0, vs0, d0, ds0, p0, q0, hargs, rfl, rfl, h0, r0⟩ := trodAll_cons hA
  obtain ⟨v1, vs1, d1, ds1, p1, q1, rfl, rfl, rfl, h1, r1⟩ := trodAll_cons r0
  obtain ⟨v2, vs2, d2, ds2, p2, q2, rfl, rfl, rfl, h2, r2⟩ := trodAll_cons r1
  obtain ⟨rfl, rfl, rfl⟩ := trodAll_nil r2
  obtain rfl : args = #[v0, v1, v2] := by cases args; simp_all
  obtain ⟨rfl, rfl⟩ := trodVars_none hV
  obtain ⟨a0, rfl, rfl, rfl, w0⟩ := open_int Tryd.underlying3 (hval 0 3 v0 rfl rfl) h0
  have k1 := h1
  have lt1 : ∀ x ∈ p1, x.block < W.heap.size := by obtain ⟨m, hm⟩ := k1; exact DataW.trod_lt m _ _ _ hm
  obtain ⟨z1, l1, rfl, w1⟩ := open_array_ints Tryd.underlying22 Tryd.underlying3 (by kernel_rfl) (by kernel_rfl) (hval 1 22 v1 rfl rfl) h1
  obtain ⟨a2, rfl, rfl, rfl, w2⟩ := open_string Tryd.underlying9 (hval 2 9 v2 rfl rfl) h2
  clear hA0 hval0
  refine (blockTells_walk a0 z1 a2 W w0 l1 w1 w2 (laid_two hL)).mono fun e W' ⟨he, bel⟩ => ?_
  subst he
  exact ⟨_, rfl, _, _, _, [], _, [], hW', trodAll_mk1 (shut_bool Tryd.underlying4 _), (trodAll_cons_mk (shut_int Tryd.underlying3 w0) (trodAll_cons_mk (Below.trod laidOut (by kernel_rfl) (of_decide_eq_true (by kernel_rfl)) k1 bel lt1) (trodAll_cons_mk (shut_string Tryd.underlying9 w2) trodAll_mk0))), rfl, bel.frame _, fun h => by cases h⟩

theorem blockTells_over : Rows.blockTellsRow.holds Tryd.pinned (OpenSpec.ofChange Rows.blockTellsSpec) :=
  OpenClaim.holds_of_wide 3 Tryd.f3 rfl rfl rfl rfl rfl rfl rfl ⟨rfl, rfl, rfl, rfl, rfl⟩ rfl rfl rfl rfl rfl (by kernel_rfl) Tryd.func3 (by kernel_rfl)
    (of_decide_eq_true (by kernel_rfl)) (by unfold Func.isWrapper; first | (rw [if_pos (by decide +kernel)]; kernel_rfl) | (rw [if_neg (by decide +kernel)]; exact ⟨rfl, rfl⟩))
    (fun os started H enc _ => blockTells_lifted os started H enc)

theorem blockTells_row : Rows.BlockTellsSaid := blockTells_over

theorem blockTells_holds : Rows.BlockTellsCardSaid :=
  Claim7.holds_tied_plain_at .later [] [.data, .data] true (true, "226d930e239870412cef5cbfd11501ef4a2598172ed79a96949de5c2add574a4") false
    blockTells_row (fun _ h => by cases h) (by kernel_rfl) (fun _ h => by cases h) blockTells_row_tie rfl ⟨rfl, rfl⟩ (by kernel_rfl) rfl
    (fun f fn hf hfn => by
      obtain rfl : f = 3 := Option.some.inj ((show Tryd.prog.funcNamed "phosphor/phosphorlaw09.BlockTells" = some 3 by kernel_rfl).symm.trans hf) |>.symm
      obtain rfl : fn = Tryd.f3 := (Option.some.inj (Tryd.func3.symm.trans hfn)).symm
      exact ⟨by kernel_rfl, fun j t ht => by
        rw [Tryd.params3] at ht
        rcases j with _ | _ | _ | j
        · obtain rfl : t = 3 := by simpa using ht.symm
          exact (show Tryd.prog.wantsStandIn 3 = false by kernel_rfl)
        · obtain rfl : t = 22 := by simpa using ht.symm
          exact (show Tryd.prog.wantsStandIn 22 = false by kernel_rfl)
        · obtain rfl : t = 9 := by simpa using ht.symm
          exact (show Tryd.prog.wantsStandIn 9 = false by kernel_rfl)
        · simp at ht⟩)
    (by kernel_rfl)
#print axioms blockTells_holds
end Go.Proofs.YtjmalnlfhmddjaaDoor
