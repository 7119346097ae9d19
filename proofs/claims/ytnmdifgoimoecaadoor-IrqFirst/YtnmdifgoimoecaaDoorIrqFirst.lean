/- For every state and every number the law IrqFirst of layer 11 returns true: the interrupt that is taken is raised and not masked, and none that is ahead of it is. No condition. -/
import Derived.Test.YtnmdifgoimoecaaDoorVecLaid
import Derived.Test.YtnmdifgoimoecaaDoorTie
import Derived.Test.YtnmdifgoimoecaaDoorCards
import Derived.Test.YtnmdifgoimoecaaDoorStructs
import Derived.SevenTiedAt
import Derived.OpenShut
import Derived.ShutString
import Derived.ChangeOld
namespace Go.Proofs.YtnmdifgoimoecaaDoor
open Go.ChangeShapes Go.WideShapes Go.ChangeAt Go.RowKit
open Go.ChangeMaps (open_string shut_string)
set_option linter.unusedVariables false
theorem own : ownKnob Tryd.prog.godebug = none := by kernel_rfl

theorem free_of (m l : Int) : bits .and .i64 (bits .andNot .i64 l m) 7 = bic3 l m := by rw [and_7, bic_mod8]
theorem only_1 (w : World) (hT : HasVec w) : Calls Tryd.prog 6 #[.agg #[.int .i64 0, .int .i64 1], .int .i64 0] w fun e w' => e = .returned (.tuple #[.int .i64 65526, .bool true]) ∧ Below w.heap.size w w' :=
  pick_free 0 1 0 (by decide) w hT

/-- None is taken. -/
theorem first_none (m l p q y : Int) (w : World) (hL : HasVec w) (eq : bits .and .i64 p 4 = q) (ey : bits .and .i64 (bits .andNot .i64 l m) 7 = y) (hq : q = 4 ∨ q = 0 ∧ y = 0)
    (C1 : Hid (∀ w, HasVec w → Calls Tryd.prog 6 #[.agg #[.int .i64 m, .int .i64 l], .int .i64 p] w fun e w' => e = .returned (.tuple #[.int .i64 0, .bool false]) ∧ Below w.heap.size w w')) : Calls Tryd.prog 5 #[.agg #[.int .i64 m, .int .i64 l], .int .i64 p] w fun e w' => e = .returned (.bool true) ∧ Below w.heap.size w w' := by
  rcases hq with rfl | ⟨rfl, rfl⟩
  ·
    have HA := hide (hL.next ((Below.refl _ w).alloc (Nat.le_refl _) (.cells #[.int .i64 m, .int .i64 l] 23)))
    clear hL
    go_enter Tryd.func5, Tryd.ntmps5
    go_wp2_with fail
    refine (C1.out _ HA.out).mono ?_
    rintro e w1 ⟨rfl, b1⟩
    have B1 := hide (bnext ((Below.refl _ w).alloc (Nat.le_refl _) _) b1)
    have HV := hide (HA.out.next b1)
    have k0 := (hasS_new w m l).next b1
    have c0 := k0.c0
    have c1 := k0.c1
    clear b1 k0 HA
    go_wp2_with fail
    refine (only_1 _ HV.out).mono ?_
    rintro e w2 ⟨rfl, b2⟩
    have B2 := hide (bnext B1.out b2)
    clear b2 c0 c1 B1 HV
    go_wp2
    go_ret
    exact ⟨rfl, B2.out⟩
  ·
    have HA := hide (hL.next ((Below.refl _ w).alloc (Nat.le_refl _) (.cells #[.int .i64 m, .int .i64 l] 23)))
    clear hL
    go_enter Tryd.func5, Tryd.ntmps5
    go_wp2_with fail
    refine (C1.out _ HA.out).mono ?_
    rintro e w1 ⟨rfl, b1⟩
    have B1 := hide (bnext ((Below.refl _ w).alloc (Nat.le_refl _) _) b1)
    have HV := hide (HA.out.next b1)
    have k0 := (hasS_new w m l).next b1
    have c0 := k0.c0
    have c1 := k0.c1
    clear b1 k0 HA
    go_wp2_with fail
    refine (only_1 _ HV.out).mono ?_
    rintro e w2 ⟨rfl, b2⟩
    have B2 := hide (bnext B1.out b2)
    clear b2 c0 c1 B1 HV
    go_wp2
    go_ret
    exact ⟨rfl, B2.out⟩
/-- One is taken. -/
theorem first_one (m l p y v : Int) (w : World) (hL : HasVec w) (eq : bits .and .i64 p 4 = 0) (ey : bits .and .i64 (bits .andNot .i64 l m) 7 = y) (hy : (y = 1 ∧ v = 65526) ∨ (y = 2 ∧ v = 65528) ∨ (y = 3 ∧ v = 65528) ∨ (y = 4 ∧ v = 65530) ∨ (y = 5 ∧ v = 65530) ∨ (y = 6 ∧ v = 65530) ∨ (y = 7 ∧ v = 65530))
    (C1 : Hid (∀ w, HasVec w → Calls Tryd.prog 6 #[.agg #[.int .i64 m, .int .i64 l], .int .i64 p] w fun e w' => e = .returned (.tuple #[.int .i64 v, .bool true]) ∧ Below w.heap.size w w')) : Calls Tryd.prog 5 #[.agg #[.int .i64 m, .int .i64 l], .int .i64 p] w fun e w' => e = .returned (.bool true) ∧ Below w.heap.size w w' := by
  rcases hy with ⟨rfl, rfl⟩ | ⟨rfl, rfl⟩ | ⟨rfl, rfl⟩ | ⟨rfl, rfl⟩ | ⟨rfl, rfl⟩ | ⟨rfl, rfl⟩ | ⟨rfl, rfl⟩
  all_goals
    have HA := hide (hL.next ((Below.refl _ w).alloc (Nat.le_refl _) (.cells #[.int .i64 m, .int .i64 l] 23)))
    clear hL
    go_enter Tryd.func5, Tryd.ntmps5
    go_wp2_with fail
    refine (C1.out _ HA.out).mono ?_
    rintro e w1 ⟨rfl, b1⟩
    have B1 := hide (bnext ((Below.refl _ w).alloc (Nat.le_refl _) _) b1)
    have HV := hide (HA.out.next b1)
    have k0 := (hasS_new w m l).next b1
    have c0 := k0.c0
    have c1 := k0.c1
    clear b1 k0 HA
    go_wp2_with fail
    go_ret
    exact ⟨rfl, B1.out⟩
theorem irqFirst_walk (m l p : Int) (w : World) (w0 : (Lit.int .i64 m).wf = true) (w1 : (Lit.int .i64 l).wf = true) (w2 : (Lit.int .i64 p).wf = true) (hL : HasVec w) : Calls Tryd.prog 5 #[.agg #[.int .i64 m, .int .i64 l], .int .i64 p] w fun e w' => e = .returned (.bool true) ∧ Below w.heap.size w w' := by
  clear w0 w1 w2
  have ey := free_of m l
  have eq := and_4 p
  have hy := bic3_in l m
  by_cases h : 4 ≤ p % 8
  · rw [if_pos h] at eq
    exact first_none m l p 4 _ w hL eq ey (.inl rfl) (hide fun w _ => pick_held m l p h w)
  · rw [if_neg h] at eq
    have C1 := hide (fun w (k : HasVec w) => pick_free m l p (by omega) w k)
    generalize bic3 l m = y at *
    obtain ⟨y0, y1⟩ := hy
    have hc : y = 0 ∨ y = 1 ∨ y = 2 ∨ y = 3 ∨ y = 4 ∨ y = 5 ∨ y = 6 ∨ y = 7 := by omega
    rcases hc with rfl | rfl | rfl | rfl | rfl | rfl | rfl | rfl
    · exact first_none m l p 0 0 w hL eq ey (.inr ⟨rfl, rfl⟩) C1
    · exact first_one m l p 1 65526 w hL eq ey (by decide) C1
    · exact first_one m l p 2 65528 w hL eq ey (by decide) C1
    · exact first_one m l p 3 65528 w hL eq ey (by decide) C1
    · exact first_one m l p 4 65530 w hL eq ey (by decide) C1
    · exact first_one m l p 5 65530 w hL eq ey (by decide) C1
    · exact first_one m l p 6 65530 w hL eq ey (by decide) C1
    · exact first_one m l p 7 65530 w hL eq ey (by decide) C1

set_option maxRecDepth 100000 in
theorem irqFirst_lifted (os : Os) (started : os.Started) (H : Type) (enc : TypeId × Value → H) :
    ReturnsInHanded {} Tryd.checked os 5 .any (fun w args => (Rows.irqFirstSpec.pre enc Tryd.prog Tryd.f5 [] false w args ∧ laidMetH Tryd.prog laidVec w) ∧ sizedMet enc Tryd.prog Tryd.f5 (OpenSpec.ofChange Rows.irqFirstSpec) false w args)
      (Rows.irqFirstSpec.post enc Tryd.prog Tryd.f5 false true false false) := by
  refine returnsInHanded_of_change_and (C := Tryd.checked) (X := fun w _ => laidMetH Tryd.prog laidVec w) (fun _ _ _ hh h => h.of_heap hh) own started (by kernel_rfl) Tryd.func5
    (ChangeSpec.witness_at (enc := enc) (C := Tryd.checked) (os := os) (X := fun w _ => laidMetH Tryd.prog laidVec w) false (laidWorld os) #[.agg #[.int .i64 0, .int .i64 0], .int .i64 0] 8 rfl (by kernel_rfl) (by kernel_rfl) (by kernel_rfl) (by kernel_rfl) (by kernel_rfl) (laidWorld_vec os _)) ?_
  intro W base args ds gs before hval0 hW _ _ hL _
  have hval : ∀ (j : Nat) t v, Tryd.f5.params[j]? = some t → args[j]? = some v → Value.okWide Tryd.prog W .any base t v := hval0
  have hW' := hW
  obtain ⟨p, q, hA0, hV, rfl, hfz, hnd⟩ := hW
  have hA : DataW.TrodAll enc Tryd.prog W 0 (fun _ => true) true Tryd.f5.params.toList args.toList ds p := hA0
  rw [Tryd.params5] at hA hval
  obtain ⟨v0, vs0, d0, ds0, p0, q0, hargs, rfl, rfl, h0, r0⟩ := trodAll_cons hA
  obtain ⟨v1, vs1, d1, ds1, p1, q1, rfl, rfl, rfl, h1, r1⟩ := trodAll_cons r0
  obtain ⟨rfl, rfl, rfl⟩ := trodAll_nil r1
  obtain rfl : args = #[v0, v1] := by cases args; simp_all
  obtain ⟨rfl, rfl⟩ := trodVars_none hV
  have k0 := h0
  have lt0 : ∀ x ∈ p0, x.block < W.heap.size := by obtain ⟨m, hm⟩ := k0; exact DataW.trod_lt m _ _ _ hm
  obtain ⟨cs0, fu0, rfl, sz0, hf0⟩ := open_struct_cells (n := 2) Tryd.underlying23 (by kernel_rfl) (hval 0 23 v0 rfl rfl) h0
  obtain ⟨y0f0, hy0f0⟩ := hf0 0 _ rfl
  obtain ⟨a0f0, g0f0, _, w0f0⟩ := DataW.trod_int Tryd.underlying3 hy0f0
  have e0f0 := cell_at (by kernel_rfl) g0f0
  obtain ⟨y0f1, hy0f1⟩ := hf0 1 _ rfl
  obtain ⟨a0f1, g0f1, _, w0f1⟩ := DataW.trod_int Tryd.underlying3 hy0f1
  have e0f1 := cell_at (by kernel_rfl) g0f1
  obtain rfl : cs0 = #[.int .i64 a0f0, .int .i64 a0f1] := cells_are [.int .i64 a0f0, .int .i64 a0f1] sz0 (fun j hj => by
    rcases j with _ | _ | j
    · exact e0f0
    · exact e0f1
    · exact absurd hj (by simp only [List.length_cons, List.length_nil]; omega))
  clear hy0f0 g0f0 e0f0 hy0f1 g0f1 e0f1 sz0 hf0
  obtain ⟨a1, rfl, rfl, rfl, w1⟩ := open_int Tryd.underlying3 (hval 1 3 v1 rfl rfl) h1
  clear hA0 hval0
  refine (irqFirst_walk a0f0 a0f1 a1 W w0f0 w0f1 w1 (laid_vec hL)).mono fun e W' ⟨he, bel⟩ => ?_
  subst he
  exact ⟨_, rfl, _, _, _, [], _, [], hW', trodAll_mk1 (shut_bool Tryd.underlying4 _), (trodAll_cons_mk (Below.trod laidOut (by kernel_rfl) (of_decide_eq_true (by kernel_rfl)) k0 bel lt0) (trodAll_cons_mk (shut_int Tryd.underlying3 w1) trodAll_mk0)), rfl, bel.frame _, fun h => by cases h⟩

theorem irqFirst_over : Rows.irqFirstRow.holds Tryd.pinned (OpenSpec.ofChange Rows.irqFirstSpec) :=
  OpenClaim.holds_of_wide 5 Tryd.f5 rfl rfl rfl rfl rfl rfl rfl ⟨rfl, rfl, rfl, rfl, rfl⟩ rfl rfl rfl rfl rfl (by kernel_rfl) Tryd.func5 (by kernel_rfl)
    (of_decide_eq_true (by kernel_rfl)) (by unfold Func.isWrapper; first | (rw [if_pos (by decide +kernel)]; kernel_rfl) | (rw [if_neg (by decide +kernel)]; exact ⟨rfl, rfl⟩))
    (fun os started H enc _ => irqFirst_lifted os started H enc)

theorem irqFirst_row : Rows.IrqFirstSaid := irqFirst_over

theorem irqFirst_holds : Rows.IrqFirstCardSaid :=
  Claim7.holds_tied_plain_at .later [] [.data] true (true, "78ad1e735248eb38a804c6456b8bde51014ba853f9410e9aca81f7525bcfab48") false
    irqFirst_row (fun _ h => by cases h) (by kernel_rfl) (fun _ h => by cases h) irqFirst_row_tie rfl ⟨rfl, rfl⟩ (by kernel_rfl) rfl
    (fun f fn hf hfn => by
      obtain rfl : f = 5 := Option.some.inj ((show Tryd.prog.funcNamed "phosphor/phosphorlaw11.IrqFirst" = some 5 by kernel_rfl).symm.trans hf) |>.symm
      obtain rfl : fn = Tryd.f5 := (Option.some.inj (Tryd.func5.symm.trans hfn)).symm
      exact ⟨by kernel_rfl, fun j t ht => by
        rw [Tryd.params5] at ht
        rcases j with _ | _ | j
        · obtain rfl : t = 23 := by simpa using ht.symm
          exact (show Tryd.prog.wantsStandIn 23 = false by kernel_rfl)
        · obtain rfl : t = 3 := by simpa using ht.symm
          exact (show Tryd.prog.wantsStandIn 3 = false by kernel_rfl)
        · simp at ht⟩)
    (by kernel_rfl)
#print axioms irqFirst_holds
end Go.Proofs.YtnmdifgoimoecaaDoor
