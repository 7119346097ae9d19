/- For every state and every number the law IrqMore of layer 11 returns true: with a line more raised the interrupt is that line's, or stays what it was; masked, it is not that line's; with the flag I there is none. No condition. -/
import Derived.Test.YtnmdifgoimoecaaDoorVecLaid
import Derived.Test.YtnmdifgoimoecaaDoorMore1
import Derived.Test.YtnmdifgoimoecaaDoorMore2
import Derived.Test.YtnmdifgoimoecaaDoorMore4
import Derived.Test.YtnmdifgoimoecaaDoorTie
import Derived.Test.YtnmdifgoimoecaaDoorCards
import Derived.Test.YtnmdifgoimoecaaDoorStructs
import Derived.SevenTiedAt
import Derived.OpenShut
import Derived.ShutString
import Derived.ChangeOld
namespace Go.Proofs.YtnmdifgoimoecaaDoor
open Go.ChangeShapes Go.WideShapes Go.ChangeAt Go.RowKit
open Go.ChangeMaps (open_string shut_string)
set_option linter.unusedVariables false
theorem own : ownKnob Tryd.prog.godebug = none := by kernel_rfl

/-- What the law asks, of all states of three bits. -/
def moreB (n own m l : Int) : Bool :=
  (!anyOf (bic3 l m) || anyOf (bic3 (or3 l n) m)) && (!anyOf (bic3 (or3 l n) m) || (vecOf (bic3 (or3 l n) m) == own || vecOf (bic3 (or3 l n) m) == vecOf (bic3 l m))) &&
  (!(and3 m n == 0) || anyOf (bic3 (or3 l n) m)) && (!anyOf (bic3 (or3 l n) (or3 m n)) || vecOf (bic3 (or3 l n) (or3 m n)) != own)
theorem more_all : ∀ m l : Fin 8, moreB 1 65526 (m.val : Int) (l.val : Int) = true ∧ moreB 2 65528 (m.val : Int) (l.val : Int) = true ∧ moreB 4 65530 (m.val : Int) (l.val : Int) = true := by decide +kernel
theorem moreB_spec {n own m l : Int} (h : moreB n own m l = true) :
    (anyOf (bic3 l m) = true → anyOf (bic3 (or3 l n) m) = true) ∧ (anyOf (bic3 (or3 l n) m) = true → vecOf (bic3 (or3 l n) m) = own ∨ vecOf (bic3 (or3 l n) m) = vecOf (bic3 l m)) ∧
    (and3 m n = 0 → anyOf (bic3 (or3 l n) m) = true) ∧ (anyOf (bic3 (or3 l n) (or3 m n)) = true → vecOf (bic3 (or3 l n) (or3 m n)) ≠ own) := by
  unfold moreB at h
  simp only [Bool.and_eq_true, Bool.or_eq_true, Bool.not_eq_true', beq_iff_eq, bne_iff_ne, ne_eq] at h
  obtain ⟨⟨⟨h1, h2⟩, h3⟩, h4⟩ := h
  refine ⟨fun e => ?_, fun e => ?_, fun e => ?_, fun e => ?_⟩
  · rcases h1 with k | k
    · rw [e] at k; cases k
    · exact k
  · rcases h2 with k | k
    · rw [e] at k; cases k
    · exact k
  · rcases h3 with k | k
    · rw [e] at k; cases k
    · exact k
  · rcases h4 with k | k
    · rw [e] at k; cases k
    · exact k
theorem low_p (p : Int) : bits .andNot .i64 p 4 % 8 < 4 := by
  rw [bic_mod8, bic3_mod]
  exact all_8 (p := fun x => bic3 x (4 % 8) < 4) (by decide +kernel) (mod8_in p).1 (mod8_in p).2
theorem high_p (p : Int) : 4 ≤ bits .or .i64 p 4 % 8 := by
  rw [or_mod8, or3_mod]
  exact all_8 (p := fun x => 4 ≤ or3 x (4 % 8)) (by decide +kernel) (mod8_in p).1 (mod8_in p).2
theorem irqMore_walk (a b k p0 : Int) (w : World) (w0 : (Lit.int .i64 a).wf = true) (w1 : (Lit.int .i64 b).wf = true) (w2 : (Lit.int .i64 k).wf = true) (w3 : (Lit.int .i64 p0).wf = true) (hL : HasVec w) : Calls Tryd.prog 4 #[.agg #[.int .i64 a, .int .i64 b], .int .i64 k, .int .i64 p0] w fun e w' => e = .returned (.bool true) ∧ Below w.heap.size w w' := by
  clear w0 w1 w2 w3
  obtain ⟨y, j, ey, ej, y0, y1, hj⟩ := line_of k
  rcases hj with rfl | rfl | rfl
  ·
    have hm := mod8_in a
    have hl := mod8_in b
    have hb := all_88 (p := fun m l => moreB 1 65526 m l = true ∧ moreB 2 65528 m l = true ∧ moreB 4 65530 m l = true) more_all hm.1 hm.2 hl.1 hl.2
    obtain ⟨h1, h2, h3, h4⟩ := moreB_spec hb.1
    have s1 := or3_in (b % 8) 1
    have s2 := or3_in (a % 8) 1
    have e1 : a % 8 % 8 = a % 8 := mod_mod8 a
    have e2 : or3 (a % 8) 1 % 8 = or3 (a % 8) 1 := Int.emod_eq_of_lt s2.1 s2.2
    have em' := or_low3 (a % 8) 1 hm.1 hm.2 (by decide) (by decide)
    have ez := and_low3 (a % 8) 1 (by decide) (by decide)
    have CR := hide (raise_any (a % 8) (b % 8) 1 true)
    have CS := hide (raise_any (or3 (a % 8) 1) (b % 8) 1 true)
    rw [e1] at CR
    rw [e2] at CS
    exact more_1 _ _ a b k p0 (a % 8) (b % 8) (or3 (a % 8) 1) (or3 (b % 8) 1) _ _ y _ _ _ _ _ w hL (and_7 a) (and_7 b) ey y0 y1 rfl rfl ej em' ez
      (hide fun w h => pick_free (a % 8) (b % 8) _ (low_p p0) w h) CR (hide fun w h => pick_free (a % 8) (or3 (b % 8) 1) _ (low_p p0) w h) CS
      (hide fun w h => pick_free (or3 (a % 8) 1) (or3 (b % 8) 1) _ (low_p p0) w h) (hide fun w => pick_held (or3 (a % 8) 1) (b % 8) _ (high_p _) w) (hide h4) h1 h2 h3
  ·
    have hm := mod8_in a
    have hl := mod8_in b
    have hb := all_88 (p := fun m l => moreB 1 65526 m l = true ∧ moreB 2 65528 m l = true ∧ moreB 4 65530 m l = true) more_all hm.1 hm.2 hl.1 hl.2
    obtain ⟨h1, h2, h3, h4⟩ := moreB_spec hb.2.1
    have s1 := or3_in (b % 8) 2
    have s2 := or3_in (a % 8) 2
    have e1 : a % 8 % 8 = a % 8 := mod_mod8 a
    have e2 : or3 (a % 8) 2 % 8 = or3 (a % 8) 2 := Int.emod_eq_of_lt s2.1 s2.2
    have em' := or_low3 (a % 8) 2 hm.1 hm.2 (by decide) (by decide)
    have ez := and_low3 (a % 8) 2 (by decide) (by decide)
    have CR := hide (raise_any (a % 8) (b % 8) 2 true)
    have CS := hide (raise_any (or3 (a % 8) 2) (b % 8) 2 true)
    rw [e1] at CR
    rw [e2] at CS
    exact more_2 _ _ a b k p0 (a % 8) (b % 8) (or3 (a % 8) 2) (or3 (b % 8) 2) _ _ y _ _ _ _ _ w hL (and_7 a) (and_7 b) ey y0 y1 rfl rfl ej em' ez
      (hide fun w h => pick_free (a % 8) (b % 8) _ (low_p p0) w h) CR (hide fun w h => pick_free (a % 8) (or3 (b % 8) 2) _ (low_p p0) w h) CS
      (hide fun w h => pick_free (or3 (a % 8) 2) (or3 (b % 8) 2) _ (low_p p0) w h) (hide fun w => pick_held (or3 (a % 8) 2) (b % 8) _ (high_p _) w) (hide h4) h1 h2 h3
  ·
    have hm := mod8_in a
    have hl := mod8_in b
    have hb := all_88 (p := fun m l => moreB 1 65526 m l = true ∧ moreB 2 65528 m l = true ∧ moreB 4 65530 m l = true) more_all hm.1 hm.2 hl.1 hl.2
    obtain ⟨h1, h2, h3, h4⟩ := moreB_spec hb.2.2
    have s1 := or3_in (b % 8) 4
    have s2 := or3_in (a % 8) 4
    have e1 : a % 8 % 8 = a % 8 := mod_mod8 a
    have e2 : or3 (a % 8) 4 % 8 = or3 (a % 8) 4 := Int.emod_eq_of_lt s2.1 s2.2
    have em' := or_low3 (a % 8) 4 hm.1 hm.2 (by decide) (by decide)
    have ez := and_low3 (a % 8) 4 (by decide) (by decide)
    have CR := hide (raise_any (a % 8) (b % 8) 4 true)
    have CS := hide (raise_any (or3 (a % 8) 4) (b % 8) 4 true)
    rw [e1] at CR
    rw [e2] at CS
    exact more_4 _ _ a b k p0 (a % 8) (b % 8) (or3 (a % 8) 4) (or3 (b % 8) 4) _ _ y _ _ _ _ _ w hL (and_7 a) (and_7 b) ey y0 y1 rfl rfl ej em' ez
      (hide fun w h => pick_free (a % 8) (b % 8) _ (low_p p0) w h) CR (hide fun w h => pick_free (a % 8) (or3 (b % 8) 4) _ (low_p p0) w h) CS
      (hide fun w h => pick_free (or3 (a % 8) 4) (or3 (b % 8) 4) _ (low_p p0) w h) (hide fun w => pick_held (or3 (a % 8) 4) (b % 8) _ (high_p _) w) (hide h4) h1 h2 h3

set_option maxRecDepth 100000 in
theorem irqMore_lifted (os : Os) (started : os.Started) (H : Type) (enc : TypeId × Value → H) :
    ReturnsInHanded {} Tryd.checked os 4 .any (fun w args => (Rows.irqMoreSpec.pre enc Tryd.prog Tryd.f4 [] false w args ∧ laidMetH Tryd.prog laidVec w) ∧ sizedMet enc Tryd.prog Tryd.f4 (OpenSpec.ofChange Rows.irqMoreSpec) false w args)
      (Rows.irqMoreSpec.post enc Tryd.prog Tryd.f4 false true false false) := by
  refine returnsInHanded_of_change_and (C := Tryd.checked) (X := fun w _ => laidMetH Tryd.prog laidVec w) (fun _ _ _ hh h => h.of_heap hh) own started (by kernel_rfl) Tryd.func4
    (ChangeSpec.witness_at (enc := enc) (C := Tryd.checked) (os := os) (X := fun w _ => laidMetH Tryd.prog laidVec w) false (laidWorld os) #[.agg #[.int .i64 0, .int .i64 0], .int .i64 0, .int .i64 0] 8 rfl (by kernel_rfl) (by kernel_rfl) (by kernel_rfl) (by kernel_rfl) (by kernel_rfl) (laidWorld_vec os _)) ?_
  intro W base args ds gs before hval0 hW _ _ hL _
  have hval : ∀ (j : Nat) t v, Tryd.f4.params[j]? = some t → args[j]? = some v → Value.okWide Tryd.prog W .any base t v := hval0
  have hW' := hW
  obtain ⟨p, q, hA0, hV, rfl, hfz, hnd⟩ := hW
  have hA : DataW.TrodAll enc Tryd.prog W 0 (fun _ => true) true Tryd.f4.params.toList args.toList ds p := hA0
  rw [Tryd.params4] at hA hval
  obtain ⟨v0, vs0, d0, ds0, p0, q0, hargs, rfl, rfl, h0, r0⟩ := trodAll_cons hA
  obtain ⟨v1, vs1, d1, ds1, p1, q1, rfl, rfl, rfl, h1, r1⟩ := trodAll_cons r0
  obtain ⟨v2, vs2, d2, ds2, p2, q2, rfl, rfl, rfl, h2, r2⟩ := trodAll_cons r1
  obtain ⟨rfl, rfl, rfl⟩ := trodAll_nil r2
  obtain rfl : args = #[v0, v1, v2] := by cases args; simp_all
  obtain ⟨rfl, rfl⟩ := trodVars_none hV
  have k0 := h0
  have lt0 : ∀ x ∈ p0, x.block < W.heap.size := by obtain ⟨m, hm⟩ := k0; exact DataW.trod_lt m _ _ _ hm
  obtain ⟨cs0, fu0, rfl, sz0, hf0⟩ := open_struct_cells (n := 2) Tryd.underlying23 (by kernel_rfl) (hval 0 23 v0 rfl rfl) h0
  obtain ⟨y0f0, hy0f0⟩ := hf0 0 _ rfl
  obtain ⟨a0f0, g0f0, _, w0f0⟩ := DataW.trod_int Tryd.underlying3 hy0f0
  have e0f0 := cell_at (by kernel_rfl) g0f0
  obtain ⟨y0f1, hy0f1⟩ := hf0 1 _ rfl
  obtain ⟨a0f1, g0f1, _, w0f1⟩ := DataW.trod_int Tryd.underlying3 hy0f1
  have e0f1 := cell_at (by kernel_rfl) g0f1
  obtain rfl : cs0 = #[.int .i64 a0f0, .int .i64 a0f1] := cells_are [.int .i64 a0f0, .int .i64 a0f1] sz0 (fun j hj => by
    rcases j with _ | _ | j
    · exact e0f0
    · exact e0f1
    · exact absurd hj (by simp only [List.length_cons, List.length_nil]; omega))
  clear hy0f0 g0f0 e0f0 hy0f1 g0f1 e0f1 sz0 hf0
  obtain ⟨a1, rfl, rfl, rfl, w1⟩ := open_int Tryd.underlying3 (hval 1 3 v1 rfl rfl) h1
  obtain ⟨a2, rfl, rfl, rfl, w2⟩ := open_int Tryd.underlying3 (hval 2 3 v2 rfl rfl) h2
  clear hA0 hval0
  refine (irqMore_walk a0f0 a0f1 a1 a2 W w0f0 w0f1 w1 w2 (laid_vec hL)).mono fun e W' ⟨he, bel⟩ => ?_
  subst he
  exact ⟨_, rfl, _, _, _, [], _, [], hW', trodAll_mk1 (shut_bool Tryd.underlying4 _), (trodAll_cons_mk (Below.trod laidOut (by kernel_rfl) (of_decide_eq_true (by kernel_rfl)) k0 bel lt0) (trodAll_cons_mk (shut_int Tryd.underlying3 w1) (trodAll_cons_mk (shut_int Tryd.underlying3 w2) trodAll_mk0))), rfl, bel.frame _, fun h => by cases h⟩

theorem irqMore_over : Rows.irqMoreRow.holds Tryd.pinned (OpenSpec.ofChange Rows.irqMoreSpec) :=
  OpenClaim.holds_of_wide 4 Tryd.f4 rfl rfl rfl rfl rfl rfl rfl ⟨rfl, rfl, rfl, rfl, rfl⟩ rfl rfl rfl rfl rfl (by kernel_rfl) Tryd.func4 (by kernel_rfl)
    (of_decide_eq_true (by kernel_rfl)) (by unfold Func.isWrapper; first | (rw [if_pos (by decide +kernel)]; kernel_rfl) | (rw [if_neg (by decide +kernel)]; exact ⟨rfl, rfl⟩))
    (fun os started H enc _ => irqMore_lifted os started H enc)

theorem irqMore_row : Rows.IrqMoreSaid := irqMore_over

theorem irqMore_holds : Rows.IrqMoreCardSaid :=
  Claim7.holds_tied_plain_at .later [] [.data] true (true, "78ad1e735248eb38a804c6456b8bde51014ba853f9410e9aca81f7525bcfab48") false
    irqMore_row (fun _ h => by cases h) (by kernel_rfl) (fun _ h => by cases h) irqMore_row_tie rfl ⟨rfl, rfl⟩ (by kernel_rfl) rfl
    (fun f fn hf hfn => by
      obtain rfl : f = 4 := Option.some.inj ((show Tryd.prog.funcNamed "phosphor/phosphorlaw11.IrqMore" = some 4 by kernel_rfl).symm.trans hf) |>.symm
      obtain rfl : fn = Tryd.f4 := (Option.some.inj (Tryd.func4.symm.trans hfn)).symm
      exact ⟨by kernel_rfl, fun j t ht => by
        rw [Tryd.params4] at ht
        rcases j with _ | _ | _ | j
        · obtain rfl : t = 23 := by simpa using ht.symm
          exact (show Tryd.prog.wantsStandIn 23 = false by kernel_rfl)
        · obtain rfl : t = 3 := by simpa using ht.symm
          exact (show Tryd.prog.wantsStandIn 3 = false by kernel_rfl)
        · obtain rfl : t = 3 := by simpa using ht.symm
          exact (show Tryd.prog.wantsStandIn 3 = false by kernel_rfl)
        · simp at ht⟩)
    (by kernel_rfl)
#print axioms irqMore_holds
end Go.Proofs.YtnmdifgoimoecaaDoor
