/- For every state, all numbers and either bool the law IrqTells of layer 11 returns true: any state has the document's interrupt, with any flags, and its state behind any raising and write, and its byte. No condition. -/
import Derived.Test.YtnmdifgoimoecaaDoorVecLaid
import Derived.Test.YtnmdifgoimoecaaDoorRef11
import Derived.Test.YtnmdifgoimoecaaDoorTie
import Derived.Test.YtnmdifgoimoecaaDoorCards
import Derived.Test.YtnmdifgoimoecaaDoorStructs
import Derived.SevenTiedAt
import Derived.OpenShut
import Derived.ShutString
import Derived.ChangeOld
namespace Go.Proofs.YtnmdifgoimoecaaDoor
open Go.ChangeShapes Go.WideShapes Go.ChangeAt Go.RowKit
open Go.ChangeMaps (open_string shut_string)
set_option linter.unusedVariables false
theorem own : ownKnob Tryd.prog.godebug = none := by kernel_rfl

/-- Block b holds three numbers. -/
def HasN (w : World) (b : Nat) (n0 n1 n2 : Int) : Prop := w.heap[b]? = some (.cells #[.int .i64 n0, .int .i64 n1, .int .i64 n2] 24 (0, 0))
theorem HasN.next {w w' : World} {b : Nat} {n0 n1 n2 : Int} (h : HasN w b n0 n1 n2) (k : Below w.heap.size w w') : HasN w' b n0 n1 n2 := (k.block b (lt_of_block h)).trans h
theorem HasN.alloc {w : World} {b : Nat} {n0 n1 n2 : Int} (h : HasN w b n0 n1 n2) (x : Obj) : HasN (w.alloc x) b n0 n1 n2 := h.next ((Below.refl _ w).alloc (Nat.le_refl _) _)
theorem HasN.c0 {w : World} {b : Nat} {n0 n1 n2 : Int} (h : HasN w b n0 n1 n2) : w.cell? ⟨b, 0, none⟩ = some (.int .i64 n0) := (cell_of_row w b 0 _ _ _ h).trans rfl
theorem HasN.c1 {w : World} {b : Nat} {n0 n1 n2 : Int} (h : HasN w b n0 n1 n2) : w.cell? ⟨b, 1, none⟩ = some (.int .i64 n1) := (cell_of_row w b 1 _ _ _ h).trans rfl
theorem HasN.c2 {w : World} {b : Nat} {n0 n1 n2 : Int} (h : HasN w b n0 n1 n2) : w.cell? ⟨b, 2, none⟩ = some (.int .i64 n2) := (cell_of_row w b 2 _ _ _ h).trans rfl
theorem three_of (z : List Int) (h : z.length = 3) : ∃ x y t, z = [x, y, t] := by
  match z, h with
  | [x, y, t], _ => exact ⟨x, y, t, rfl⟩
theorem only_13 (w : World) (hT : HasVec w) : Calls Tryd.prog 6 #[.agg #[.int .i64 1, .int .i64 3], .int .i64 0] w fun e w' => e = .returned (.tuple #[.int .i64 65528, .bool true]) ∧ Below w.heap.size w w' :=
  pick_free 1 3 0 (by decide) w hT
theorem sameS_self (m l : Int) : sameS m l m l = true := by simp [sameS]

theorem irqTells_walk (m l : Int) (z : List Int) (on : Bool) (w : World) (w0 : (Lit.int .i64 m).wf = true) (w1 : (Lit.int .i64 l).wf = true) (l3 : z.length = 3) (w2 : ∀ x ∈ z, (Lit.int .i64 x).wf = true) (hL : HasVec w) :
    Calls Tryd.prog 3 #[.agg #[.int .i64 m, .int .i64 l], .agg (z.map (Value.int .i64)).toArray, .bool on] w fun e w' => e = .returned (.bool true) ∧ Below w.heap.size w w' := by
  clear w0 w1 w2
  obtain ⟨n0, n1, n2, rfl⟩ := three_of z l3
  clear l3
  simp only [List.map_cons, List.map_nil]
  obtain ⟨v, o, k1, k2⟩ := pick_both m l n0
  obtain ⟨y, t, k3, k4⟩ := write_both m l n2 n1
  have C1 := hide k1
  have C2 := hide k2
  have C3 := hide (raise_any m l n1 on)
  have C4 := hide (rraise_any m l n1 on)
  have C5 := hide k3
  have C6 := hide k4
  have C8 := hide (fun w => read_any m l n2 w)
  have C9 := hide (fun w => rread_any m l n2 w)
  clear k1 k2 k3 k4
  generalize m % 8 = b at *
  generalize liftOf l n1 on = c at *
  generalize readOf m l n2 = q at *
  have q1 : ∀ w, (binOp .eql 23 (.agg #[.int .i64 b, .int .i64 c]) (.agg #[.int .i64 b, .int .i64 c])).run Tryd.prog w = .ok (.bool true) w := fun w => (eqS b c b c w).trans (by rw [sameS_self])
  have q2 : ∀ w, (binOp .eql 23 (.agg #[.int .i64 y, .int .i64 t]) (.agg #[.int .i64 y, .int .i64 t])).run Tryd.prog w = .ok (.bool true) w := fun w => (eqS y t y t w).trans (by rw [sameS_self])
  have HA := hide (hL.next (((Below.refl _ w).alloc (Nat.le_refl _) (.cells #[.int .i64 m, .int .i64 l] 23)).alloc (by simp) (.cells #[.int .i64 n0, .int .i64 n1, .int .i64 n2] 24)))
  clear hL
  go_enter Tryd.func3, Tryd.ntmps3
  go_wp2_with fail
  refine (C1.out _ HA.out).mono ?_
  rintro e w1 ⟨rfl, b1⟩
  have B1 := hide (bnext (((Below.refl _ w).alloc (Nat.le_refl _) _).alloc (by simp) _) b1)
  have S1 := hide (((hasS_new w m l).alloc _).next b1)
  have N1 := hide (show HasN w1 (w.heap.size + 1) n0 n1 n2 from (b1.block (w.heap.size + 1) (by simp)).trans (heap_alloc2_new _ _ _))
  have V1 := hide (HA.out.next b1)
  have c0 := S1.out.c0
  have c1 := S1.out.c1
  have d0 := N1.out.c0
  have d1 := N1.out.c1
  have d2 := N1.out.c2
  clear b1 C1 HA
  go_wp2_with (first
    | (go_at_call 7; refine (C2.out _).mono ?_; rintro e w' ⟨rfl, hw⟩; subst w')
    | (refine wpList_load_row rfl 23 (.tmp 3) rfl w.heap.size rfl 23 _ (0, 0) _ S1.out Tryd.underlying23 rfl (by kernel_rfl) ?_))
  refine (C3.out _).mono ?_
  rintro e w2 ⟨rfl, b2⟩
  have B2 := hide ((bnext B1.out b2).alloc (bnext B1.out b2).size (.cells #[.int .i64 b, .int .i64 c] 23))
  have S2 := hide ((S1.out.next b2).alloc (.cells #[.int .i64 b, .int .i64 c] 23))
  have N2 := hide ((N1.out.next b2).alloc (.cells #[.int .i64 b, .int .i64 c] 23))
  have V2 := hide ((V1.out.next b2).next ((Below.refl _ w2).alloc (Nat.le_refl _) (.cells #[.int .i64 b, .int .i64 c] 23)))
  have X2 := hide (hasS_new w2 b c)
  clear b2 B1 S1 N1 V1 c0 c1 d0 d1 d2 C2 C3
  obtain ⟨wa, hwa⟩ : ∃ wa, wa = w2.alloc (.cells #[.int .i64 b, .int .i64 c] 23) := ⟨_, rfl⟩
  rw [← hwa] at B2 S2 N2 V2 X2
  have c0 := S2.out.c0
  have c1 := S2.out.c1
  have d1 := N2.out.c1
  have d2 := N2.out.c2
  rw [hwa] at c0 c1 d1 d2
  have Q2 := S2
  rw [hwa] at Q2
  go_wp2_with (first
    | (go_at_call 9; refine (C4.out _).mono ?_; rintro e w' ⟨rfl, hw⟩; subst w')
    | (refine wpList_load_row rfl 23 (.tmp 3) rfl w.heap.size rfl 23 _ (0, 0) _ Q2.out Tryd.underlying23 rfl (by kernel_rfl) ?_))
  rw [← hwa]
  clear hwa c0 c1 d1 d2 Q2 C4
  refine (C5.out _).mono ?_
  rintro e w3 ⟨rfl, b3⟩
  have B3 := hide ((bnext B2.out b3).alloc (bnext B2.out b3).size (.cells #[.int .i64 y, .int .i64 t] 23))
  have S3 := hide ((S2.out.next b3).alloc (.cells #[.int .i64 y, .int .i64 t] 23))
  have N3 := hide ((N2.out.next b3).alloc (.cells #[.int .i64 y, .int .i64 t] 23))
  have V3 := hide ((V2.out.next b3).next ((Below.refl _ w3).alloc (Nat.le_refl _) (.cells #[.int .i64 y, .int .i64 t] 23)))
  have X3 := hide ((X2.out.next b3).alloc (.cells #[.int .i64 y, .int .i64 t] 23))
  have Y3 := hide (hasS_new w3 y t)
  clear b3 B2 S2 N2 V2 X2 C5
  have c0 := S3.out.c0
  have c1 := S3.out.c1
  have d1 := N3.out.c1
  have d2 := N3.out.c2
  go_wp2_with (first
    | (go_at_call 11; refine (C6.out _).mono ?_; rintro e w' ⟨rfl, hw⟩; subst w'))
  clear c0 c1 d1 d2 C6
  refine (only_13 _ V3.out).mono ?_
  rintro e w4 ⟨rfl, b4⟩
  have B4 := hide (bnext B3.out b4)
  have S4 := S3.out.next b4
  have N4 := N3.out.next b4
  have X4 := X3.out.next b4
  have Y4 := Y3.out.next b4
  have s0 := kept_cell S4.c0 S4.lt
  have s1 := kept_cell S4.c1 S4.lt
  have x0 := kept_cell X4.c0 X4.lt
  have x1 := kept_cell X4.c1 X4.lt
  have y0 := kept_cell Y4.c0 Y4.lt
  have y1 := kept_cell Y4.c1 Y4.lt
  have d2 := kept_cell N4.c2 (lt_of_block N4)
  clear b4 B3 S3 N3 V3 X3 Y3 S4 N4 X4 Y4
  go_wp2_with fail
  haveI := kept_some w4
  refine wp_region_kept (by kernel_rfl) (by kernel_rfl) ?_
  repeat (go_big_quiet_step ((first
    | (go_at_call 12; exact kept_call (C8.out _))
    | (go_at_call 13; exact kept_same (C9.out _)))))
  refine wpQuiet_nil ?_
  rintro _ ⟨wk, rfl⟩
  go_wp2
  go_ret
  exact ⟨rfl, bnext B4.out wk.below⟩

set_option maxRecDepth 100000 in
theorem irqTells_lifted (os : Os) (started : os.Started) (H : Type) (enc : TypeId × Value → H) :
    ReturnsInHanded {} Tryd.checked os 3 .any (fun w args => (Rows.irqTellsSpec.pre enc Tryd.prog Tryd.f3 [] false w args ∧ laidMetH Tryd.prog laidVec w) ∧ sizedMet enc Tryd.prog Tryd.f3 (OpenSpec.ofChange Rows.irqTellsSpec) false w args)
      (Rows.irqTellsSpec.post enc Tryd.prog Tryd.f3 false true false false) := by
  refine returnsInHanded_of_change_and (C := Tryd.checked) (X := fun w _ => laidMetH Tryd.prog laidVec w) (fun _ _ _ hh h => h.of_heap hh) own started (by kernel_rfl) Tryd.func3
    (ChangeSpec.witness_at (enc := enc) (C := Tryd.checked) (os := os) (X := fun w _ => laidMetH Tryd.prog laidVec w) false (laidWorld os) #[.agg #[.int .i64 0, .int .i64 0], .agg #[.int .i64 0, .int .i64 0, .int .i64 0], .bool false] 8 rfl (by kernel_rfl) (by kernel_rfl) (by kernel_rfl) (by kernel_rfl) (by kernel_rfl) (laidWorld_vec os _)) ?_
  intro W base args ds gs before hval0 hW _ _ hL _
  have hval : ∀ (j : Nat) t v, Tryd.f3.params[j]? = some t → args[j]? = some v → Value.okWide Tryd.prog W .any base t v := hval0
  have hW' := hW
  obtain ⟨p, q, hA0, hV, rfl, hfz, hnd⟩ := hW
  have hA : DataW.TrodAll enc Tryd.prog W 0 (fun _ => true) true Tryd.f3.params.toList args.toList ds p := hA0
  rw [Tryd.params3] at hA hval
  obtain ⟨v0, vs0, d0, ds0, p0, q0, hargs, rfl, rfl, h0, r0⟩ := trodAll_cons hA
  obtain ⟨v1, vs1, d1, ds1, p1, q1, rfl, rfl, rfl, h1, r1⟩ := trodAll_cons r0
  obtain ⟨v2, vs2, d2, ds2, p2, q2, rfl, rfl, rfl, h2, r2⟩ := trodAll_cons r1
  obtain ⟨rfl, rfl, rfl⟩ := trodAll_nil r2
  obtain rfl : args = #[v0, v1, v2] := by cases args; simp_all
  obtain ⟨rfl, rfl⟩ := trodVars_none hV
  have k0 := h0
  have lt0 : ∀ x ∈ p0, x.block < W.heap.size := by obtain ⟨m, hm⟩ := k0; exact DataW.trod_lt m _ _ _ hm
  obtain ⟨cs0, fu0, rfl, sz0, hf0⟩ := open_struct_cells (n := 2) Tryd.underlying23 (by kernel_rfl) (hval 0 23 v0 rfl rfl) h0
  obtain ⟨y0f0, hy0f0⟩ := hf0 0 _ rfl
  obtain ⟨a0f0, g0f0, _, w0f0⟩ := DataW.trod_int Tryd.underlying3 hy0f0
  have e0f0 := cell_at (by kernel_rfl) g0f0
  obtain ⟨y0f1, hy0f1⟩ := hf0 1 _ rfl
  obtain ⟨a0f1, g0f1, _, w0f1⟩ := DataW.trod_int Tryd.underlying3 hy0f1
  have e0f1 := cell_at (by kernel_rfl) g0f1
  obtain rfl : cs0 = #[.int .i64 a0f0, .int .i64 a0f1] := cells_are [.int .i64 a0f0, .int .i64 a0f1] sz0 (fun j hj => by
    rcases j with _ | _ | j
    · exact e0f0
    · exact e0f1
    · exact absurd hj (by simp only [List.length_cons, List.length_nil]; omega))
  clear hy0f0 g0f0 e0f0 hy0f1 g0f1 e0f1 sz0 hf0
  have k1 := h1
  have lt1 : ∀ x ∈ p1, x.block < W.heap.size := by obtain ⟨m, hm⟩ := k1; exact DataW.trod_lt m _ _ _ hm
  obtain ⟨z1, l1, rfl, w1⟩ := open_array_ints Tryd.underlying24 Tryd.underlying3 (by kernel_rfl) (by kernel_rfl) (hval 1 24 v1 rfl rfl) h1
  obtain ⟨a2, rfl, rfl, rfl⟩ := open_bool Tryd.underlying4 (hval 2 4 v2 rfl rfl) h2
  clear hA0 hval0
  refine (irqTells_walk a0f0 a0f1 z1 a2 W w0f0 w0f1 l1 w1 (laid_vec hL)).mono fun e W' ⟨he, bel⟩ => ?_
  subst he
  exact ⟨_, rfl, _, _, _, [], _, [], hW', trodAll_mk1 (shut_bool Tryd.underlying4 _), (trodAll_cons_mk (Below.trod laidOut (by kernel_rfl) (of_decide_eq_true (by kernel_rfl)) k0 bel lt0) (trodAll_cons_mk (Below.trod laidOut (by kernel_rfl) (of_decide_eq_true (by kernel_rfl)) k1 bel lt1) (trodAll_cons_mk (shut_bool Tryd.underlying4 _) trodAll_mk0))), rfl, bel.frame _, fun h => by cases h⟩

theorem irqTells_over : Rows.irqTellsRow.holds Tryd.pinned (OpenSpec.ofChange Rows.irqTellsSpec) :=
  OpenClaim.holds_of_wide 3 Tryd.f3 rfl rfl rfl rfl rfl rfl rfl ⟨rfl, rfl, rfl, rfl, rfl⟩ rfl rfl rfl rfl rfl (by kernel_rfl) Tryd.func3 (by kernel_rfl)
    (of_decide_eq_true (by kernel_rfl)) (by unfold Func.isWrapper; first | (rw [if_pos (by decide +kernel)]; kernel_rfl) | (rw [if_neg (by decide +kernel)]; exact ⟨rfl, rfl⟩))
    (fun os started H enc _ => irqTells_lifted os started H enc)

theorem irqTells_row : Rows.IrqTellsSaid := irqTells_over

theorem irqTells_holds : Rows.IrqTellsCardSaid :=
  Claim7.holds_tied_plain_at .later [] [.data] true (true, "78ad1e735248eb38a804c6456b8bde51014ba853f9410e9aca81f7525bcfab48") false
    irqTells_row (fun _ h => by cases h) (by kernel_rfl) (fun _ h => by cases h) irqTells_row_tie rfl ⟨rfl, rfl⟩ (by kernel_rfl) rfl
    (fun f fn hf hfn => by
      obtain rfl : f = 3 := Option.some.inj ((show Tryd.prog.funcNamed "phosphor/phosphorlaw11.IrqTells" = some 3 by kernel_rfl).symm.trans hf) |>.symm
      obtain rfl : fn = Tryd.f3 := (Option.some.inj (Tryd.func3.symm.trans hfn)).symm
      exact ⟨by kernel_rfl, fun j t ht => by
        rw [Tryd.params3] at ht
        rcases j with _ | _ | _ | j
        · obtain rfl : t = 23 := by simpa using ht.symm
          exact (show Tryd.prog.wantsStandIn 23 = false by kernel_rfl)
        · obtain rfl : t = 24 := by simpa using ht.symm
          exact (show Tryd.prog.wantsStandIn 24 = false by kernel_rfl)
        · obtain rfl : t = 4 := by simpa using ht.symm
          exact (show Tryd.prog.wantsStandIn 4 = false by kernel_rfl)
        · simp at ht⟩)
    (by kernel_rfl)
#print axioms irqTells_holds
end Go.Proofs.YtnmdifgoimoecaaDoor
