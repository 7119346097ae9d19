/- For every state and every number the law IrqClears of layer 11 returns true: a line that is raised, and then not, is as it was not raised; a write at 3 lowers the clock's alone. No condition. -/
import Derived.Test.YtnmdifgoimoecaaIrq
import Derived.Test.YtnmdifgoimoecaaStructs
import Derived.Test.YtnmdifgoimoecaaCell2
namespace Go.Proofs.Ytnmdifgoimoecaa
open Go.ChangeShapes Go.WideShapes Go.ChangeAt Go.RowKit
open Go.ChangeMaps (open_string shut_string)
set_option linter.unusedVariables false
theorem own : ownKnob Try.prog.godebug = none := by kernel_rfl

theorem HasS.other {w : World} {b g : Nat} {m l : Int} (h : HasS w b m l) (cs : Array Value) (hg : b ≠ g) : HasS (w.setRow g cs) b m l := (setRow_other w g b cs hg).trans h
theorem clears_1 (a b k m l y q : Int) (F : Bool → Int) (w : World) (em : bits .and .i64 a 7 = m) (el : bits .and .i64 b 7 = l) (ey : k.tmod 3 = y) (y0 : -3 < y) (y1 : y < 3) (eq : bits .and .i64 (F true) 3 = q) (rd : Int → Int) (ej : (y + 3).tmod 3 = 0) (eu : bits .or .i64 l 1 = F true) (ed : bits .andNot .i64 l 1 = F false) (CR : Hid (∀ on w, Calls Try.prog 4 #[.agg #[.int .i64 m, .int .i64 l], .int .i64 1, .bool on] w fun e w' => e = .returned (.agg #[.int .i64 m, .int .i64 (F on)]) ∧ Below w.heap.size w w')) (CW : Hid (∀ w, Calls Try.prog 5 #[.agg #[.int .i64 m, .int .i64 (F true)], .int .i64 3, .int .i64 k] w fun e w' => e = .returned (.agg #[.int .i64 m, .int .i64 q]) ∧ Below w.heap.size w w')) (CX : Hid (∀ w, Calls Try.prog 4 #[.agg #[.int .i64 m, .int .i64 (F true)], .int .i64 1, .bool false] w fun e w' => e = .returned (.agg #[.int .i64 m, .int .i64 (F false)]) ∧ Below w.heap.size w w')) (CD : Hid (∀ at_ w, Calls Try.prog 6 #[.agg #[.int .i64 m, .int .i64 (F true)], .int .i64 at_] w fun e w' => e = .returned (.int .i64 (rd at_)) ∧ Below w.heap.size w w')) (hr3 : rd 3 = F true) (hr2 : rd 2 = m) : Calls Try.prog 3 #[.agg #[.int .i64 a, .int .i64 b], .int .i64 k] w fun e w' => e = .returned (.bool true) ∧ Below w.heap.size w w' := by
  have qe : ∀ w, (binOp .eql 23 (.agg #[.int .i64 m, .int .i64 (F false)]) (.agg #[.int .i64 m, .int .i64 (F false)])).run Try.prog w = .ok (.bool true) w := fun w => (eqS m (F false) m (F false) w).trans (by simp [sameS])
  go_enter Try.func3, Try.ntmps3
  go_wp2_with fail
  refine wp_region_two _ _ _ _ _ (show _ = (([_, _, _, _, _, _] ++ [_, _]) ++ [_]) ++ [_] from rfl) #[.int .i64 0, .int .i64 0] #[.int .i64 0, .int .i64 0] 23 23 83 6 7 (by kernel_rfl) (by kernel_rfl) (by kernel_rfl) (by kernel_rfl) (by kernel_rfl) rfl ?_ ?_ ?_
  · intro a w
    rfl
  · intro a w
    rfl
  apply Exists.intro
  refine ⟨fun W hW => ?_, ?_⟩
  · have I := (hasS_new w m l).next hW
    have i0 := kept_cell I.c0 I.lt
    have i1 := kept_cell I.c1 I.lt
    clear hW I
    haveI := kept_some W
    repeat (go_big_quiet_step ((first
      | (go_at_call 4; exact kept_call (CR.out _ _)))))
    refine wpQuiet_nil ?_
    rfl
  intro g h wx bx hg hh lg lh hne
  have S0 := (hasS_new w m l).next bx
  have G0 := hide (show HasS wx g 0 0 from hg)
  have D0 := hide (show HasS wx h 0 0 from hh)
  have szw : w.heap.size < g ∧ w.heap.size < h := by simp at lg lh; omega
  have S1 := hide (S0.other #[.int .i64 m, .int .i64 (F true)] (g := g) (by omega))
  have G1 := hide (show HasS (wx.setRow g #[.int .i64 m, .int .i64 (F true)]) g m (F true) from setRow_heap _ _ _ _ _ _ hg)
  have D1 := hide (D0.out.other #[.int .i64 m, .int .i64 (F true)] (g := g) (fun e => hne e.symm))
  have S2 := hide (S1.out.other #[.int .i64 m, .int .i64 (F false)] (g := h) (by omega))
  have G2 := hide (G1.out.other #[.int .i64 m, .int .i64 (F false)] (g := h) hne)
  have D2 := hide (show HasS ((wx.setRow g #[.int .i64 m, .int .i64 (F true)]).setRow h #[.int .i64 m, .int .i64 (F false)]) h m (F false) from setRow_heap _ _ _ _ _ _ D1.out)
  have b0 := bnext ((Below.refl _ w).alloc (Nat.le_refl _) (.cells #[.int .i64 m, .int .i64 l] 23)) bx
  have B2 := hide (below_setRow (below_setRow b0 (Nat.le_of_lt szw.1) #[.int .i64 m, .int .i64 (F true)]) (Nat.le_of_lt szw.2) #[.int .i64 m, .int .i64 (F false)])
  clear bx hg hh lg lh S0 S1 G1 szw b0
  simp only [Act.put, List.setIfInBounds_toArray, List.set_cons_succ, List.set_cons_zero]
  refine wpList_store_row rfl 23 (.tmp 6) (.tmp 24) rfl g _ rfl rfl 23 _ G0.out (by kernel_rfl) rfl (by kernel_rfl) ?_
  refine wpList_store_row rfl 23 (.tmp 7) (.tmp 27) rfl h _ rfl rfl 23 _ D1.out (by kernel_rfl) rfl (by kernel_rfl) ?_
  clear G0 D0 D1
  obtain ⟨wb, hwb⟩ : ∃ wb, wb = (wx.setRow g #[.int .i64 m, .int .i64 (F true)]).setRow h #[.int .i64 m, .int .i64 (F false)] := ⟨_, rfl⟩
  rw [← hwb] at S2 G2 D2 B2 ⊢
  clear hwb CR
  simp only [Act.put]
  go_wp2_with (first | (refine wpList_load_row rfl 23 (.tmp 6) rfl g rfl 23 _ (0, 0) _ G2.out Try.underlying23 rfl (by kernel_rfl) ?_))
  refine (CW.out _).mono ?_
  rintro e w3 ⟨rfl, b3⟩
  obtain ⟨wc, hwc⟩ : ∃ wc, wc = w3.alloc (.cells #[.int .i64 m, .int .i64 q] 23) := ⟨_, rfl⟩
  have n3 : Below w3.heap.size w3 wc := by rw [hwc]; exact (Below.refl _ w3).alloc (Nat.le_refl _) _
  have S3 := (S2.out.next b3).next n3
  have G3 := (G2.out.next b3).next n3
  have D3 := (D2.out.next b3).next n3
  have W3 : HasS wc w3.heap.size m q := by rw [hwc]; exact hasS_new w3 m q
  have B3 := hide (bnext (bnext B2.out b3) n3)
  have s0 := kept_cell S3.c0 S3.lt
  have s1 := kept_cell S3.c1 S3.lt
  have g0 := kept_cell G3.c0 G3.lt
  have g1 := kept_cell G3.c1 G3.lt
  have d0 := kept_cell D3.c0 D3.lt
  have d1 := kept_cell D3.c1 D3.lt
  have x0 := kept_cell W3.c0 W3.lt
  have x1 := kept_cell W3.c1 W3.lt
  clear b3 n3 S2 G2 D2 B2 S3 G3 D3 W3 CW
  go_wp2_with fail
  rw [← hwc]
  clear hwc
  haveI := kept_some wc
  refine wp_region_kept (by kernel_rfl) (by kernel_rfl) ?_
  repeat (go_big_quiet_step ((first
    | (go_at_call 4; exact kept_call (CX.out _))
    | (go_at_call 6; exact kept_call (CD.out _ _)))))
  refine wpQuiet_nil ?_
  rintro _ ⟨wk, rfl⟩
  go_wp2
  go_ret
  exact ⟨rfl, bnext B3.out wk.below⟩
theorem clears_2 (a b k m l y q : Int) (F : Bool → Int) (w : World) (em : bits .and .i64 a 7 = m) (el : bits .and .i64 b 7 = l) (ey : k.tmod 3 = y) (y0 : -3 < y) (y1 : y < 3) (eq : bits .and .i64 (F true) 3 = q) (rd : Int → Int) (ej : (y + 3).tmod 3 = 1) (eu : bits .or .i64 l 2 = F true) (ed : bits .andNot .i64 l 2 = F false) (CR : Hid (∀ on w, Calls Try.prog 4 #[.agg #[.int .i64 m, .int .i64 l], .int .i64 2, .bool on] w fun e w' => e = .returned (.agg #[.int .i64 m, .int .i64 (F on)]) ∧ Below w.heap.size w w')) (CW : Hid (∀ w, Calls Try.prog 5 #[.agg #[.int .i64 m, .int .i64 (F true)], .int .i64 3, .int .i64 k] w fun e w' => e = .returned (.agg #[.int .i64 m, .int .i64 q]) ∧ Below w.heap.size w w')) (CX : Hid (∀ w, Calls Try.prog 4 #[.agg #[.int .i64 m, .int .i64 (F true)], .int .i64 2, .bool false] w fun e w' => e = .returned (.agg #[.int .i64 m, .int .i64 (F false)]) ∧ Below w.heap.size w w')) (CD : Hid (∀ at_ w, Calls Try.prog 6 #[.agg #[.int .i64 m, .int .i64 (F true)], .int .i64 at_] w fun e w' => e = .returned (.int .i64 (rd at_)) ∧ Below w.heap.size w w')) (hr3 : rd 3 = F true) (hr2 : rd 2 = m) : Calls Try.prog 3 #[.agg #[.int .i64 a, .int .i64 b], .int .i64 k] w fun e w' => e = .returned (.bool true) ∧ Below w.heap.size w w' := by
  have qe : ∀ w, (binOp .eql 23 (.agg #[.int .i64 m, .int .i64 (F false)]) (.agg #[.int .i64 m, .int .i64 (F false)])).run Try.prog w = .ok (.bool true) w := fun w => (eqS m (F false) m (F false) w).trans (by simp [sameS])
  go_enter Try.func3, Try.ntmps3
  go_wp2_with fail
  refine wp_region_two _ _ _ _ _ (show _ = (([_, _, _, _, _, _] ++ [_, _]) ++ [_]) ++ [_] from rfl) #[.int .i64 0, .int .i64 0] #[.int .i64 0, .int .i64 0] 23 23 83 6 7 (by kernel_rfl) (by kernel_rfl) (by kernel_rfl) (by kernel_rfl) (by kernel_rfl) rfl ?_ ?_ ?_
  · intro a w
    rfl
  · intro a w
    rfl
  apply Exists.intro
  refine ⟨fun W hW => ?_, ?_⟩
  · have I := (hasS_new w m l).next hW
    have i0 := kept_cell I.c0 I.lt
    have i1 := kept_cell I.c1 I.lt
    clear hW I
    haveI := kept_some W
    repeat (go_big_quiet_step ((first
      | (go_at_call 4; exact kept_call (CR.out _ _)))))
    refine wpQuiet_nil ?_
    rfl
  intro g h wx bx hg hh lg lh hne
  have S0 := (hasS_new w m l).next bx
  have G0 := hide (show HasS wx g 0 0 from hg)
  have D0 := hide (show HasS wx h 0 0 from hh)
  have szw : w.heap.size < g ∧ w.heap.size < h := by simp at lg lh; omega
  have S1 := hide (S0.other #[.int .i64 m, .int .i64 (F true)] (g := g) (by omega))
  have G1 := hide (show HasS (wx.setRow g #[.int .i64 m, .int .i64 (F true)]) g m (F true) from setRow_heap _ _ _ _ _ _ hg)
  have D1 := hide (D0.out.other #[.int .i64 m, .int .i64 (F true)] (g := g) (fun e => hne e.symm))
  have S2 := hide (S1.out.other #[.int .i64 m, .int .i64 (F false)] (g := h) (by omega))
  have G2 := hide (G1.out.other #[.int .i64 m, .int .i64 (F false)] (g := h) hne)
  have D2 := hide (show HasS ((wx.setRow g #[.int .i64 m, .int .i64 (F true)]).setRow h #[.int .i64 m, .int .i64 (F false)]) h m (F false) from setRow_heap _ _ _ _ _ _ D1.out)
  have b0 := bnext ((Below.refl _ w).alloc (Nat.le_refl _) (.cells #[.int .i64 m, .int .i64 l] 23)) bx
  have B2 := hide (below_setRow (below_setRow b0 (Nat.le_of_lt szw.1) #[.int .i64 m, .int .i64 (F true)]) (Nat.le_of_lt szw.2) #[.int .i64 m, .int .i64 (F false)])
  clear bx hg hh lg lh S0 S1 G1 szw b0
  simp only [Act.put, List.setIfInBounds_toArray, List.set_cons_succ, List.set_cons_zero]
  refine wpList_store_row rfl 23 (.tmp 6) (.tmp 24) rfl g _ rfl rfl 23 _ G0.out (by kernel_rfl) rfl (by kernel_rfl) ?_
  refine wpList_store_row rfl 23 (.tmp 7) (.tmp 27) rfl h _ rfl rfl 23 _ D1.out (by kernel_rfl) rfl (by kernel_rfl) ?_
  clear G0 D0 D1
  obtain ⟨wb, hwb⟩ : ∃ wb, wb = (wx.setRow g #[.int .i64 m, .int .i64 (F true)]).setRow h #[.int .i64 m, .int .i64 (F false)] := ⟨_, rfl⟩
  rw [← hwb] at S2 G2 D2 B2 ⊢
  clear hwb CR
  simp only [Act.put]
  go_wp2_with (first | (refine wpList_load_row rfl 23 (.tmp 6) rfl g rfl 23 _ (0, 0) _ G2.out Try.underlying23 rfl (by kernel_rfl) ?_))
  refine (CW.out _).mono ?_
  rintro e w3 ⟨rfl, b3⟩
  obtain ⟨wc, hwc⟩ : ∃ wc, wc = w3.alloc (.cells #[.int .i64 m, .int .i64 q] 23) := ⟨_, rfl⟩
  have n3 : Below w3.heap.size w3 wc := by rw [hwc]; exact (Below.refl _ w3).alloc (Nat.le_refl _) _
  have S3 := (S2.out.next b3).next n3
  have G3 := (G2.out.next b3).next n3
  have D3 := (D2.out.next b3).next n3
  have W3 : HasS wc w3.heap.size m q := by rw [hwc]; exact hasS_new w3 m q
  have B3 := hide (bnext (bnext B2.out b3) n3)
  have s0 := kept_cell S3.c0 S3.lt
  have s1 := kept_cell S3.c1 S3.lt
  have g0 := kept_cell G3.c0 G3.lt
  have g1 := kept_cell G3.c1 G3.lt
  have d0 := kept_cell D3.c0 D3.lt
  have d1 := kept_cell D3.c1 D3.lt
  have x0 := kept_cell W3.c0 W3.lt
  have x1 := kept_cell W3.c1 W3.lt
  clear b3 n3 S2 G2 D2 B2 S3 G3 D3 W3 CW
  go_wp2_with fail
  rw [← hwc]
  clear hwc
  haveI := kept_some wc
  refine wp_region_kept (by kernel_rfl) (by kernel_rfl) ?_
  repeat (go_big_quiet_step ((first
    | (go_at_call 4; exact kept_call (CX.out _))
    | (go_at_call 6; exact kept_call (CD.out _ _)))))
  refine wpQuiet_nil ?_
  rintro _ ⟨wk, rfl⟩
  go_wp2
  go_ret
  exact ⟨rfl, bnext B3.out wk.below⟩
theorem clears_4 (a b k m l y q : Int) (F : Bool → Int) (w : World) (em : bits .and .i64 a 7 = m) (el : bits .and .i64 b 7 = l) (ey : k.tmod 3 = y) (y0 : -3 < y) (y1 : y < 3) (eq : bits .and .i64 (F true) 3 = q) (rd : Int → Int) (ej : (y + 3).tmod 3 = 2) (eu : bits .or .i64 l 4 = F true) (ed : bits .andNot .i64 l 4 = F false) (CR : Hid (∀ on w, Calls Try.prog 4 #[.agg #[.int .i64 m, .int .i64 l], .int .i64 4, .bool on] w fun e w' => e = .returned (.agg #[.int .i64 m, .int .i64 (F on)]) ∧ Below w.heap.size w w')) (CW : Hid (∀ w, Calls Try.prog 5 #[.agg #[.int .i64 m, .int .i64 (F true)], .int .i64 3, .int .i64 k] w fun e w' => e = .returned (.agg #[.int .i64 m, .int .i64 q]) ∧ Below w.heap.size w w')) (CX : Hid (∀ w, Calls Try.prog 4 #[.agg #[.int .i64 m, .int .i64 (F true)], .int .i64 4, .bool false] w fun e w' => e = .returned (.agg #[.int .i64 m, .int .i64 (F false)]) ∧ Below w.heap.size w w')) (CD : Hid (∀ at_ w, Calls Try.prog 6 #[.agg #[.int .i64 m, .int .i64 (F true)], .int .i64 at_] w fun e w' => e = .returned (.int .i64 (rd at_)) ∧ Below w.heap.size w w')) (hr3 : rd 3 = F true) (hr2 : rd 2 = m) : Calls Try.prog 3 #[.agg #[.int .i64 a, .int .i64 b], .int .i64 k] w fun e w' => e = .returned (.bool true) ∧ Below w.heap.size w w' := by
  have qe : ∀ w, (binOp .eql 23 (.agg #[.int .i64 m, .int .i64 (F false)]) (.agg #[.int .i64 m, .int .i64 (F false)])).run Try.prog w = .ok (.bool true) w := fun w => (eqS m (F false) m (F false) w).trans (by simp [sameS])
  go_enter Try.func3, Try.ntmps3
  go_wp2_with fail
  refine wp_region_two _ _ _ _ _ (show _ = (([_, _, _, _, _, _] ++ [_, _]) ++ [_]) ++ [_] from rfl) #[.int .i64 0, .int .i64 0] #[.int .i64 0, .int .i64 0] 23 23 83 6 7 (by kernel_rfl) (by kernel_rfl) (by kernel_rfl) (by kernel_rfl) (by kernel_rfl) rfl ?_ ?_ ?_
  · intro a w
    rfl
  · intro a w
    rfl
  apply Exists.intro
  refine ⟨fun W hW => ?_, ?_⟩
  · have I := (hasS_new w m l).next hW
    have i0 := kept_cell I.c0 I.lt
    have i1 := kept_cell I.c1 I.lt
    clear hW I
    haveI := kept_some W
    repeat (go_big_quiet_step ((first
      | (go_at_call 4; exact kept_call (CR.out _ _)))))
    refine wpQuiet_nil ?_
    rfl
  intro g h wx bx hg hh lg lh hne
  have S0 := (hasS_new w m l).next bx
  have G0 := hide (show HasS wx g 0 0 from hg)
  have D0 := hide (show HasS wx h 0 0 from hh)
  have szw : w.heap.size < g ∧ w.heap.size < h := by simp at lg lh; omega
  have S1 := hide (S0.other #[.int .i64 m, .int .i64 (F true)] (g := g) (by omega))
  have G1 := hide (show HasS (wx.setRow g #[.int .i64 m, .int .i64 (F true)]) g m (F true) from setRow_heap _ _ _ _ _ _ hg)
  have D1 := hide (D0.out.other #[.int .i64 m, .int .i64 (F true)] (g := g) (fun e => hne e.symm))
  have S2 := hide (S1.out.other #[.int .i64 m, .int .i64 (F false)] (g := h) (by omega))
  have G2 := hide (G1.out.other #[.int .i64 m, .int .i64 (F false)] (g := h) hne)
  have D2 := hide (show HasS ((wx.setRow g #[.int .i64 m, .int .i64 (F true)]).setRow h #[.int .i64 m, .int .i64 (F false)]) h m (F false) from setRow_heap _ _ _ _ _ _ D1.out)
  have b0 := bnext ((Below.refl _ w).alloc (Nat.le_refl _) (.cells #[.int .i64 m, .int .i64 l] 23)) bx
  have B2 := hide (below_setRow (below_setRow b0 (Nat.le_of_lt szw.1) #[.int .i64 m, .int .i64 (F true)]) (Nat.le_of_lt szw.2) #[.int .i64 m, .int .i64 (F false)])
  clear bx hg hh lg lh S0 S1 G1 szw b0
  simp only [Act.put, List.setIfInBounds_toArray, List.set_cons_succ, List.set_cons_zero]
  refine wpList_store_row rfl 23 (.tmp 6) (.tmp 24) rfl g _ rfl rfl 23 _ G0.out (by kernel_rfl) rfl (by kernel_rfl) ?_
  refine wpList_store_row rfl 23 (.tmp 7) (.tmp 27) rfl h _ rfl rfl 23 _ D1.out (by kernel_rfl) rfl (by kernel_rfl) ?_
  clear G0 D0 D1
  obtain ⟨wb, hwb⟩ : ∃ wb, wb = (wx.setRow g #[.int .i64 m, .int .i64 (F true)]).setRow h #[.int .i64 m, .int .i64 (F false)] := ⟨_, rfl⟩
  rw [← hwb] at S2 G2 D2 B2 ⊢
  clear hwb CR
  simp only [Act.put]
  go_wp2_with (first | (refine wpList_load_row rfl 23 (.tmp 6) rfl g rfl 23 _ (0, 0) _ G2.out Try.underlying23 rfl (by kernel_rfl) ?_))
  refine (CW.out _).mono ?_
  rintro e w3 ⟨rfl, b3⟩
  obtain ⟨wc, hwc⟩ : ∃ wc, wc = w3.alloc (.cells #[.int .i64 m, .int .i64 q] 23) := ⟨_, rfl⟩
  have n3 : Below w3.heap.size w3 wc := by rw [hwc]; exact (Below.refl _ w3).alloc (Nat.le_refl _) _
  have S3 := (S2.out.next b3).next n3
  have G3 := (G2.out.next b3).next n3
  have D3 := (D2.out.next b3).next n3
  have W3 : HasS wc w3.heap.size m q := by rw [hwc]; exact hasS_new w3 m q
  have B3 := hide (bnext (bnext B2.out b3) n3)
  have s0 := kept_cell S3.c0 S3.lt
  have s1 := kept_cell S3.c1 S3.lt
  have g0 := kept_cell G3.c0 G3.lt
  have g1 := kept_cell G3.c1 G3.lt
  have d0 := kept_cell D3.c0 D3.lt
  have d1 := kept_cell D3.c1 D3.lt
  have x0 := kept_cell W3.c0 W3.lt
  have x1 := kept_cell W3.c1 W3.lt
  clear b3 n3 S2 G2 D2 B2 S3 G3 D3 W3 CW
  go_wp2_with fail
  rw [← hwc]
  clear hwc
  haveI := kept_some wc
  refine wp_region_kept (by kernel_rfl) (by kernel_rfl) ?_
  repeat (go_big_quiet_step ((first
    | (go_at_call 4; exact kept_call (CX.out _))
    | (go_at_call 6; exact kept_call (CD.out _ _)))))
  refine wpQuiet_nil ?_
  rintro _ ⟨wk, rfl⟩
  go_wp2
  go_ret
  exact ⟨rfl, bnext B3.out wk.below⟩
/-- What the law asks, of all lines of three bits. -/
theorem clear_all : ∀ l : Fin 8, (bic3 (or3 (l.val : Int) 1) 1 = bic3 (l.val : Int) 1 ∧ and3 (or3 (l.val : Int) 1) 3 = bic3 (or3 (l.val : Int) 1) 4) ∧
    (bic3 (or3 (l.val : Int) 2) 2 = bic3 (l.val : Int) 2 ∧ and3 (or3 (l.val : Int) 2) 3 = bic3 (or3 (l.val : Int) 2) 4) ∧ (bic3 (or3 (l.val : Int) 4) 4 = bic3 (l.val : Int) 4 ∧ and3 (or3 (l.val : Int) 4) 3 = bic3 (or3 (l.val : Int) 4) 4) := by decide +kernel
theorem irqClears_walk (a b k : Int) (w0 : (Lit.int .i64 a).wf = true) (w1 : (Lit.int .i64 b).wf = true) (w2 : (Lit.int .i64 k).wf = true) (w : World) : Calls Try.prog 3 #[.agg #[.int .i64 a, .int .i64 b], .int .i64 k] w fun e w' => e = .returned (.bool true) ∧ Below w.heap.size w w' := by
  clear w0 w1 w2
  obtain ⟨y, j, ey, ej, y0, y1, hj⟩ := line_of k
  rcases hj with rfl | rfl | rfl
  ·
    have hm := mod8_in a
    have hl := mod8_in b
    have hc := all_8 (p := fun l => (bic3 (or3 l 1) 1 = bic3 l 1 ∧ and3 (or3 l 1) 3 = bic3 (or3 l 1) 4) ∧ (bic3 (or3 l 2) 2 = bic3 l 2 ∧ and3 (or3 l 2) 3 = bic3 (or3 l 2) 4) ∧ (bic3 (or3 l 4) 4 = bic3 l 4 ∧ and3 (or3 l 4) 3 = bic3 (or3 l 4) 4)) clear_all hl.1 hl.2
    obtain ⟨f1, f2⟩ := hc.1
    have s1 := or3_in (b % 8) 1
    have e1 : a % 8 % 8 = a % 8 := mod_mod8 a
    have e2 : or3 (b % 8) 1 % 8 = or3 (b % 8) 1 := Int.emod_eq_of_lt s1.1 s1.2
    have eu := or_low3 (b % 8) 1 hl.1 hl.2 (by decide) (by decide)
    have ed := bic_low3 (b % 8) 1 hl.1 hl.2
    have eq : bits .and .i64 (or3 (b % 8) 1) 3 = bic3 (or3 (b % 8) 1) 4 := (and_low3 _ 3 (by decide) (by decide)).trans f2
    have CR := hide (fun on w => raise_any (a % 8) (b % 8) 1 on w)
    have CW := hide (fun w => write_3 (a % 8) (or3 (b % 8) 1) k w)
    have CX := hide (fun w => raise_any (a % 8) (or3 (b % 8) 1) 1 false w)
    rw [e1] at CR CW CX
    rw [show liftOf (or3 (b % 8) 1) 1 false = bic3 (b % 8) 1 from f1] at CX
    exact clears_1 a b k (a % 8) (b % 8) y _ (liftOf (b % 8) 1) w (and_7 a) (and_7 b) ey y0 y1 eq (readOf (a % 8) (or3 (b % 8) 1)) ej eu ed CR CW CX (hide fun at_ w => read_any (a % 8) (or3 (b % 8) 1) at_ w) e2 e1
  ·
    have hm := mod8_in a
    have hl := mod8_in b
    have hc := all_8 (p := fun l => (bic3 (or3 l 1) 1 = bic3 l 1 ∧ and3 (or3 l 1) 3 = bic3 (or3 l 1) 4) ∧ (bic3 (or3 l 2) 2 = bic3 l 2 ∧ and3 (or3 l 2) 3 = bic3 (or3 l 2) 4) ∧ (bic3 (or3 l 4) 4 = bic3 l 4 ∧ and3 (or3 l 4) 3 = bic3 (or3 l 4) 4)) clear_all hl.1 hl.2
    obtain ⟨f1, f2⟩ := hc.2.1
    have s1 := or3_in (b % 8) 2
    have e1 : a % 8 % 8 = a % 8 := mod_mod8 a
    have e2 : or3 (b % 8) 2 % 8 = or3 (b % 8) 2 := Int.emod_eq_of_lt s1.1 s1.2
    have eu := or_low3 (b % 8) 2 hl.1 hl.2 (by decide) (by decide)
    have ed := bic_low3 (b % 8) 2 hl.1 hl.2
    have eq : bits .and .i64 (or3 (b % 8) 2) 3 = bic3 (or3 (b % 8) 2) 4 := (and_low3 _ 3 (by decide) (by decide)).trans f2
    have CR := hide (fun on w => raise_any (a % 8) (b % 8) 2 on w)
    have CW := hide (fun w => write_3 (a % 8) (or3 (b % 8) 2) k w)
    have CX := hide (fun w => raise_any (a % 8) (or3 (b % 8) 2) 2 false w)
    rw [e1] at CR CW CX
    rw [show liftOf (or3 (b % 8) 2) 2 false = bic3 (b % 8) 2 from f1] at CX
    exact clears_2 a b k (a % 8) (b % 8) y _ (liftOf (b % 8) 2) w (and_7 a) (and_7 b) ey y0 y1 eq (readOf (a % 8) (or3 (b % 8) 2)) ej eu ed CR CW CX (hide fun at_ w => read_any (a % 8) (or3 (b % 8) 2) at_ w) e2 e1
  ·
    have hm := mod8_in a
    have hl := mod8_in b
    have hc := all_8 (p := fun l => (bic3 (or3 l 1) 1 = bic3 l 1 ∧ and3 (or3 l 1) 3 = bic3 (or3 l 1) 4) ∧ (bic3 (or3 l 2) 2 = bic3 l 2 ∧ and3 (or3 l 2) 3 = bic3 (or3 l 2) 4) ∧ (bic3 (or3 l 4) 4 = bic3 l 4 ∧ and3 (or3 l 4) 3 = bic3 (or3 l 4) 4)) clear_all hl.1 hl.2
    obtain ⟨f1, f2⟩ := hc.2.2
    have s1 := or3_in (b % 8) 4
    have e1 : a % 8 % 8 = a % 8 := mod_mod8 a
    have e2 : or3 (b % 8) 4 % 8 = or3 (b % 8) 4 := Int.emod_eq_of_lt s1.1 s1.2
    have eu := or_low3 (b % 8) 4 hl.1 hl.2 (by decide) (by decide)
    have ed := bic_low3 (b % 8) 4 hl.1 hl.2
    have eq : bits .and .i64 (or3 (b % 8) 4) 3 = bic3 (or3 (b % 8) 4) 4 := (and_low3 _ 3 (by decide) (by decide)).trans f2
    have CR := hide (fun on w => raise_any (a % 8) (b % 8) 4 on w)
    have CW := hide (fun w => write_3 (a % 8) (or3 (b % 8) 4) k w)
    have CX := hide (fun w => raise_any (a % 8) (or3 (b % 8) 4) 4 false w)
    rw [e1] at CR CW CX
    rw [show liftOf (or3 (b % 8) 4) 4 false = bic3 (b % 8) 4 from f1] at CX
    exact clears_4 a b k (a % 8) (b % 8) y _ (liftOf (b % 8) 4) w (and_7 a) (and_7 b) ey y0 y1 eq (readOf (a % 8) (or3 (b % 8) 4)) ej eu ed CR CW CX (hide fun at_ w => read_any (a % 8) (or3 (b % 8) 4) at_ w) e2 e1

set_option maxRecDepth 100000 in
theorem irqClears_lifted (os : Os) (started : os.Started) (H : Type) (enc : TypeId × Value → H) :
    ReturnsInHanded {} Try.checked os 3 .any (Rows.irqClearsSpec.pre6 enc Try.prog Try.f3 Rows.irqClearsRow.domain false) (Rows.irqClearsSpec.post enc Try.prog Try.f3 false true false false) := by
  refine returnsInHanded_of_change (C := Try.checked) own started (by kernel_rfl) Try.func3
    (ChangeSpec.witness6 (enc := enc) (C := Try.checked) false ⟨#[], #[.agg #[.int .i64 0, .int .i64 0], .int .i64 0], []⟩ 8 (by kernel_rfl) (by kernel_rfl) (by kernel_rfl) (by kernel_rfl)) ?_
  intro W base args ds gs before hval0 hW hcnd _
  have hval : ∀ (j : Nat) t v, Try.f3.params[j]? = some t → args[j]? = some v → Value.okWide Try.prog W .any base t v := hval0
  have hW' := hW
  obtain ⟨p, q, hA0, hV, rfl, hfz, hnd⟩ := hW
  have hA : DataW.TrodAll enc Try.prog W 0 (fun _ => true) true Try.f3.params.toList args.toList ds p := hA0
  rw [Try.params3] at hA hval
  obtain ⟨v0, vs0, d0, ds0, p0, q0, hargs, rfl, rfl, h0, r0⟩ := trodAll_cons hA
  obtain ⟨v1, vs1, d1, ds1, p1, q1, rfl, rfl, rfl, h1, r1⟩ := trodAll_cons r0
  obtain ⟨rfl, rfl, rfl⟩ := trodAll_nil r1
  obtain rfl : args = #[v0, v1] := by cases args; simp_all
  obtain ⟨rfl, rfl⟩ := trodVars_none hV
  have k0 := h0
  have lt0 : ∀ x ∈ p0, x.block < W.heap.size := by obtain ⟨m, hm⟩ := k0; exact DataW.trod_lt m _ _ _ hm
  obtain ⟨cs0, fu0, rfl, sz0, hf0⟩ := open_struct_cells (n := 2) Try.underlying23 (by kernel_rfl) (hval 0 23 v0 rfl rfl) h0
  obtain ⟨y0f0, hy0f0⟩ := hf0 0 _ rfl
  obtain ⟨a0f0, g0f0, _, w0f0⟩ := DataW.trod_int Try.underlying3 hy0f0
  have e0f0 := cell_at (by kernel_rfl) g0f0
  obtain ⟨y0f1, hy0f1⟩ := hf0 1 _ rfl
  obtain ⟨a0f1, g0f1, _, w0f1⟩ := DataW.trod_int Try.underlying3 hy0f1
  have e0f1 := cell_at (by kernel_rfl) g0f1
  obtain rfl : cs0 = #[.int .i64 a0f0, .int .i64 a0f1] := cells_are [.int .i64 a0f0, .int .i64 a0f1] sz0 (fun j hj => by
    rcases j with _ | _ | j
    · exact e0f0
    · exact e0f1
    · exact absurd hj (by simp only [List.length_cons, List.length_nil]; omega))
  clear hy0f0 g0f0 e0f0 hy0f1 g0f1 e0f1 sz0 hf0
  obtain ⟨a1, rfl, rfl, rfl, w1⟩ := open_int Try.underlying3 (hval 1 3 v1 rfl rfl) h1
  clear hA0 hval0
  refine (irqClears_walk a0f0 a0f1 a1 w0f0 w0f1 w1 W).mono fun e W' ⟨he, bel⟩ => ?_
  subst he
  exact ⟨_, rfl, _, _, _, [], _, [], hW', trodAll_mk1 (shut_bool Try.underlying4 _), (trodAll_cons_mk (Below.trod laidOut (by kernel_rfl) (of_decide_eq_true (by kernel_rfl)) k0 bel lt0) (trodAll_cons_mk (shut_int Try.underlying3 w1) trodAll_mk0)), rfl, bel.frame _, fun h => by cases h⟩

theorem irqClears_over : Rows.irqClearsRow.holds Try.pinned (OpenSpec.ofChange Rows.irqClearsSpec) :=
  OpenClaim.holds_of_wide 3 Try.f3 rfl rfl rfl rfl rfl rfl rfl ⟨rfl, rfl, rfl, rfl, rfl⟩ rfl rfl rfl rfl rfl (by kernel_rfl) Try.func3 (by kernel_rfl)
    (of_decide_eq_true (by kernel_rfl)) (by unfold Func.isWrapper; first | (rw [if_pos (by decide +kernel)]; kernel_rfl) | (rw [if_neg (by decide +kernel)]; exact ⟨rfl, rfl⟩))
    (fun os started H enc _ => irqClears_lifted os started H enc)

theorem irqClears_holds : Rows.IrqClearsSaid := irqClears_over
#print axioms irqClears_holds
end Go.Proofs.Ytnmdifgoimoecaa
