/- For every port, five numbers and a number the law PadTurns of layer 23 returns true: behind Clr, and so many times Sel, off and on, that pad is read, its directions with Sel, its buttons without; and behind five no pad. No condition. -/
import Derived.Test.YtliedfjaeakgeaaPad23
import Derived.Test.YtliedfjaeakgeaaKeys23
import Derived.Test.YtliedfjaeakgeaaStructs
import Derived.OpenShut
import Derived.ShutString
import Derived.ChangeOld
import Derived.Below
namespace Go.Proofs.Ytliedfjaeakgeaa
open Go.ChangeShapes Go.WideShapes Go.ChangeAt Go.RowKit
open Go.ChangeMaps (open_string shut_string)
set_option linter.unusedVariables false
set_option linter.unusedSimpArgs false
theorem own : ownKnob Try.prog.godebug = none := by kernel_rfl

theorem list_row (z : List Int) (N : Nat) (h : z.length = N) : (z.map (Value.int .i64)).toArray = rowF (iv fun j => z.getD j 0) N := by
  apply Array.ext_getElem?
  intro j
  by_cases hj : j < N
  · rw [rowF_at _ _ _ hj]
    simp [iv, List.getD, show j < z.length by omega]
  · rw [rowF_none _ _ _ hj, Array.getElem?_eq_none (by simp; omega)]
def nof : Nat → Bool := fun _ => false
/-- The pads of the law, so many of them laid. -/
def tk (f : Nat → Int) (k : Nat) : Nat → Int := fun j => if j < k then f j else 0
theorem row_none (f : Nat → Int) : rowF (pc (tk f 0) nof) 10 = #[.int .i64 0, .bool false, .int .i64 0, .bool false, .int .i64 0, .bool false, .int .i64 0, .bool false, .int .i64 0, .bool false] := by
  rw [show tk f 0 = fun _ => 0 from funext fun j => by simp [tk]]
  rfl
def e2 (x : Int) : Nat → Value := fun j => if j = 0 then .int .i64 x else .bool false
theorem e2_row (x : Int) : rowF (e2 x) 2 = #[.int .i64 x, .bool false] := rfl
theorem tk_next (f : Nat → Int) (k : Nat) : ∀ j, j < 10 → (if k * 2 ≤ j ∧ j < k * 2 + 2 then e2 (f k) (j - k * 2) else pc (tk f k) nof j) = pc (tk f (k + 1)) nof j := fun j _ => by
  unfold pc tk e2 nof
  by_cases h : k * 2 ≤ j ∧ j < k * 2 + 2
  · rw [if_pos h]
    rcases (show j = k * 2 ∨ j = k * 2 + 1 by omega) with e | e
    · subst e
      rw [if_pos (by omega), if_pos (by omega), show k * 2 / 2 = k by omega, if_pos (by omega)]
    · subst e
      rw [if_neg (by omega), if_neg (by omega)]
  · rw [if_neg h]
    by_cases h2 : j % 2 = 0
    · rw [if_pos h2, if_pos h2]
      by_cases h3 : j / 2 < k
      · rw [if_pos h3, if_pos (by omega)]
      · rw [if_neg h3, if_neg (by omega)]
    · rw [if_neg h2, if_neg h2]
theorem turn_3 (s c d : Bool) (i : Int) (w : World) : Calls Try.prog 7 #[.agg #[.bool s, .bool c, .bool d, .int .i64 i], .int .i64 3] w fun e w' => e = Ending.returned (.agg #[.bool true, .bool true, .bool (nxD c d true), .int .i64 0]) ∧ Below w.heap.size w w' := write_any s c d i 3 w
theorem turn_1 (d : Bool) (w : World) : Calls Try.prog 7 #[.agg #[.bool true, .bool true, .bool d, .int .i64 0], .int .i64 1] w fun e w' => e = Ending.returned (.agg #[.bool true, .bool false, .bool d, .int .i64 0]) ∧ Below w.heap.size w w' := write_any true true d 0 1 w
theorem turn_off (d : Bool) (j : Int) (h0 : 0 ≤ j) (h1 : j ≤ 5) (w : World) : Calls Try.prog 7 #[.agg #[.bool true, .bool false, .bool d, .int .i64 j], .int .i64 0] w fun e w' => e = Ending.returned (.agg #[.bool false, .bool false, .bool d, .int .i64 j]) ∧ Below w.heap.size w w' := by
  have h : Calls Try.prog 7 #[.agg #[.bool true, .bool false, .bool d, .int .i64 j], .int .i64 0] w fun e w' => e = Ending.returned (.agg #[.bool false, .bool false, .bool d, .int .i64 (bndI j)]) ∧ Below w.heap.size w w' := write_any true false d j 0 w
  rw [show bndI j = j by unfold bndI; rw [if_neg (by omega)]] at h
  exact h
theorem turn_on (d : Bool) (j : Int) (h0 : 0 ≤ j) (h1 : j ≤ 5) (w : World) : Calls Try.prog 7 #[.agg #[.bool false, .bool false, .bool d, .int .i64 j], .int .i64 1] w fun e w' => e = Ending.returned (.agg #[.bool true, .bool false, .bool d, .int .i64 (min (j + 1) 5)]) ∧ Below w.heap.size w w' := by
  have h : Calls Try.prog 7 #[.agg #[.bool false, .bool false, .bool d, .int .i64 j], .int .i64 1] w fun e w' => e = Ending.returned (.agg #[.bool true, .bool false, .bool d, .int .i64 (min (bndI j + 1) 5)]) ∧ Below w.heap.size w w' := write_any false false d j 1 w
  rw [show bndI j = j by unfold bndI; rw [if_neg (by omega)]] at h
  exact h
/-- The index behind so many turns. -/
def upTo (k : Nat) : Int := min (k : Int) 5
theorem upTo_in (k : Nat) : 0 ≤ upTo k ∧ upTo k ≤ 5 := by unfold upTo; omega
theorem upTo_next (k : Nat) : min (upTo k + 1) 5 = upTo (k + 1) := by unfold upTo; omega
theorem rest_7 (a : Int) : ∃ (y : Int) (N : Nat), a.tmod 7 = y ∧ (y + 7).tmod 7 = (N : Int) ∧ -7 < y ∧ y < 7 ∧ N < 7 := by
  have h1 := Int.lt_tmod_of_pos a (show (0 : Int) < 7 by decide)
  have h2 := Int.tmod_lt_of_pos a (show (0 : Int) < 7 by decide)
  have e : (a.tmod 7 + 7).tmod 7 = (a.tmod 7 + 7) % 7 := Int.tmod_eq_emod_of_nonneg (by omega)
  exact ⟨_, ((a.tmod 7 + 7) % 7).toNat, rfl, by rw [e]; omega, h1, h2, by omega⟩
set_option maxHeartbeats 2000000 in
theorem turns_go (s c d : Bool) (i : Int) (f : Nat → Int) (a : Int) (w : World) : Calls Try.prog 4 #[.agg #[.bool s, .bool c, .bool d, .int .i64 i], .agg (rowF (iv f) 5), .int .i64 a] w fun e w' => e = .returned (.bool true) ∧ Below w.heap.size w w' := by
  have K3 := hide (fun w => turn_3 s c d i w)
  have K1 := hide (fun w => turn_1 (nxD c d true) w)
  generalize nxD c d true = D at *
  obtain ⟨y, N, ey, eN, y0, y1, hN⟩ := rest_7 a
  have P0 := hide (hasP_new 23 w s c d i)
  go_enter Try.func4, Try.ntmps4
  go_wp2_with fail
  refine under_name fun wa hwa => ?_
  have b1 := (Below.refl _ w).alloc (Nat.le_refl _) (.cells #[.bool s, .bool c, .bool d, .int .i64 i] 23)
  have P0 := hide (show HasP 23 wa w.heap.size s c d i by rw [hwa]; exact ((hasP_new _ _ _ _ _ _).next ((Below.refl _ _).alloc (Nat.le_refl _) _)).next ((Below.refl _ _).alloc (Nat.le_refl _) _))
  have N0 := hide (show HasF 35 wa (w.heap.size + 1) 5 (iv f) by rw [hwa]; exact (hasF_new2 _ _ _ _ _).next ((Below.refl _ _).alloc (Nat.le_refl _) _))
  have Q0 := hide (show HasF 26 wa (w.heap.size + 2) 10 (pc (tk f 0) nof) by
    have h := hasF_new2 26 (w.alloc (.cells #[.bool s, .bool c, .bool d, .int .i64 i] 23)) (.cells (rowF (iv f) 5) 35) 10 (pc (tk f 0) nof)
    rw [show (w.alloc (.cells #[.bool s, .bool c, .bool d, .int .i64 i] 23)).heap.size + 1 = w.heap.size + 2 by simp, row_none] at h
    rw [hwa]
    exact h)
  have B0 := hide (show Below w.heap.size w wa by rw [hwa]; exact (((Below.refl _ w).alloc (Nat.le_refl _) _).alloc (by simp) _).alloc (by simp; omega) _)
  clear hwa b1
  obtain ⟨s0, hs0⟩ : ∃ s, w.heap.size = s := ⟨_, rfl⟩
  rw [hs0] at P0 Q0 N0 ⊢
  have HS := hide hs0
  clear hs0
  go_loopw [8] (fun v w' => ∃ k : Nat, k ≤ 5 ∧ v = .int .i64 k ∧ HasP 23 w' s0 s c d i ∧ HasF 35 w' (s0 + 1) 5 (iv f) ∧ HasF 26 w' (s0 + 2) 10 (pc (tk f k) nof) ∧ Below w.heap.size w w') (fun v _ => 5 - (intOf v).toNat)
  case atStart => exact ⟨0, Nat.zero_le _, rfl, P0.out, N0.out, Q0.out, B0.out⟩
  case round =>
    clear P0 Q0 N0 B0
    obtain ⟨k, hk, rfl, h1, h2, h3, h4⟩ := hrel
    have P1 := hide h1
    have N1 := hide h2
    have Q1 := hide h3
    have B1 := hide h4
    clear h1 h2 h3 h4
    by_cases hlt : k < 5
    · have ck := N1.out.int k hlt
      go_wp2_with (first
        | (refine wpList_store_part rfl 25 (.tmp 21) (.tmp 20) rfl (s0 + 2) (k * 2) 2 (e2 (f k)) rfl rfl Q1.out (by omega) (by kernel_rfl) (fun j hj => by rcases (show j = 0 ∨ j = 1 by omega) with rfl | rfl <;> rfl) ?_
           refine under_list fun w6 hw6 => ?_
           have b6 : But (s0 + 2) wr w6 := (by rw [hw6]; exact But.cells _ _ _ (But.refl _ _))
           have Q6 : Hid (HasF 26 w6 (s0 + 2) 10 (pc (tk f (k + 1)) nof)) := hide (by rw [hw6]; exact (Q1.out.cells _ _ _).ext (tk_next f k))
           have N6 := hide (b6.keep N1.out (by omega))
           have P6 := hide (show HasP 23 w6 s0 s c d i from b6.obj P1.out (by omega))
           have B6 := hide (bbut B1.out b6 (by have := HS.out; omega) (Nat.le_refl _))
           clear b6 hw6 Q1 N1 P1 B1))
      exact ⟨⟨k + 1, by omega, by go_num, P6.out, N6.out, Q6.out, B6.out⟩, by simp [intOf]; omega⟩
    · obtain rfl : k = 5 := by omega
      clear hlt hk
      go_wp2_with (first
        | (refine wpList_load_row rfl 23 (.tmp 3) rfl s0 rfl _ _ _ _ P1.out Try.underlying23 rfl (by kernel_rfl) ?_))
      refine (K3.out _).mono ?_
      rintro e w2 ⟨rfl, b2⟩
      go_wp2_with fail
      refine (K1.out _).mono ?_
      rintro e w3 ⟨rfl, b3⟩
      have P3 := hide ((P1.out.next b2).next b3)
      have Q3 := hide ((Q1.out.next b2).next b3)
      have N3 := hide ((N1.out.next b2).next b3)
      have B3 := hide (bnext (bnext B1.out b2) b3)
      clear b2 b3 P1 Q1 B1 N1 K3 K1
      go_wp2_with (first
        | (refine wpList_store_row rfl 23 (.tmp 3) (.tmp 28) rfl s0 _ rfl rfl 23 _ P3.out (by kernel_rfl) rfl (by kernel_rfl) ?_
           refine under_list fun w4 hw4 => ?_
           have P4 : Hid (HasP 23 w4 s0 true false D (upTo 0)) := hide (by rw [hw4]; exact setRow_heap _ _ _ _ _ _ P3.out)
           have Q4 : Hid (HasF 26 w4 (s0 + 2) 10 (pc (tk f 5) nof)) := hide (by rw [hw4]; exact Q3.out.row _ (by omega))
           have N4 : Hid (HasF 35 w4 (s0 + 1) 5 (iv f)) := hide (by rw [hw4]; exact N3.out.row _ (by omega))
           have B4 : Hid (Below w.heap.size w w4) := hide (by rw [hw4]; exact below_setRow B3.out (by have := HS.out; omega) _)
           clear hw4 P3 Q3 B3 N3))
      go_loopw [9] (fun v w' => ∃ k : Nat, k ≤ N ∧ v = .int .i64 k ∧ HasP 23 w' s0 true false D (upTo k) ∧ HasF 35 w' (s0 + 1) 5 (iv f) ∧ HasF 26 w' (s0 + 2) 10 (pc (tk f 5) nof) ∧ Below w.heap.size w w') (fun v _ => N - (intOf v).toNat)
      case atStart => exact ⟨0, Nat.zero_le _, rfl, P4.out, N4.out, Q4.out, B4.out⟩
      case round =>
        clear P4 Q4 N4 B4
        obtain ⟨k, hk, rfl, h1, h2, h3, h4⟩ := hrel
        have P1 := hide h1
        have N1 := hide h2
        have Q1 := hide h3
        have B1 := hide h4
        clear h1 h2 h3 h4
        have KO := hide (fun w => turn_off D (upTo k) (upTo_in k).1 (upTo_in k).2 w)
        by_cases hlt : k < N
        · have KI := hide (fun w => turn_on D (upTo k) (upTo_in k).1 (upTo_in k).2 w)
          rw [upTo_next] at KI
          generalize upTo k = j at *
          generalize hj1 : upTo (k + 1) = j1 at *
          replace hj1 := hide hj1
          go_wp2_with (first
            | (refine wpList_load_row rfl 23 (.tmp 3) rfl s0 rfl _ _ _ _ P1.out Try.underlying23 rfl (by kernel_rfl) ?_))
          refine (KO.out _).mono ?_
          rintro e w2 ⟨rfl, b2⟩
          go_wp2_with fail
          refine (KI.out _).mono ?_
          rintro e w3 ⟨rfl, b3⟩
          have P3 := hide ((P1.out.next b2).next b3)
          have Q3 := hide ((Q1.out.next b2).next b3)
          have N3 := hide ((N1.out.next b2).next b3)
          have B3 := hide (bnext (bnext B1.out b2) b3)
          clear b2 b3 P1 Q1 B1 N1 KO KI
          go_wp2_with (first
            | (refine wpList_store_row rfl 23 (.tmp 3) (.tmp 36) rfl s0 _ rfl rfl 23 _ P3.out (by kernel_rfl) rfl (by kernel_rfl) ?_
               refine under_list fun w4 hw4 => ?_
               have P4 : Hid (HasP 23 w4 s0 true false D j1) := hide (by rw [hw4]; exact setRow_heap _ _ _ _ _ _ P3.out)
               have Q4 : Hid (HasF 26 w4 (s0 + 2) 10 (pc (tk f 5) nof)) := hide (by rw [hw4]; exact Q3.out.row _ (by omega))
               have N4 : Hid (HasF 35 w4 (s0 + 1) 5 (iv f)) := hide (by rw [hw4]; exact N3.out.row _ (by omega))
               have B4 : Hid (Below w.heap.size w w4) := hide (by rw [hw4]; exact below_setRow B3.out (by have := HS.out; omega) _)
               clear hw4 P3 Q3 B3 N3))
          rw [← hj1.out] at P4
          exact ⟨⟨k + 1, by omega, by go_num, P4.out, N4.out, Q4.out, B4.out⟩, by simp [intOf]; omega⟩
        · obtain rfl : k = N := by omega
          clear hlt hk
          obtain ⟨F, hF⟩ : ∃ F : Bool → Int, ∀ s, rdOf s D (upTo k) (tk f 5) nof false = F s := ⟨fun s => rdOf s D (upTo k) (tk f 5) nof false, fun _ => rfl⟩
          have KR : Hid (∀ (s : Bool) (w : World), Calls Try.prog 9 #[.agg #[.bool s, .bool false, .bool D, .int .i64 (upTo k)], .agg (rowF (pc (tk f 5) nof) 10), .bool false] w fun e w' => e = Ending.returned (.int .i64 (F s)) ∧ Below w.heap.size w w') := hide (fun s w => by rw [← hF s]; exact read_any s false D (upTo k) (tk f 5) nof false w)
          by_cases h5 : k < 5
          · have hu : upTo k = k := by unfold upTo; omega
            have ha : ∀ s, F s = 255 - askOf s D (f k) false := fun s => by
              rw [← hF s, hu]
              unfold rdOf preOf
              rw [if_pos (show (0 : Int) ≤ (k : Int) ∧ (k : Int) < 5 by omega)]
              simp [tk, nof, h5]
            have f1 : bits .or .i64 240 (bits .andNot .i64 15 (f k / 16)) = F true := by
              rw [or_240, ha]
              simp only [askOf, Bool.and_false, Bool.false_eq_true, if_false, if_true]
              omega
            have f0 : bits .or .i64 240 (bits .andNot .i64 15 (f k)) = F false := by
              rw [or_240, ha]
              simp only [askOf, Bool.and_false, Bool.false_eq_true, if_false, if_true]
              omega
            have ck := kept_cell (N1.out.int k h5) N1.out.lt
            clear hF ha hu
            have i0 := kept_cell P1.out.c0 P1.out.lt
            have i1 := kept_cell P1.out.c1 P1.out.lt
            have i2 := kept_cell P1.out.c2 P1.out.lt
            have i3 := kept_cell P1.out.c3 P1.out.lt
            have RQ := hide (Q1.out.range 0 10 (by decide))
            simp only [Nat.zero_add] at RQ
            have RI : Hid ((Try.prog.info? 26).map (·.size) = some (rowF (pc (tk f 5) nof) 10).size) := hide (by rw [rowF_size]; kernel_rfl)
            have HQ := hide Q1.out.lt
            clear P1 Q1 N1
            generalize rowF (pc (tk f 5) nof) 10 = R at *
            generalize upTo k = j at *
            go_wp2_with fail
            haveI := kept_some wr
            refine wp_region_kept (by kernel_rfl) (by kernel_rfl) ?_
            repeat (first
              | (refine wpQuiet_mid rfl 26 (.tmp 7) rfl (s0 + 2) 0 rfl R _ (fun w' ⟨x, hx⟩ => by rw [hx]; intro j v hv; rw [x.cell (s0 + 2) _ HQ.out]; exact RQ.out j v hv) Try.underlying26 rfl RI.out ?_; simp only [Act.put, List.setIfInBounds_toArray, List.set_cons_succ, List.set_cons_zero])
              | go_big_quiet_step ((first
                  | (go_at_call 9; exact kept_call (KR.out _ _))
                  | (go_at_call 7; exact kept_call (KO.out _)))))
            refine wpQuiet_nil ?_
            rintro _ ⟨wk, rfl⟩
            have yk := ck wk; clear ck
            clear i0 i1 i2 i3
            go_wp2
            go_ret
            exact ⟨by first | rfl | exact ret_bool (by simp), bnext B1.out wk.below⟩
          · have ha : ∀ s, F s = 255 := fun s => by
              rw [← hF s]
              unfold rdOf preOf
              rw [if_neg (show ¬ (0 ≤ upTo k ∧ upTo k < 5) by unfold upTo; omega)]
              rfl
            have f1 := ha true
            have f0 := ha false
            clear hF ha
            have i0 := kept_cell P1.out.c0 P1.out.lt
            have i1 := kept_cell P1.out.c1 P1.out.lt
            have i2 := kept_cell P1.out.c2 P1.out.lt
            have i3 := kept_cell P1.out.c3 P1.out.lt
            have RQ := hide (Q1.out.range 0 10 (by decide))
            simp only [Nat.zero_add] at RQ
            have RI : Hid ((Try.prog.info? 26).map (·.size) = some (rowF (pc (tk f 5) nof) 10).size) := hide (by rw [rowF_size]; kernel_rfl)
            have HQ := hide Q1.out.lt
            clear P1 Q1 N1
            generalize rowF (pc (tk f 5) nof) 10 = R at *
            generalize upTo k = j at *
            go_wp2_with fail
            haveI := kept_some wr
            refine wp_region_kept (by kernel_rfl) (by kernel_rfl) ?_
            repeat (first
              | (refine wpQuiet_mid rfl 26 (.tmp 7) rfl (s0 + 2) 0 rfl R _ (fun w' ⟨x, hx⟩ => by rw [hx]; intro j v hv; rw [x.cell (s0 + 2) _ HQ.out]; exact RQ.out j v hv) Try.underlying26 rfl RI.out ?_; simp only [Act.put, List.setIfInBounds_toArray, List.set_cons_succ, List.set_cons_zero])
              | go_big_quiet_step ((first
                  | (go_at_call 9; exact kept_call (KR.out _ _))
                  | (go_at_call 7; exact kept_call (KO.out _)))))
            refine wpQuiet_nil ?_
            rintro _ ⟨wk, rfl⟩
            skip
            clear i0 i1 i2 i3
            go_wp2
            go_ret
            exact ⟨by first | rfl | exact ret_bool (by simp), bnext B1.out wk.below⟩
theorem padTurns_walk (s c d : Bool) (i : Int) (z : List Int) (a : Int) (w0 : (Lit.int .i64 i).wf = true) (l1 : z.length = 5) (w1 : ∀ x ∈ z, (Lit.int .i64 x).wf = true) (w2 : (Lit.int .i64 a).wf = true) (w : World) :
    Calls Try.prog 4 #[.agg #[.bool s, .bool c, .bool d, .int .i64 i], .agg (z.map (Value.int .i64)).toArray, .int .i64 a] w fun e w' => e = .returned (.bool true) ∧ Below w.heap.size w w' := by
  rw [list_row z 5 l1]
  exact turns_go s c d i _ a w

set_option maxRecDepth 100000 in
theorem padTurns_lifted (os : Os) (started : os.Started) (H : Type) (enc : TypeId × Value → H) :
    ReturnsInHanded {} Try.checked os 4 .any (Rows.padTurnsSpec.pre6 enc Try.prog Try.f4 Rows.padTurnsRow.domain false) (Rows.padTurnsSpec.post enc Try.prog Try.f4 false true false false) := by
  refine returnsInHanded_of_change (C := Try.checked) own started (by kernel_rfl) Try.func4
    (ChangeSpec.witness6 (enc := enc) (C := Try.checked) false ⟨#[], #[.agg #[.bool false, .bool false, .bool false, .int .i64 0], .agg #[.int .i64 0, .int .i64 0, .int .i64 0, .int .i64 0, .int .i64 0], .int .i64 0], []⟩ 8 (by kernel_rfl) (by kernel_rfl) (by kernel_rfl) (by kernel_rfl)) ?_
  intro W base args ds gs before hval0 hW hcnd _
  have hval : ∀ (j : Nat) t v, Try.f4.params[j]? = some t → args[j]? = some v → Value.okWide Try.prog W .any base t v := hval0
  have hW' := hW
  obtain ⟨p, q, hA0, hV, rfl, hfz, hnd⟩ := hW
  have hA : DataW.TrodAll enc Try.prog W 0 (fun _ => true) true Try.f4.params.toList args.toList ds p := hA0
  rw [Try.params4] at hA hval
  obtain ⟨v0, vs0, d0, ds0, p0, q0, hargs, rfl, rfl, h0, r0⟩ := trodAll_cons hA
  obtain ⟨v1, vs1, d1, ds1, p1, q1, rfl, rfl, rfl, h1, r1⟩ := trodAll_cons r0
  obtain ⟨v2, vs2, d2, ds2, p2, q2, rfl, rfl, rfl, h2, r2⟩ := trodAll_cons r1
  obtain ⟨rfl, rfl, rfl⟩ := trodAll_nil r2
  obtain rfl : args = #[v0, v1, v2] := by cases args; simp_all
  obtain ⟨rfl, rfl⟩ := trodVars_none hV
  have k0 := h0
  have lt0 : ∀ x ∈ p0, x.block < W.heap.size := by obtain ⟨m, hm⟩ := k0; exact DataW.trod_lt m _ _ _ hm
  obtain ⟨cs0, fu0, rfl, sz0, hf0⟩ := open_struct_cells (n := 4) Try.underlying23 (by kernel_rfl) (hval 0 23 v0 rfl rfl) h0
  obtain ⟨y0f0, hy0f0⟩ := hf0 0 _ rfl
  obtain ⟨a0f0, g0f0, _⟩ := DataW.trod_bool Try.underlying4 hy0f0
  have e0f0 := cell_at (by kernel_rfl) g0f0
  obtain ⟨y0f1, hy0f1⟩ := hf0 1 _ rfl
  obtain ⟨a0f1, g0f1, _⟩ := DataW.trod_bool Try.underlying4 hy0f1
  have e0f1 := cell_at (by kernel_rfl) g0f1
  obtain ⟨y0f2, hy0f2⟩ := hf0 2 _ rfl
  obtain ⟨a0f2, g0f2, _⟩ := DataW.trod_bool Try.underlying4 hy0f2
  have e0f2 := cell_at (by kernel_rfl) g0f2
  obtain ⟨y0f3, hy0f3⟩ := hf0 3 _ rfl
  obtain ⟨a0f3, g0f3, _, w0f3⟩ := DataW.trod_int Try.underlying3 hy0f3
  have e0f3 := cell_at (by kernel_rfl) g0f3
  obtain rfl : cs0 = #[.bool a0f0, .bool a0f1, .bool a0f2, .int .i64 a0f3] := cells_are [.bool a0f0, .bool a0f1, .bool a0f2, .int .i64 a0f3] sz0 (fun j hj => by
    rcases j with _ | _ | _ | _ | j
    · exact e0f0
    · exact e0f1
    · exact e0f2
    · exact e0f3
    · exact absurd hj (by simp only [List.length_cons, List.length_nil]; omega))
  clear hy0f0 g0f0 e0f0 hy0f1 g0f1 e0f1 hy0f2 g0f2 e0f2 hy0f3 g0f3 e0f3 sz0 hf0
  have k1 := h1
  have lt1 : ∀ x ∈ p1, x.block < W.heap.size := by obtain ⟨m, hm⟩ := k1; exact DataW.trod_lt m _ _ _ hm
  obtain ⟨z1, l1, rfl, w1⟩ := open_array_ints Try.underlying35 Try.underlying3 (by kernel_rfl) (by kernel_rfl) (hval 1 35 v1 rfl rfl) h1
  obtain ⟨a2, rfl, rfl, rfl, w2⟩ := open_int Try.underlying3 (hval 2 3 v2 rfl rfl) h2
  clear hA0 hval0
  refine (padTurns_walk a0f0 a0f1 a0f2 a0f3 z1 a2 w0f3 l1 w1 w2 W).mono fun e W' ⟨he, bel⟩ => ?_
  subst he
  exact ⟨_, rfl, _, _, _, [], _, [], hW', trodAll_mk1 (shut_bool Try.underlying4 _), (trodAll_cons_mk (Below.trod laidOut (by kernel_rfl) (of_decide_eq_true (by kernel_rfl)) k0 bel lt0) (trodAll_cons_mk (Below.trod laidOut (by kernel_rfl) (of_decide_eq_true (by kernel_rfl)) k1 bel lt1) (trodAll_cons_mk (shut_int Try.underlying3 w2) trodAll_mk0))), rfl, bel.frame _, fun h => by cases h⟩

theorem padTurns_over : Rows.padTurnsRow.holds Try.pinned (OpenSpec.ofChange Rows.padTurnsSpec) :=
  OpenClaim.holds_of_wide 4 Try.f4 rfl rfl rfl rfl rfl rfl rfl ⟨rfl, rfl, rfl, rfl, rfl⟩ rfl rfl rfl rfl rfl (by kernel_rfl) Try.func4 (by kernel_rfl)
    (of_decide_eq_true (by kernel_rfl)) (by unfold Func.isWrapper; first | (rw [if_pos (by decide +kernel)]; kernel_rfl) | (rw [if_neg (by decide +kernel)]; exact ⟨rfl, rfl⟩))
    (fun os started H enc _ => padTurns_lifted os started H enc)

theorem padTurns_holds : Rows.PadTurnsSaid := padTurns_over
#print axioms padTurns_holds
end Go.Proofs.Ytliedfjaeakgeaa
