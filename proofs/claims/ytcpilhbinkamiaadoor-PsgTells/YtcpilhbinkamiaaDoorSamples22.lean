/- Package psg: Samples, walked. -/
import Derived.Test.YtcpilhbinkamiaaDoorSamp22
namespace Go.Proofs.YtcpilhbinkamiaaDoor
open Go.RowKit
set_option linter.unusedVariables false

theorem info_2 : (Tryd.prog.info? 40).map (·.size) = some 2 := by kernel_rfl
def pairV (x y : Int) (j : Nat) : Value := if j = 0 then .int .i64 x else .int .i64 y
theorem pairV_one (x y : Int) (j : Nat) : (pairV x y j).oneCell' = true := by unfold pairV; split <;> rfl
theorem pair_row (x y : Int) : Value.agg #[.int .i64 x, .int .i64 y] = .agg (rowF (pairV x y) 2) := rfl
theorem smpTo_nx (f : Nat → Int) (k N : Nat) : ∀ j, j < N * 2 → (if k * 2 ≤ j ∧ j < k * 2 + 2 then pairV (leftOf (itF f (k + 1))) (rightOf (itF f (k + 1))) (j - k * 2) else iv (smpTo f k) j) = iv (smpTo f (k + 1)) j := smpTo_next f k N
def back40 (f F : Nat → Int) (k : Nat) : Nat → Int := fun j => if j = 37 then accs f k else ch F k j
theorem back_cells {f F P : Nat → Int} {k : Nat} : ∀ j, j < 40 → vrow F (accs f) P (k * 48 + 2 + j) = iv (back40 f F k) j := fun j hj => by
  rw [show k * 48 + 2 + j = k * 48 + (2 + j) by omega, vrow_at _ _ _ _ _ (by omega)]
  unfold vAt iv back40
  rw [if_neg (by omega), if_neg (by omega), if_pos (by omega), show 2 + j - 2 = j by omega]
  by_cases e : j = 37
  · rw [if_pos (by omega), if_pos e]
  · rw [if_neg (by omega), if_neg e]
theorem back_part (f F : Nat → Int) (j : Nat) : ∀ i, i < 244 → (if 4 + j * 40 ≤ i ∧ i < 4 + j * 40 + 40 then iv (back40 f F j) (i - (4 + j * 40)) else iv (backTo F f j) i) = iv (fun i => if 4 + j * 40 ≤ i ∧ i < 4 + j * 40 + 40 then (if i - (4 + j * 40) = 37 then accs f j else ch F j (i - (4 + j * 40))) else backTo F f j i) i := fun i _ => by
  unfold iv back40
  dsimp only
  split <;> rfl
def Rest (w w' : World) (s0 vb g N : Nat) (f F : Nat → Int) (k : Nat) : Prop := (∃ P, Pers F P ∧ HasF 53 w' vb 288 (vrow F (accs f) P)) ∧ HasF 40 w' g (N * 2) (iv (smpTo f k)) ∧ HasF 27 w' s0 244 (iv f) ∧ HasF 27 w' (s0 + 1) 244 (iv fun _ => 0) ∧ Below s0 w w'
set_option maxHeartbeats 4000000 in
theorem samples_any (f : Nat → Int) (N : Nat) (n1 : 1 ≤ N) (n2 : N ≤ 65536) (ok : okP f) (w : World) (hL : HasLevels w) : Calls Tryd.prog 8 #[.agg (rowF (iv f) 244), .int .i64 (N : Int)] w fun e w' => ∃ g, e = Ending.returned (.tuple #[.slice (some ⟨g, 0, none⟩) N N, .agg (rowF (iv (itF f N)) 244)]) ∧ HasF 40 w' g (N * 2) (iv (smp f)) ∧ Below w.heap.size w w' := by
  have KV := hide (fun w => valid_any f w)
  rw [(vB_iff f).1 ok] at KV
  have HL := hide hL
  have OK := hide ok
  have P0 := hide (hasF_new 27 w 244 (iv f))
  clear ok hL
  have hmk := make_samples N n2
  have hd1 : decide ((N : Int) < 1) = false := by simp; omega
  have hd2 : decide (65536 < (N : Int)) = false := by simp; omega
  go_enter Tryd.func8, Tryd.ntmps8
  set_option maxRecDepth 20000 in
  go_wp2_with (first
    | (refine wpList_alloced rfl 27 rfl (rowF (iv fun _ => 0) 244) zero_P ?_)
    | (refine wpList_alloced rfl 53 rfl (rowF zV 288) zero_V ?_)
    | (refine under_list fun w1 hw1 => ?_; obtain ⟨n0, n1, n2, n3⟩ := two_named hw1; have P1 : Hid (HasF 27 w1 w.heap.size 244 (iv f)) := hide n0; have Z1 : Hid (HasF 27 w1 (w.heap.size + 1) 244 (iv fun _ => 0)) := hide n1; have B1 := hide n3; clear n0 n1 n2 n3 hw1 P0; refine wpList_load_row rfl 27 (.tmp 2) rfl w.heap.size rfl _ _ _ _ P1.out Tryd.underlying27 rfl (info_P _) ?_)
    | (go_at_call 13; refine (KV.out _).mono ?_; rintro e w2 ⟨rfl, b2⟩; have P2 := hide (P1.out.next b2); have Z2 := hide (Z1.out.next b2); have B2 := hide (bnext B1.out b2); clear b2 P1 Z1 B1)
    | (go_at_call 16; refine (voices_any P2.out (HL.out.next B2.out) OK.out).mono ?_; rintro e w3 ⟨P, hP, rfl, b3⟩; have P3 := hide (P2.out.next b3); have Z3 := hide (Z2.out.next b3); have B3 := hide (bnext B2.out b3); have PP := hide hP; have LV0 := hide B3.out.size; clear b3 P2 Z2 B2 hP)
    | (refine wpList_store_row rfl 53 (.tmp 6) (.tmp 23) rfl w3.heap.size _ (by simp [Act.eval, Act.put]) rfl 53 _ (hasF_new _ _ _ _) (info_V _) (by rw [rowF_size, rowF_size]) (rowF_all (N := 288) fun j _ => vAt_one f _ _ (j / 48) (j % 48)) ?_; refine under_list fun w4 hw4 => ?_; have V4 : Hid (HasF 53 w4 w3.heap.size 288 (vrow f (accs f) P)) := hide (by rw [hw4]; exact setRow_heap _ _ _ _ _ _ (hasF_new _ _ _ _)); have W4 : Hid (Below w3.heap.size w3 w4) := hide (by rw [hw4]; exact below_setRow ((Below.refl _ _).alloc (Nat.le_refl _) _) (Nat.le_refl _) _); have P4 := hide (P3.out.next W4.out); have Z4 := hide (Z3.out.next W4.out); have B4 := hide (bnext B3.out W4.out); clear hw4 W4 P3 Z3 B3)
    | (go_at_call 17; refine (lfo_any P4.out OK.out).mono ?_; rintro e w' ⟨rfl, hw⟩; subst w'))
  refine under_name fun w5 hw5 => ?_
  have G5 : Hid (HasF 40 w5 w4.heap.size (N * 2) (iv (smpTo f 0))) := hide (by rw [hw5]; exact (hasF_new _ _ _ _).ext (fun j _ => by unfold iv smpTo; rw [if_neg (by omega)]))
  have W5 : Below w4.heap.size w4 w5 := by rw [hw5]; exact (Below.refl _ _).alloc (Nat.le_refl _) _
  have V5 := hide (V4.out.next W5)
  have P5 := hide (P4.out.next W5)
  have Z5 := hide (Z4.out.next W5)
  have B5 := hide (bnext B4.out W5)
  have LG : w.heap.size ≤ w4.heap.size := B4.out.size
  have LV : w.heap.size ≤ w3.heap.size := LV0.out
  clear hw5 W5 V4 P4 Z4 B4 hmk KV LV0
  generalize w3.heap.size = vb at *
  generalize w4.heap.size = g at *
  obtain ⟨s0, hs0⟩ : ∃ s, w.heap.size = s := ⟨_, rfl⟩
  rw [hs0] at P5 Z5 B5 LG LV ⊢
  have S0 : Hid (s0 ≤ w.heap.size) := hide (by omega)
  replace LG := hide LG
  replace LV := hide LV
  go_loopw [29] (fun i w' => ∃ k : Nat, k ≤ N ∧ i = .int .i64 k ∧ Rest w w' s0 vb g N f (itF f k) k) (fun i _ => N - (intOf i).toNat)
  case atStart => exact ⟨0, Nat.zero_le _, rfl, ⟨P, PP.out, V5.out⟩, G5.out, P5.out, Z5.out, B5.out⟩
  case round =>
    clear V5 G5 P5 Z5 B5 PP
    obtain ⟨k, hk, rfl, ⟨P1, hP1, hV1⟩, hG1, hQ1, hZ1, hB1⟩ := hrel
    have V1 := hide hV1
    have G1 := hide hG1
    have Q1 := hide hQ1
    have Z1 := hide hZ1
    have B1 := hide hB1
    by_cases hlt : k < N
    · have KG := hide (goOn_any hV1 (okP_it OK.out k) hP1)
      have OK2 : Hid (okP (itF f (k + 1))) := hide (okP_it OK.out (k + 1))
      rw [(alike_it f k).lfo, show stepF (itF f k) = itF f (k + 1) from rfl] at KG
      have NX := hide (smpTo_nx f k N)
      clear hV1 hP1 hG1 hQ1 hZ1 hB1
      obtain ⟨F1, hF1⟩ : ∃ F, itF f (k + 1) = F := ⟨_, rfl⟩
      rw [hF1] at KG OK2 NX
      replace hF1 := hide hF1
      set_option maxRecDepth 20000 in
      go_wp2_with (first
        | (go_at_call 18; refine KG.out.mono ?_; rintro e w2 ⟨rfl, P2, hV2, hP2, b2⟩; have V2 := hide hV2; have E2 := hide hP2; have G2 := hide (b2.keep G1.out (types_two G1.out V1.out (by decide))); have Q2 := hide (b2.keep Q1.out (types_two Q1.out V1.out (by decide))); have Z2 := hide (b2.keep Z1.out (types_two Z1.out V1.out (by decide))); have B2 := hide (bbut B1.out b2 LV.out S0.out); clear hV2 hP2 b2 V1 G1 Q1 Z1 B1 KG)
        | (go_at_call 19; refine (sum_any V2.out OK2.out).mono ?_; rintro e w3 ⟨rfl, b3⟩; have V3 := hide (V2.out.next b3); have G3 := hide (G2.out.next b3); have Q3 := hide (Q2.out.next b3); have Z3 := hide (Z2.out.next b3); have B3 := hide (bnext2 B2.out S0.out b3); clear b3 V2 G2 Q2 Z2 B2)
        | (refine wpList_store_part rfl 40 (.tmp 37) (.tmp 36) rfl g (k * 2) 2 (pairV (leftOf F1) (rightOf F1)) rfl (pair_row _ _) G3.out (by omega) info_2 (fun j _ => pairV_one _ _ j) ?_; refine under_list fun w6 hw6 => ?_; have b6 : But g w3 w6 := (by rw [hw6]; exact But.cells _ _ _ (But.refl _ _)); have G6 : Hid (HasF 40 w6 g (N * 2) (iv (smpTo f (k + 1)))) := hide (by rw [hw6]; exact (G3.out.cells _ _ _).ext NX.out); have V6 := hide (b6.keep V3.out (types_two V3.out G3.out (by decide))); have Q6 := hide (b6.keep Q3.out (types_two Q3.out G3.out (by decide))); have Z6 := hide (b6.keep Z3.out (types_two Z3.out G3.out (by decide))); have B6 := hide (bbut B3.out b6 LG.out S0.out); clear b6 hw6 V3 G3 Q3 Z3 B3))
      exact ⟨⟨k + 1, by omega, by go_num, by rw [hF1.out]; exact ⟨⟨P2, E2.out, V6.out⟩, G6.out, Q6.out, Z6.out, B6.out⟩⟩, by simp [intOf]; omega⟩
    · obtain rfl : k = N := by omega
      have AL := alike_it f k
      have G2 : Hid (HasF 40 wr g (k * 2) (iv (smp f))) := hide (hG1.ext fun j hj => by unfold iv smpTo; rw [if_pos hj])
      have Q2 : Hid (HasF 27 wr s0 244 (iv (backTo (itF f k) f 0))) := hide (by rw [back_0 AL]; exact hQ1)
      clear hV1 hP1 hG1 hQ1 hZ1 hB1 G1 Q1 AL
      obtain ⟨F, hF⟩ : ∃ F, itF f k = F := ⟨_, rfl⟩
      rw [hF] at V1 Q2
      replace hF := hide hF
      set_option maxRecDepth 20000 in
      go_wp2_with fail
      go_loopw [39] (fun i w' => ∃ j : Nat, j ≤ 6 ∧ i = .int .i64 j ∧ HasF 53 w' vb 288 (vrow F (accs f) P1) ∧ HasF 40 w' g (k * 2) (iv (smp f)) ∧ HasF 27 w' s0 244 (iv (backTo F f j)) ∧ HasF 27 w' (s0 + 1) 244 (iv fun _ => 0) ∧ Below s0 w w') (fun i _ => 6 - (intOf i).toNat)
      case atStart => exact ⟨0, by decide, rfl, V1.out, G2.out, Q2.out, Z1.out, B1.out⟩
      case round =>
        clear V1 G2 Q2 Z1 B1
        obtain ⟨j, hj, rfl, hV, hG, hQ, hZ, hB⟩ := hrel
        have V1 := hide hV
        have G1 := hide hG
        have Q1 := hide hQ
        have Z1 := hide hZ
        have B1 := hide hB
        clear hV hG hQ hZ hB
        by_cases hlt6 : j < 6
        · have NVS : Hid (vb ≠ s0) := hide (types_two V1.out Q1.out (by decide))
          have NGS : Hid (g ≠ s0) := hide (types_two G1.out Q1.out (by decide))
          have CB : Hid (∀ (u : World), HasF 27 u s0 244 (iv fun i => if 4 + j * 40 ≤ i ∧ i < 4 + j * 40 + 40 then (if i - (4 + j * 40) = 37 then accs f j else ch F j (i - (4 + j * 40))) else backTo F f j i) → HasF 27 (u.setCell ⟨s0, 4 + j * 40 + 37, none⟩ (.int .i64 (ch F j 37))) s0 244 (iv (backTo F f (j + 1)))) := hide (fun u hu => (hu.up _ _).ext (back_next F f (accs f j) j))
          set_option maxRecDepth 20000 in
          go_wp2_with (first
            | (refine wpList_load_part rfl 24 (.tmp 45) rfl vb (j * 48 + 2) rfl V1.out 40 (by omega) (iv (back40 f F j)) back_cells _ Tryd.underlying24 rfl info_40 ?_)
            | (refine wpList_store_part rfl 24 (.tmp 48) (.tmp 46) rfl s0 (4 + j * 40) 40 (iv (back40 f F j)) rfl rfl Q1.out (by omega) info_40 (fun _ _ => rfl) ?_; refine under_list fun w6 hw6 => ?_; have b6 : But s0 wr w6 := (by rw [hw6]; exact But.cells _ _ _ (But.refl _ _)); have Q6 : Hid (HasF 27 w6 s0 244 (iv fun i => if 4 + j * 40 ≤ i ∧ i < 4 + j * 40 + 40 then (if i - (4 + j * 40) = 37 then accs f j else ch F j (i - (4 + j * 40))) else backTo F f j i)) := hide (by rw [hw6]; exact (Q1.out.cells _ _ _).ext (back_part f F j)); have V6 := hide (b6.keep V1.out NVS.out); have G6 := hide (b6.keep G1.out NGS.out); have Z6 := hide (b6.keep Z1.out (Nat.succ_ne_self _)); have B6 := hide (bbut B1.out b6 (Nat.le_refl _) S0.out); have ct := v_ticks V6.out hlt6; have fz := Q6.out.frozen (4 + j * 40 + 37); have cz := Q6.out.int (4 + j * 40 + 37) (by omega); clear b6 hw6 V1 G1 Q1 Z1 B1))
          exact ⟨⟨j + 1, by omega, by go_num, V6.out.other _ _ NVS.out, G6.out.other _ _ NGS.out, CB.out _ Q6.out, Z6.out.other _ _ (Nat.succ_ne_self _), set_below B6.out (Nat.le_refl _) _ _⟩, by simp [intOf]; omega⟩
        · obtain rfl : j = 6 := by omega
          set_option maxRecDepth 20000 in
          go_wp2_with fail
          have Q2 : Hid (HasF 27 wr s0 244 (iv F)) := hide (by rw [HasF, ← back_6 F f]; exact Q1.out)
          haveI := kept_some wr
          refine wp_region_kept_last _ _ (show _ = [_, _, _] ++ [_] from rfl) (by kernel_rfl) (by kernel_rfl) (by kernel_rfl) ?_
          repeat (first
            | (refine wpQuiet_row rfl 27 (.tmp 2) rfl s0 rfl 27 _ (0, 0) _ (fun w' ⟨x, hx⟩ => by rw [hx]; exact (x.block _ Q2.out.lt).trans Q2.out) Tryd.underlying27 rfl (info_P _) ?_; simp only [Act.put, List.setIfInBounds_toArray, List.set_cons_succ, List.set_cons_zero])
            | go_big_quiet_step (fail))
          refine wpQuiet_nil ?_
          rintro _ ⟨wk, rfl⟩
          have Z3 := hide (Z1.out.next wk.below)
          have G3 := hide (G1.out.next wk.below)
          have B3 := hide (bnext2 B1.out S0.out wk.below)
          set_option maxRecDepth 20000 in
          go_wp2_with (first
            | (refine wpList_store_row rfl 27 (.tmp 5) (.tmp 60) rfl (s0 + 1) _ rfl rfl 27 _ Z3.out (info_P _) (by rw [rowF_size, rowF_size]) (rowF_one _ _) ?_))
          refine bodyPost_ret (results_tmp_agg rfl _ _ (s0 + 1) 27 _ (0, 0) _ rfl (setRow_heap _ _ _ _ _ _ Z3.out) Tryd.underlying27 rfl (info_P _)) rfl ?_
          exact ⟨g, by rw [hF.out]; rfl, G3.out.row _ (types_two G3.out Z3.out (by decide)), by rw [hs0]; exact below_setRow B3.out (Nat.le_succ _) _⟩
end Go.Proofs.YtcpilhbinkamiaaDoor
