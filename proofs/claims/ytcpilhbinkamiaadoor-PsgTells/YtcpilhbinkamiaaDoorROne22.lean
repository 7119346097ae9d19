/- The document's own: a sample. -/
import Derived.Test.YtcpilhbinkamiaaDoorROnK22
import Derived.Test.YtcpilhbinkamiaaDoorRef20
namespace Go.Proofs.YtcpilhbinkamiaaDoor
open Go.RowKit
set_option linter.unusedVariables false

/-- The channels from the third on. -/
def tailF (f : Nat → Int) : Nat → Nat → Int
  | 0 => f
  | j + 1 => onK (tailF f j) (j + 2)
theorem tail_ok {f : Nat → Int} (h : okP f) : ∀ j, j ≤ 4 → okP (tailF f j)
  | 0, _ => h
  | j + 1, hj => okP_onK (tail_ok h j (by omega)) (by omega)
theorem stepF_tail (f : Nat → Int) : stepF f = tailF (onK (onK f 1) 0) 4 := rfl
theorem results_three {P : Program} {fn : Func} {p u v : Tmp} {ty : TypeId} (h : fn.results = #[.tmp u, .tmp v, .cell p ty]) (tmps : Array Value) (w : World) (g : Nat) (t : TypeId) (cs : Array Value) (fr : Nat × Nat) (d : TypeDesc)
    (hp : tmps.getD p undef = .pointer (some ⟨g, 0, none⟩)) (hg : w.heap[g]? = some (.cells cs t fr))
    (hu : P.underlying ty = some d) (hd : (match d with | .struct _ | .array _ _ => true | _ => false) = true) (hi : (P.info? ty).map (·.size) = some cs.size) :
    (results fn tmps).run P w = .ok (.tuple #[tmps.getD u undef, tmps.getD v undef, .agg cs]) w := by
  have hp' : tmps[p]?.getD undef = .pointer (some ⟨g, 0, none⟩) := by simpa using hp
  simp [results, h, hp', asAddr, run_loadVar_row w g t ty cs fr d hg hu hd hi]
theorem tail_next {f : Nat → Int} {k : Nat} (h : 2 ≤ k) : tailF f (k + 1 - 2) = onK (tailF f (k - 2)) k := by
  obtain ⟨j, rfl⟩ : ∃ j, k = j + 2 := ⟨k - 2, by omega⟩
  rw [show j + 2 + 1 - 2 = j + 1 by omega, show j + 2 - 2 = j by omega]
  rfl
set_option maxHeartbeats 8000000 in
theorem rone_any (f : Nat → Int) (ok : okP f) (w : World) : Calls Tryd.prog 12 #[.agg (rowF (iv f) 244)] w fun e w' => e = Ending.returned (.tuple #[.int .i64 (leftOf (stepF f)), .int .i64 (rightOf (stepF f)), .agg (rowF (iv (stepF f)) 244)]) ∧ Below w.heap.size w w' := by
  have K1 : Hid (∀ u : World, Calls Tryd.prog 21 #[.agg (rowF (iv f) 244), .int .i64 1] u fun e w' => e = Ending.returned (.agg (rowF (iv (onK f 1)) 244)) ∧ Below u.heap.size u w') := hide (fun u => ron_any f ok 1 (by decide) u)
  have ok1 := okP_onK ok (k := 1) (by decide)
  have K2 : Hid (∀ u : World, Calls Tryd.prog 21 #[.agg (rowF (iv (onK f 1)) 244), .int .i64 0] u fun e w' => e = Ending.returned (.agg (rowF (iv (onK (onK f 1) 0)) 244)) ∧ Below u.heap.size u w') := hide (fun u => ron_any (onK f 1) ok1 0 (by decide) u)
  have ok2 := okP_onK ok1 (k := 0) (by decide)
  have ST := hide (stepF_tail f)
  obtain ⟨f1, hf1⟩ : ∃ g, onK f 1 = g := ⟨_, rfl⟩
  rw [hf1] at K1 K2 ok2 ST
  obtain ⟨f2, hf2⟩ : ∃ g, onK f1 0 = g := ⟨_, rfl⟩
  rw [hf2] at K2 ok2 ST
  clear hf1 hf2 ok1 ok
  set_option maxRecDepth 20000 in
  go_enter Tryd.func12, Tryd.ntmps12
  set_option maxRecDepth 20000 in
  go_wp2_with (first
    | (refine wpList_alloced rfl 34 rfl (rowF (iv fun _ => 0) 244) zero_R ?_)
    | (refine under_list fun w1 hw1 => ?_; obtain ⟨n0, n1, n2, n3⟩ := two_named hw1; have P1 : Hid (HasF 34 w1 w.heap.size 244 (iv f)) := hide n0; have Z1 : Hid (HasF 34 w1 (w.heap.size + 1) 244 (iv fun _ => 0)) := hide n1; have B1 := hide n3; clear n0 n1 n2 n3 hw1; refine wpList_load_row rfl 34 (.tmp 1) rfl w.heap.size rfl _ _ _ _ P1.out Tryd.underlying34 rfl (info_R _) ?_))
  refine (K1.out _).mono ?_
  rintro e w2 ⟨rfl, c2⟩
  have P2 := hide (P1.out.next c2)
  have Z2 := hide (Z1.out.next c2)
  have B2 := hide (bnext B1.out c2)
  clear c2 P1 Z1 B1
  set_option maxRecDepth 20000 in
  go_wp2_with (first
    | (refine wpList_store_row rfl 34 (.tmp 1) (.tmp 12) rfl w.heap.size _ rfl rfl 34 _ P2.out (info_R _) (by rw [rowF_size, rowF_size]) (rowF_one _ _) ?_; refine under_list fun w3 hh => ?_; have P3 : Hid (HasF 34 w3 w.heap.size 244 (iv f1)) := hide (by rw [hh]; exact setRow_heap _ _ _ _ _ _ P2.out); have Z3 : Hid (HasF 34 w3 (w.heap.size + 1) 244 (iv fun _ => 0)) := hide (by rw [hh]; exact Z2.out.row _ (Nat.succ_ne_self _)); have B3 : Hid (Below w.heap.size w w3) := hide (by rw [hh]; exact below_setRow B2.out (Nat.le_refl _) _); clear hh P2 Z2 B2)
    | (refine wpList_load_row rfl 34 (.tmp 1) rfl w.heap.size rfl _ _ _ _ P3.out Tryd.underlying34 rfl (info_R _) ?_))
  refine (K2.out _).mono ?_
  rintro e w4 ⟨rfl, c4⟩
  have P2 := hide (P3.out.next c4)
  have Z2 := hide (Z3.out.next c4)
  have B2 := hide (bnext B3.out c4)
  clear c4 P3 Z3 B3
  set_option maxRecDepth 20000 in
  go_wp2_with (first
    | (refine wpList_store_row rfl 34 (.tmp 1) (.tmp 14) rfl w.heap.size _ rfl rfl 34 _ P2.out (info_R _) (by rw [rowF_size, rowF_size]) (rowF_one _ _) ?_; refine under_list fun w3 hh => ?_; have P3 : Hid (HasF 34 w3 w.heap.size 244 (iv f2)) := hide (by rw [hh]; exact setRow_heap _ _ _ _ _ _ P2.out); have Z3 : Hid (HasF 34 w3 (w.heap.size + 1) 244 (iv fun _ => 0)) := hide (by rw [hh]; exact Z2.out.row _ (Nat.succ_ne_self _)); have B3 : Hid (Below w.heap.size w w3) := hide (by rw [hh]; exact below_setRow B2.out (Nat.le_refl _) _); clear hh P2 Z2 B2))
  obtain ⟨s0, hs0⟩ : ∃ s, w.heap.size = s := ⟨_, rfl⟩
  rw [hs0] at P3 Z3 B3 ⊢
  have S0 : Hid (s0 ≤ w.heap.size) := hide (by omega)
  go_loopw [7] (fun v w' => ∃ k : Nat, 2 ≤ k ∧ k ≤ 6 ∧ v = .int .i64 k ∧ HasF 34 w' s0 244 (iv (tailF f2 (k - 2))) ∧ HasF 34 w' (s0 + 1) 244 (iv fun _ => 0) ∧ Below s0 w w') (fun v _ => 6 - (intOf v).toNat)
  case atStart => exact ⟨2, by decide, by decide, rfl, P3.out, Z3.out, B3.out⟩
  case round =>
    clear P3 Z3 B3
    obtain ⟨k, hk2, hk, rfl, h1, h2, h3⟩ := hrel
    have P1 := hide h1
    have Z1 := hide h2
    have B1 := hide h3
    clear h1 h2 h3
    by_cases hlt : k < 6
    · have KO := hide (fun u => ron_any (tailF f2 (k - 2)) (tail_ok ok2 (k - 2) (by omega)) k hlt u)
      have TN := hide (tail_next (f := f2) hk2)
      rw [← TN.out] at KO
      obtain ⟨g1, hg1⟩ : ∃ g, tailF f2 (k - 2) = g := ⟨_, rfl⟩
      rw [hg1] at KO P1
      obtain ⟨g2, hg2⟩ : ∃ g, tailF f2 (k + 1 - 2) = g := ⟨_, rfl⟩
      rw [hg2] at KO
      replace hg2 := hide hg2
      clear hg1 TN
      set_option maxRecDepth 20000 in
      go_wp2_with (first
        | (refine wpList_load_row rfl 34 (.tmp 1) rfl s0 rfl _ _ _ _ P1.out Tryd.underlying34 rfl (info_R _) ?_)
        | (go_at_call 21; refine (KO.out _).mono ?_; rintro e w2 ⟨rfl, c2⟩; have P2 := hide (P1.out.next c2); have Z2 := hide (Z1.out.next c2); have B2 := hide (bnext3 B1.out S0.out c2); clear c2 P1 Z1 B1)
        | (refine wpList_store_row rfl 34 (.tmp 1) (.tmp 21) rfl s0 _ rfl rfl 34 _ P2.out (info_R _) (by rw [rowF_size, rowF_size]) (rowF_one _ _) ?_; refine under_list fun w3 hh => ?_; have P3 : Hid (HasF 34 w3 s0 244 (iv g2)) := hide (by rw [hh]; exact setRow_heap _ _ _ _ _ _ P2.out); have Z3 : Hid (HasF 34 w3 (s0 + 1) 244 (iv fun _ => 0)) := hide (by rw [hh]; exact Z2.out.row _ (Nat.succ_ne_self _)); have B3 : Hid (Below s0 w w3) := hide (by rw [hh]; exact below_setRow B2.out (Nat.le_refl _) _); clear hh P2 Z2 B2))
      exact ⟨⟨k + 1, by omega, by omega, by go_num, by rw [hg2.out]; exact P3.out, Z3.out, B3.out⟩, by simp [intOf]; omega⟩
    · obtain rfl : k = 6 := by omega
      have okF := tail_ok ok2 4 (by decide)
      have P2 : Hid (HasF 34 wr s0 244 (iv (tailF f2 4))) := P1
      rw [← ST.out] at P2 okF
      obtain ⟨F, hF⟩ : ∃ F, stepF f = F := ⟨_, rfl⟩
      rw [hF] at P2 okF
      replace hF := hide hF
      clear ST P1 ok2
      set_option maxRecDepth 20000 in
      go_wp2_with fail
      rw [show (((6 : Nat) : Int)) = 6 from rfl]
      go_loopw [5, 6, 8] (fun a b v w' => ∃ k : Nat, k ≤ 6 ∧ a = .int .i64 (sumTo (leftK F) k) ∧ b = .int .i64 (sumTo (rightK F) k) ∧ v = .int .i64 k ∧ HasF 34 w' s0 244 (iv F) ∧ HasF 34 w' (s0 + 1) 244 (iv fun _ => 0) ∧ Below s0 w w') (fun _ _ v _ => 6 - (intOf v).toNat)
      case atStart => exact ⟨0, by decide, rfl, rfl, rfl, P2.out, Z1.out, B1.out⟩
      case round =>
        clear P2 Z1 B1
        obtain ⟨k, hk, rfl, rfl, rfl, h1, h2, h3⟩ := hrel
        have P1 := hide h1
        have Z1 := hide h2
        have B1 := hide h3
        clear h1 h2 h3
        by_cases hlt : k < 6
        · obtain ⟨x0, x1, x2, x3, x4, x5, x6, x7, x8⟩ := okF.chan hlt
          have hl := lfoOf_in okF
          have m1 := okF.2.1
          have KL := hide (fun w => rlfo_any F okF.2.2.2.1.1 w)
          have KN := hide (fun w => rnoisy_any F k hlt w)
          by_cases hso : ch F k 1 < 128
          · have hh : heOf F k = false := by unfold heOf soOf; simp; omega
            have E1 : Hid (sumTo (leftK F) (k + 1) = sumTo (leftK F) k) := hide (by simp only [sumTo, leftK, hh]; simp)
            have E2 : Hid (sumTo (rightK F) (k + 1) = sumTo (rightK F) k) := hide (by simp only [sumTo, rightK, hh]; simp)
            set_option maxRecDepth 20000 in
            go_wp2_with (first
              | (refine wpList_load_ints rfl 31 (.tmp 28) rfl s0 (4 + k * 40) rfl P1.out 40 (by omega) _ Tryd.underlying31 rfl info_D40 ?_)
              | (refine wpList_alloced rfl 31 rfl (rowF (iv fun _ => 0) 40) zero_D ?_)
              | (refine wpList_store_row rfl 31 (.tmp 9) (.tmp 29) rfl wr.heap.size (rowF (iv (ch F k)) 40) (by simp [Act.eval, Act.put]) rfl 31 _ (hasF_new _ _ _ _) (info_D _) (by rw [rowF_size, rowF_size]) (rowF_one _ _) ?_; refine under_list fun w2 hh => ?_; have C2 : Hid (HasF 31 w2 wr.heap.size 40 (iv (ch F k))) := hide (by rw [hh]; exact setRow_heap _ _ _ _ _ _ (hasF_new _ _ _ _)); have W2 : Below wr.heap.size wr w2 := (by rw [hh]; exact below_setRow ((Below.refl _ _).alloc (Nat.le_refl _) _) (Nat.le_refl _) _); have P2 := hide (P1.out.next W2); have Z2 := hide (Z1.out.next W2); have B2 := hide (bnext3 B1.out S0.out W2); have y1 := C2.out.int 1 (by decide); have y2 := C2.out.int 2 (by decide); have y36 := C2.out.int 36 (by decide); have y38 := C2.out.int 38 (by decide); have y39 := C2.out.int 39 (by decide); have yw := C2.out.int (4 + (ch F k 36).toNat) (by omega); have ym := P2.out.int 1 (by decide); clear hh W2 P1 Z1 B1)
              | (refine wpList_load_want rfl 34 (.tmp 1) rfl s0 rfl _ _ _ _ P2.out Tryd.underlying34 rfl (info_R _) ?_)
              | (go_at_call 22; refine (KL.out _).mono ?_; rintro e w7 ⟨rfl, c7⟩; replace C2 := hide (C2.out.next c7); replace P2 := hide (P2.out.next c7); replace Z2 := hide (Z2.out.next c7); replace B2 := hide (bnext3 B2.out S0.out c7); have y1 := C2.out.int 1 (by decide); have y2 := C2.out.int 2 (by decide); have y36 := C2.out.int 36 (by decide); have y38 := C2.out.int 38 (by decide); have y39 := C2.out.int 39 (by decide); have yw := C2.out.int (4 + (ch F k 36).toNat) (by omega); have ym := P2.out.int 1 (by decide); clear c7))
            exact ⟨⟨k + 1, by omega, by rw [E1.out], by rw [E2.out], by go_num, P2.out, Z2.out, B2.out⟩, by simp [intOf]; omega⟩
          · have hs : 128 ≤ ch F k 1 := by omega
            by_cases h1 : k = 1
            · have d1 : ((k : Int) == 1) = true := by simp [h1]
              by_cases h0 : lfoOf F = 0
              · have hh : heOf F k = true := by unfold heOf soOf; simp [hs, h0]
                rw [h0] at KL
                replace h1 := hide h1
                replace h0 := hide h0
                have E1 : Hid (sumTo (leftK F) (k + 1) = sumTo (leftK F) k + (valK F k - 16) * gainOf (ch F k 1) (ch F k 2 / 16) (F 1 / 16)) := hide (by simp only [sumTo, leftK, hh, glOf]; simp)
                have E2 : Hid (sumTo (rightK F) (k + 1) = sumTo (rightK F) k + (valK F k - 16) * gainOf (ch F k 1) (ch F k 2 % 16) (F 1 % 16)) := hide (by simp only [sumTo, rightK, hh, grOf]; simp)
                have v0 := valK_in okF hlt
                have gl0 := gain_in (ch F k 1) (ch F k 2 / 16) (F 1 / 16)
                have gr0 := gain_in (ch F k 1) (ch F k 2 % 16) (F 1 % 16)
                have pl := prod_in (a := valK F k - 16) (by omega) (by omega) gl0.1 gl0.2
                have pr := prod_in (a := valK F k - 16) (by omega) (by omega) gr0.1 gr0.2
                have sl := sumTo_in (g := leftK F) k fun j hj => leftK_in okF (by omega)
                have sr := sumTo_in (g := rightK F) k fun j hj => rightK_in okF (by omega)
                have w8 := x8 (ch F k 36).toNat (by omega)
                have t1 : Int.tdiv (ch F k 2) 16 = ch F k 2 / 16 := Int.tdiv_eq_ediv_of_nonneg (by omega)
                have t2 : Int.tmod (ch F k 2) 16 = ch F k 2 % 16 := Int.tmod_eq_emod_of_nonneg (by omega)
                have t3 : Int.tdiv (F 1) 16 = F 1 / 16 := Int.tdiv_eq_ediv_of_nonneg (by omega)
                have t4 : Int.tmod (F 1) 16 = F 1 % 16 := Int.tmod_eq_emod_of_nonneg (by omega)
                have t5 : Int.tdiv (ch F k 1) 64 = ch F k 1 / 64 := Int.tdiv_eq_ediv_of_nonneg (by omega)
                have t6 : Int.tmod (ch F k 1 / 64) 2 = ch F k 1 / 64 % 2 := Int.tmod_eq_emod_of_nonneg (by omega)
                have t7 : Int.tmod (ch F k 38) 2 = ch F k 38 % 2 := Int.tmod_eq_emod_of_nonneg (by omega)
                have KG := hide (fun x y z u => rgain_any x y z u)
                rcases hd : drOf F k with _ | _
                · have hd2 : (ch F k 1 / 64 % 2 == 1) = false := by unfold drOf at hd; simpa using hd
                  rcases hn : nyOf F k with _ | _
                  · have VK : Hid (valK F k = ch F k (4 + (ch F k 36).toNat)) := hide (by unfold valK; rw [hd, hn]; rfl)
                    rw [VK.out] at v0 pl pr
                    rw [hn] at KN
                    set_option maxRecDepth 20000 in
                    go_wp2_with (first
                      | (refine wpList_load_ints rfl 31 (.tmp 28) rfl s0 (4 + k * 40) rfl P1.out 40 (by omega) _ Tryd.underlying31 rfl info_D40 ?_)
                      | (refine wpList_alloced rfl 31 rfl (rowF (iv fun _ => 0) 40) zero_D ?_)
                      | (refine wpList_store_row rfl 31 (.tmp 9) (.tmp 29) rfl wr.heap.size (rowF (iv (ch F k)) 40) (by simp [Act.eval, Act.put]) rfl 31 _ (hasF_new _ _ _ _) (info_D _) (by rw [rowF_size, rowF_size]) (rowF_one _ _) ?_; refine under_list fun w2 hh => ?_; have C2 : Hid (HasF 31 w2 wr.heap.size 40 (iv (ch F k))) := hide (by rw [hh]; exact setRow_heap _ _ _ _ _ _ (hasF_new _ _ _ _)); have W2 : Below wr.heap.size wr w2 := (by rw [hh]; exact below_setRow ((Below.refl _ _).alloc (Nat.le_refl _) _) (Nat.le_refl _) _); have P2 := hide (P1.out.next W2); have Z2 := hide (Z1.out.next W2); have B2 := hide (bnext3 B1.out S0.out W2); have y1 := C2.out.int 1 (by decide); have y2 := C2.out.int 2 (by decide); have y36 := C2.out.int 36 (by decide); have y38 := C2.out.int 38 (by decide); have y39 := C2.out.int 39 (by decide); have yw := C2.out.int (4 + (ch F k 36).toNat) (by omega); have ym := P2.out.int 1 (by decide); clear hh W2 P1 Z1 B1)
                      | (refine wpList_load_want rfl 34 (.tmp 1) rfl s0 rfl _ _ _ _ P2.out Tryd.underlying34 rfl (info_R _) ?_)
                      | (go_at_call 22; refine (KL.out _).mono ?_; rintro e w7 ⟨rfl, c7⟩; replace C2 := hide (C2.out.next c7); replace P2 := hide (P2.out.next c7); replace Z2 := hide (Z2.out.next c7); replace B2 := hide (bnext3 B2.out S0.out c7); have y1 := C2.out.int 1 (by decide); have y2 := C2.out.int 2 (by decide); have y36 := C2.out.int 36 (by decide); have y38 := C2.out.int 38 (by decide); have y39 := C2.out.int 39 (by decide); have yw := C2.out.int (4 + (ch F k 36).toNat) (by omega); have ym := P2.out.int 1 (by decide); clear c7)
                      | (refine wpList_load_row rfl 34 (.tmp 1) rfl s0 rfl _ _ _ _ P2.out Tryd.underlying34 rfl (info_R _) ?_)
                      | (go_at_call 23; refine (KN.out _).mono ?_; rintro e w7 ⟨rfl, c7⟩; replace C2 := hide (C2.out.next c7); replace P2 := hide (P2.out.next c7); replace Z2 := hide (Z2.out.next c7); replace B2 := hide (bnext3 B2.out S0.out c7); have y1 := C2.out.int 1 (by decide); have y2 := C2.out.int 2 (by decide); have y36 := C2.out.int 36 (by decide); have y38 := C2.out.int 38 (by decide); have y39 := C2.out.int 39 (by decide); have yw := C2.out.int (4 + (ch F k 36).toNat) (by omega); have ym := P2.out.int 1 (by decide); clear c7)
                      | (go_at_call 24; refine (KG.out _ _ _ _).mono ?_; rintro e w7 ⟨rfl, c7⟩; replace C2 := hide (C2.out.next c7); replace P2 := hide (P2.out.next c7); replace Z2 := hide (Z2.out.next c7); replace B2 := hide (bnext3 B2.out S0.out c7); have y1 := C2.out.int 1 (by decide); have y2 := C2.out.int 2 (by decide); have y36 := C2.out.int 36 (by decide); have y38 := C2.out.int 38 (by decide); have y39 := C2.out.int 39 (by decide); have yw := C2.out.int (4 + (ch F k 36).toNat) (by omega); have ym := P2.out.int 1 (by decide); clear c7))
                    exact ⟨⟨k + 1, by omega, by rw [E1.out, VK.out], by rw [E2.out, VK.out], by go_num, P2.out, Z2.out, B2.out⟩, by simp [intOf]; omega⟩
                  · have VK : Hid (valK F k = ch F k 38 % 2 * 31) := hide (by unfold valK; rw [hd, hn]; simp only [Bool.false_eq_true, if_false, if_true]; omega)
                    rw [VK.out] at v0 pl pr
                    rw [hn] at KN
                    set_option maxRecDepth 20000 in
                    go_wp2_with (first
                      | (refine wpList_load_ints rfl 31 (.tmp 28) rfl s0 (4 + k * 40) rfl P1.out 40 (by omega) _ Tryd.underlying31 rfl info_D40 ?_)
                      | (refine wpList_alloced rfl 31 rfl (rowF (iv fun _ => 0) 40) zero_D ?_)
                      | (refine wpList_store_row rfl 31 (.tmp 9) (.tmp 29) rfl wr.heap.size (rowF (iv (ch F k)) 40) (by simp [Act.eval, Act.put]) rfl 31 _ (hasF_new _ _ _ _) (info_D _) (by rw [rowF_size, rowF_size]) (rowF_one _ _) ?_; refine under_list fun w2 hh => ?_; have C2 : Hid (HasF 31 w2 wr.heap.size 40 (iv (ch F k))) := hide (by rw [hh]; exact setRow_heap _ _ _ _ _ _ (hasF_new _ _ _ _)); have W2 : Below wr.heap.size wr w2 := (by rw [hh]; exact below_setRow ((Below.refl _ _).alloc (Nat.le_refl _) _) (Nat.le_refl _) _); have P2 := hide (P1.out.next W2); have Z2 := hide (Z1.out.next W2); have B2 := hide (bnext3 B1.out S0.out W2); have y1 := C2.out.int 1 (by decide); have y2 := C2.out.int 2 (by decide); have y36 := C2.out.int 36 (by decide); have y38 := C2.out.int 38 (by decide); have y39 := C2.out.int 39 (by decide); have yw := C2.out.int (4 + (ch F k 36).toNat) (by omega); have ym := P2.out.int 1 (by decide); clear hh W2 P1 Z1 B1)
                      | (refine wpList_load_want rfl 34 (.tmp 1) rfl s0 rfl _ _ _ _ P2.out Tryd.underlying34 rfl (info_R _) ?_)
                      | (go_at_call 22; refine (KL.out _).mono ?_; rintro e w7 ⟨rfl, c7⟩; replace C2 := hide (C2.out.next c7); replace P2 := hide (P2.out.next c7); replace Z2 := hide (Z2.out.next c7); replace B2 := hide (bnext3 B2.out S0.out c7); have y1 := C2.out.int 1 (by decide); have y2 := C2.out.int 2 (by decide); have y36 := C2.out.int 36 (by decide); have y38 := C2.out.int 38 (by decide); have y39 := C2.out.int 39 (by decide); have yw := C2.out.int (4 + (ch F k 36).toNat) (by omega); have ym := P2.out.int 1 (by decide); clear c7)
                      | (refine wpList_load_row rfl 34 (.tmp 1) rfl s0 rfl _ _ _ _ P2.out Tryd.underlying34 rfl (info_R _) ?_)
                      | (go_at_call 23; refine (KN.out _).mono ?_; rintro e w7 ⟨rfl, c7⟩; replace C2 := hide (C2.out.next c7); replace P2 := hide (P2.out.next c7); replace Z2 := hide (Z2.out.next c7); replace B2 := hide (bnext3 B2.out S0.out c7); have y1 := C2.out.int 1 (by decide); have y2 := C2.out.int 2 (by decide); have y36 := C2.out.int 36 (by decide); have y38 := C2.out.int 38 (by decide); have y39 := C2.out.int 39 (by decide); have yw := C2.out.int (4 + (ch F k 36).toNat) (by omega); have ym := P2.out.int 1 (by decide); clear c7)
                      | (go_at_call 24; refine (KG.out _ _ _ _).mono ?_; rintro e w7 ⟨rfl, c7⟩; replace C2 := hide (C2.out.next c7); replace P2 := hide (P2.out.next c7); replace Z2 := hide (Z2.out.next c7); replace B2 := hide (bnext3 B2.out S0.out c7); have y1 := C2.out.int 1 (by decide); have y2 := C2.out.int 2 (by decide); have y36 := C2.out.int 36 (by decide); have y38 := C2.out.int 38 (by decide); have y39 := C2.out.int 39 (by decide); have yw := C2.out.int (4 + (ch F k 36).toNat) (by omega); have ym := P2.out.int 1 (by decide); clear c7))
                    exact ⟨⟨k + 1, by omega, by rw [E1.out, VK.out], by rw [E2.out, VK.out], by go_num, P2.out, Z2.out, B2.out⟩, by simp [intOf]; omega⟩
                · have hd2 : (ch F k 1 / 64 % 2 == 1) = true := by unfold drOf at hd; simpa using hd
                  have VK : Hid (valK F k = ch F k 39) := hide (by unfold valK; rw [hd]; rfl)
                  rw [VK.out] at v0 pl pr
                  rcases hn : nyOf F k with _ | _
                  · rw [hn] at KN
                    set_option maxRecDepth 20000 in
                    go_wp2_with (first
                      | (refine wpList_load_ints rfl 31 (.tmp 28) rfl s0 (4 + k * 40) rfl P1.out 40 (by omega) _ Tryd.underlying31 rfl info_D40 ?_)
                      | (refine wpList_alloced rfl 31 rfl (rowF (iv fun _ => 0) 40) zero_D ?_)
                      | (refine wpList_store_row rfl 31 (.tmp 9) (.tmp 29) rfl wr.heap.size (rowF (iv (ch F k)) 40) (by simp [Act.eval, Act.put]) rfl 31 _ (hasF_new _ _ _ _) (info_D _) (by rw [rowF_size, rowF_size]) (rowF_one _ _) ?_; refine under_list fun w2 hh => ?_; have C2 : Hid (HasF 31 w2 wr.heap.size 40 (iv (ch F k))) := hide (by rw [hh]; exact setRow_heap _ _ _ _ _ _ (hasF_new _ _ _ _)); have W2 : Below wr.heap.size wr w2 := (by rw [hh]; exact below_setRow ((Below.refl _ _).alloc (Nat.le_refl _) _) (Nat.le_refl _) _); have P2 := hide (P1.out.next W2); have Z2 := hide (Z1.out.next W2); have B2 := hide (bnext3 B1.out S0.out W2); have y1 := C2.out.int 1 (by decide); have y2 := C2.out.int 2 (by decide); have y36 := C2.out.int 36 (by decide); have y38 := C2.out.int 38 (by decide); have y39 := C2.out.int 39 (by decide); have yw := C2.out.int (4 + (ch F k 36).toNat) (by omega); have ym := P2.out.int 1 (by decide); clear hh W2 P1 Z1 B1)
                      | (refine wpList_load_want rfl 34 (.tmp 1) rfl s0 rfl _ _ _ _ P2.out Tryd.underlying34 rfl (info_R _) ?_)
                      | (go_at_call 22; refine (KL.out _).mono ?_; rintro e w7 ⟨rfl, c7⟩; replace C2 := hide (C2.out.next c7); replace P2 := hide (P2.out.next c7); replace Z2 := hide (Z2.out.next c7); replace B2 := hide (bnext3 B2.out S0.out c7); have y1 := C2.out.int 1 (by decide); have y2 := C2.out.int 2 (by decide); have y36 := C2.out.int 36 (by decide); have y38 := C2.out.int 38 (by decide); have y39 := C2.out.int 39 (by decide); have yw := C2.out.int (4 + (ch F k 36).toNat) (by omega); have ym := P2.out.int 1 (by decide); clear c7)
                      | (refine wpList_load_row rfl 34 (.tmp 1) rfl s0 rfl _ _ _ _ P2.out Tryd.underlying34 rfl (info_R _) ?_)
                      | (go_at_call 23; refine (KN.out _).mono ?_; rintro e w7 ⟨rfl, c7⟩; replace C2 := hide (C2.out.next c7); replace P2 := hide (P2.out.next c7); replace Z2 := hide (Z2.out.next c7); replace B2 := hide (bnext3 B2.out S0.out c7); have y1 := C2.out.int 1 (by decide); have y2 := C2.out.int 2 (by decide); have y36 := C2.out.int 36 (by decide); have y38 := C2.out.int 38 (by decide); have y39 := C2.out.int 39 (by decide); have yw := C2.out.int (4 + (ch F k 36).toNat) (by omega); have ym := P2.out.int 1 (by decide); clear c7)
                      | (go_at_call 24; refine (KG.out _ _ _ _).mono ?_; rintro e w7 ⟨rfl, c7⟩; replace C2 := hide (C2.out.next c7); replace P2 := hide (P2.out.next c7); replace Z2 := hide (Z2.out.next c7); replace B2 := hide (bnext3 B2.out S0.out c7); have y1 := C2.out.int 1 (by decide); have y2 := C2.out.int 2 (by decide); have y36 := C2.out.int 36 (by decide); have y38 := C2.out.int 38 (by decide); have y39 := C2.out.int 39 (by decide); have yw := C2.out.int (4 + (ch F k 36).toNat) (by omega); have ym := P2.out.int 1 (by decide); clear c7))
                    exact ⟨⟨k + 1, by omega, by rw [E1.out, VK.out], by rw [E2.out, VK.out], by go_num, P2.out, Z2.out, B2.out⟩, by simp [intOf]; omega⟩
                  · rw [hn] at KN
                    set_option maxRecDepth 20000 in
                    go_wp2_with (first
                      | (refine wpList_load_ints rfl 31 (.tmp 28) rfl s0 (4 + k * 40) rfl P1.out 40 (by omega) _ Tryd.underlying31 rfl info_D40 ?_)
                      | (refine wpList_alloced rfl 31 rfl (rowF (iv fun _ => 0) 40) zero_D ?_)
                      | (refine wpList_store_row rfl 31 (.tmp 9) (.tmp 29) rfl wr.heap.size (rowF (iv (ch F k)) 40) (by simp [Act.eval, Act.put]) rfl 31 _ (hasF_new _ _ _ _) (info_D _) (by rw [rowF_size, rowF_size]) (rowF_one _ _) ?_; refine under_list fun w2 hh => ?_; have C2 : Hid (HasF 31 w2 wr.heap.size 40 (iv (ch F k))) := hide (by rw [hh]; exact setRow_heap _ _ _ _ _ _ (hasF_new _ _ _ _)); have W2 : Below wr.heap.size wr w2 := (by rw [hh]; exact below_setRow ((Below.refl _ _).alloc (Nat.le_refl _) _) (Nat.le_refl _) _); have P2 := hide (P1.out.next W2); have Z2 := hide (Z1.out.next W2); have B2 := hide (bnext3 B1.out S0.out W2); have y1 := C2.out.int 1 (by decide); have y2 := C2.out.int 2 (by decide); have y36 := C2.out.int 36 (by decide); have y38 := C2.out.int 38 (by decide); have y39 := C2.out.int 39 (by decide); have yw := C2.out.int (4 + (ch F k 36).toNat) (by omega); have ym := P2.out.int 1 (by decide); clear hh W2 P1 Z1 B1)
                      | (refine wpList_load_want rfl 34 (.tmp 1) rfl s0 rfl _ _ _ _ P2.out Tryd.underlying34 rfl (info_R _) ?_)
                      | (go_at_call 22; refine (KL.out _).mono ?_; rintro e w7 ⟨rfl, c7⟩; replace C2 := hide (C2.out.next c7); replace P2 := hide (P2.out.next c7); replace Z2 := hide (Z2.out.next c7); replace B2 := hide (bnext3 B2.out S0.out c7); have y1 := C2.out.int 1 (by decide); have y2 := C2.out.int 2 (by decide); have y36 := C2.out.int 36 (by decide); have y38 := C2.out.int 38 (by decide); have y39 := C2.out.int 39 (by decide); have yw := C2.out.int (4 + (ch F k 36).toNat) (by omega); have ym := P2.out.int 1 (by decide); clear c7)
                      | (refine wpList_load_row rfl 34 (.tmp 1) rfl s0 rfl _ _ _ _ P2.out Tryd.underlying34 rfl (info_R _) ?_)
                      | (go_at_call 23; refine (KN.out _).mono ?_; rintro e w7 ⟨rfl, c7⟩; replace C2 := hide (C2.out.next c7); replace P2 := hide (P2.out.next c7); replace Z2 := hide (Z2.out.next c7); replace B2 := hide (bnext3 B2.out S0.out c7); have y1 := C2.out.int 1 (by decide); have y2 := C2.out.int 2 (by decide); have y36 := C2.out.int 36 (by decide); have y38 := C2.out.int 38 (by decide); have y39 := C2.out.int 39 (by decide); have yw := C2.out.int (4 + (ch F k 36).toNat) (by omega); have ym := P2.out.int 1 (by decide); clear c7)
                      | (go_at_call 24; refine (KG.out _ _ _ _).mono ?_; rintro e w7 ⟨rfl, c7⟩; replace C2 := hide (C2.out.next c7); replace P2 := hide (P2.out.next c7); replace Z2 := hide (Z2.out.next c7); replace B2 := hide (bnext3 B2.out S0.out c7); have y1 := C2.out.int 1 (by decide); have y2 := C2.out.int 2 (by decide); have y36 := C2.out.int 36 (by decide); have y38 := C2.out.int 38 (by decide); have y39 := C2.out.int 39 (by decide); have yw := C2.out.int (4 + (ch F k 36).toNat) (by omega); have ym := P2.out.int 1 (by decide); clear c7))
                    exact ⟨⟨k + 1, by omega, by rw [E1.out, VK.out], by rw [E2.out, VK.out], by go_num, P2.out, Z2.out, B2.out⟩, by simp [intOf]; omega⟩
              · have hh : heOf F k = false := by unfold heOf; simp [h1, h0]
                replace h1 := hide h1
                generalize lfoOf F = m at *
                have hm : 0 < m := by omega
                have E1 : Hid (sumTo (leftK F) (k + 1) = sumTo (leftK F) k) := hide (by simp only [sumTo, leftK, hh]; simp)
                have E2 : Hid (sumTo (rightK F) (k + 1) = sumTo (rightK F) k) := hide (by simp only [sumTo, rightK, hh]; simp)
                set_option maxRecDepth 20000 in
                go_wp2_with (first
                  | (refine wpList_load_ints rfl 31 (.tmp 28) rfl s0 (4 + k * 40) rfl P1.out 40 (by omega) _ Tryd.underlying31 rfl info_D40 ?_)
                  | (refine wpList_alloced rfl 31 rfl (rowF (iv fun _ => 0) 40) zero_D ?_)
                  | (refine wpList_store_row rfl 31 (.tmp 9) (.tmp 29) rfl wr.heap.size (rowF (iv (ch F k)) 40) (by simp [Act.eval, Act.put]) rfl 31 _ (hasF_new _ _ _ _) (info_D _) (by rw [rowF_size, rowF_size]) (rowF_one _ _) ?_; refine under_list fun w2 hh => ?_; have C2 : Hid (HasF 31 w2 wr.heap.size 40 (iv (ch F k))) := hide (by rw [hh]; exact setRow_heap _ _ _ _ _ _ (hasF_new _ _ _ _)); have W2 : Below wr.heap.size wr w2 := (by rw [hh]; exact below_setRow ((Below.refl _ _).alloc (Nat.le_refl _) _) (Nat.le_refl _) _); have P2 := hide (P1.out.next W2); have Z2 := hide (Z1.out.next W2); have B2 := hide (bnext3 B1.out S0.out W2); have y1 := C2.out.int 1 (by decide); have y2 := C2.out.int 2 (by decide); have y36 := C2.out.int 36 (by decide); have y38 := C2.out.int 38 (by decide); have y39 := C2.out.int 39 (by decide); have yw := C2.out.int (4 + (ch F k 36).toNat) (by omega); have ym := P2.out.int 1 (by decide); clear hh W2 P1 Z1 B1)
                  | (refine wpList_load_want rfl 34 (.tmp 1) rfl s0 rfl _ _ _ _ P2.out Tryd.underlying34 rfl (info_R _) ?_)
                  | (go_at_call 22; refine (KL.out _).mono ?_; rintro e w7 ⟨rfl, c7⟩; replace C2 := hide (C2.out.next c7); replace P2 := hide (P2.out.next c7); replace Z2 := hide (Z2.out.next c7); replace B2 := hide (bnext3 B2.out S0.out c7); have y1 := C2.out.int 1 (by decide); have y2 := C2.out.int 2 (by decide); have y36 := C2.out.int 36 (by decide); have y38 := C2.out.int 38 (by decide); have y39 := C2.out.int 39 (by decide); have yw := C2.out.int (4 + (ch F k 36).toNat) (by omega); have ym := P2.out.int 1 (by decide); clear c7))
                exact ⟨⟨k + 1, by omega, by rw [E1.out], by rw [E2.out], by go_num, P2.out, Z2.out, B2.out⟩, by simp [intOf]; omega⟩
            · have d1 : ((k : Int) == 1) = false := by simp; omega
              have hh : heOf F k = true := by unfold heOf soOf; simp [hs, h1]
              have E1 : Hid (sumTo (leftK F) (k + 1) = sumTo (leftK F) k + (valK F k - 16) * gainOf (ch F k 1) (ch F k 2 / 16) (F 1 / 16)) := hide (by simp only [sumTo, leftK, hh, glOf]; simp)
              have E2 : Hid (sumTo (rightK F) (k + 1) = sumTo (rightK F) k + (valK F k - 16) * gainOf (ch F k 1) (ch F k 2 % 16) (F 1 % 16)) := hide (by simp only [sumTo, rightK, hh, grOf]; simp)
              have v0 := valK_in okF hlt
              have gl0 := gain_in (ch F k 1) (ch F k 2 / 16) (F 1 / 16)
              have gr0 := gain_in (ch F k 1) (ch F k 2 % 16) (F 1 % 16)
              have pl := prod_in (a := valK F k - 16) (by omega) (by omega) gl0.1 gl0.2
              have pr := prod_in (a := valK F k - 16) (by omega) (by omega) gr0.1 gr0.2
              have sl := sumTo_in (g := leftK F) k fun j hj => leftK_in okF (by omega)
              have sr := sumTo_in (g := rightK F) k fun j hj => rightK_in okF (by omega)
              have w8 := x8 (ch F k 36).toNat (by omega)
              have t1 : Int.tdiv (ch F k 2) 16 = ch F k 2 / 16 := Int.tdiv_eq_ediv_of_nonneg (by omega)
              have t2 : Int.tmod (ch F k 2) 16 = ch F k 2 % 16 := Int.tmod_eq_emod_of_nonneg (by omega)
              have t3 : Int.tdiv (F 1) 16 = F 1 / 16 := Int.tdiv_eq_ediv_of_nonneg (by omega)
              have t4 : Int.tmod (F 1) 16 = F 1 % 16 := Int.tmod_eq_emod_of_nonneg (by omega)
              have t5 : Int.tdiv (ch F k 1) 64 = ch F k 1 / 64 := Int.tdiv_eq_ediv_of_nonneg (by omega)
              have t6 : Int.tmod (ch F k 1 / 64) 2 = ch F k 1 / 64 % 2 := Int.tmod_eq_emod_of_nonneg (by omega)
              have t7 : Int.tmod (ch F k 38) 2 = ch F k 38 % 2 := Int.tmod_eq_emod_of_nonneg (by omega)
              have KG := hide (fun x y z u => rgain_any x y z u)
              rcases hd : drOf F k with _ | _
              · have hd2 : (ch F k 1 / 64 % 2 == 1) = false := by unfold drOf at hd; simpa using hd
                rcases hn : nyOf F k with _ | _
                · have VK : Hid (valK F k = ch F k (4 + (ch F k 36).toNat)) := hide (by unfold valK; rw [hd, hn]; rfl)
                  rw [VK.out] at v0 pl pr
                  rw [hn] at KN
                  set_option maxRecDepth 20000 in
                  go_wp2_with (first
                    | (refine wpList_load_ints rfl 31 (.tmp 28) rfl s0 (4 + k * 40) rfl P1.out 40 (by omega) _ Tryd.underlying31 rfl info_D40 ?_)
                    | (refine wpList_alloced rfl 31 rfl (rowF (iv fun _ => 0) 40) zero_D ?_)
                    | (refine wpList_store_row rfl 31 (.tmp 9) (.tmp 29) rfl wr.heap.size (rowF (iv (ch F k)) 40) (by simp [Act.eval, Act.put]) rfl 31 _ (hasF_new _ _ _ _) (info_D _) (by rw [rowF_size, rowF_size]) (rowF_one _ _) ?_; refine under_list fun w2 hh => ?_; have C2 : Hid (HasF 31 w2 wr.heap.size 40 (iv (ch F k))) := hide (by rw [hh]; exact setRow_heap _ _ _ _ _ _ (hasF_new _ _ _ _)); have W2 : Below wr.heap.size wr w2 := (by rw [hh]; exact below_setRow ((Below.refl _ _).alloc (Nat.le_refl _) _) (Nat.le_refl _) _); have P2 := hide (P1.out.next W2); have Z2 := hide (Z1.out.next W2); have B2 := hide (bnext3 B1.out S0.out W2); have y1 := C2.out.int 1 (by decide); have y2 := C2.out.int 2 (by decide); have y36 := C2.out.int 36 (by decide); have y38 := C2.out.int 38 (by decide); have y39 := C2.out.int 39 (by decide); have yw := C2.out.int (4 + (ch F k 36).toNat) (by omega); have ym := P2.out.int 1 (by decide); clear hh W2 P1 Z1 B1)
                    | (refine wpList_load_want rfl 34 (.tmp 1) rfl s0 rfl _ _ _ _ P2.out Tryd.underlying34 rfl (info_R _) ?_)
                    | (go_at_call 22; refine (KL.out _).mono ?_; rintro e w7 ⟨rfl, c7⟩; replace C2 := hide (C2.out.next c7); replace P2 := hide (P2.out.next c7); replace Z2 := hide (Z2.out.next c7); replace B2 := hide (bnext3 B2.out S0.out c7); have y1 := C2.out.int 1 (by decide); have y2 := C2.out.int 2 (by decide); have y36 := C2.out.int 36 (by decide); have y38 := C2.out.int 38 (by decide); have y39 := C2.out.int 39 (by decide); have yw := C2.out.int (4 + (ch F k 36).toNat) (by omega); have ym := P2.out.int 1 (by decide); clear c7)
                    | (refine wpList_load_row rfl 34 (.tmp 1) rfl s0 rfl _ _ _ _ P2.out Tryd.underlying34 rfl (info_R _) ?_)
                    | (go_at_call 23; refine (KN.out _).mono ?_; rintro e w7 ⟨rfl, c7⟩; replace C2 := hide (C2.out.next c7); replace P2 := hide (P2.out.next c7); replace Z2 := hide (Z2.out.next c7); replace B2 := hide (bnext3 B2.out S0.out c7); have y1 := C2.out.int 1 (by decide); have y2 := C2.out.int 2 (by decide); have y36 := C2.out.int 36 (by decide); have y38 := C2.out.int 38 (by decide); have y39 := C2.out.int 39 (by decide); have yw := C2.out.int (4 + (ch F k 36).toNat) (by omega); have ym := P2.out.int 1 (by decide); clear c7)
                    | (go_at_call 24; refine (KG.out _ _ _ _).mono ?_; rintro e w7 ⟨rfl, c7⟩; replace C2 := hide (C2.out.next c7); replace P2 := hide (P2.out.next c7); replace Z2 := hide (Z2.out.next c7); replace B2 := hide (bnext3 B2.out S0.out c7); have y1 := C2.out.int 1 (by decide); have y2 := C2.out.int 2 (by decide); have y36 := C2.out.int 36 (by decide); have y38 := C2.out.int 38 (by decide); have y39 := C2.out.int 39 (by decide); have yw := C2.out.int (4 + (ch F k 36).toNat) (by omega); have ym := P2.out.int 1 (by decide); clear c7))
                  exact ⟨⟨k + 1, by omega, by rw [E1.out, VK.out], by rw [E2.out, VK.out], by go_num, P2.out, Z2.out, B2.out⟩, by simp [intOf]; omega⟩
                · have VK : Hid (valK F k = ch F k 38 % 2 * 31) := hide (by unfold valK; rw [hd, hn]; simp only [Bool.false_eq_true, if_false, if_true]; omega)
                  rw [VK.out] at v0 pl pr
                  rw [hn] at KN
                  set_option maxRecDepth 20000 in
                  go_wp2_with (first
                    | (refine wpList_load_ints rfl 31 (.tmp 28) rfl s0 (4 + k * 40) rfl P1.out 40 (by omega) _ Tryd.underlying31 rfl info_D40 ?_)
                    | (refine wpList_alloced rfl 31 rfl (rowF (iv fun _ => 0) 40) zero_D ?_)
                    | (refine wpList_store_row rfl 31 (.tmp 9) (.tmp 29) rfl wr.heap.size (rowF (iv (ch F k)) 40) (by simp [Act.eval, Act.put]) rfl 31 _ (hasF_new _ _ _ _) (info_D _) (by rw [rowF_size, rowF_size]) (rowF_one _ _) ?_; refine under_list fun w2 hh => ?_; have C2 : Hid (HasF 31 w2 wr.heap.size 40 (iv (ch F k))) := hide (by rw [hh]; exact setRow_heap _ _ _ _ _ _ (hasF_new _ _ _ _)); have W2 : Below wr.heap.size wr w2 := (by rw [hh]; exact below_setRow ((Below.refl _ _).alloc (Nat.le_refl _) _) (Nat.le_refl _) _); have P2 := hide (P1.out.next W2); have Z2 := hide (Z1.out.next W2); have B2 := hide (bnext3 B1.out S0.out W2); have y1 := C2.out.int 1 (by decide); have y2 := C2.out.int 2 (by decide); have y36 := C2.out.int 36 (by decide); have y38 := C2.out.int 38 (by decide); have y39 := C2.out.int 39 (by decide); have yw := C2.out.int (4 + (ch F k 36).toNat) (by omega); have ym := P2.out.int 1 (by decide); clear hh W2 P1 Z1 B1)
                    | (refine wpList_load_want rfl 34 (.tmp 1) rfl s0 rfl _ _ _ _ P2.out Tryd.underlying34 rfl (info_R _) ?_)
                    | (go_at_call 22; refine (KL.out _).mono ?_; rintro e w7 ⟨rfl, c7⟩; replace C2 := hide (C2.out.next c7); replace P2 := hide (P2.out.next c7); replace Z2 := hide (Z2.out.next c7); replace B2 := hide (bnext3 B2.out S0.out c7); have y1 := C2.out.int 1 (by decide); have y2 := C2.out.int 2 (by decide); have y36 := C2.out.int 36 (by decide); have y38 := C2.out.int 38 (by decide); have y39 := C2.out.int 39 (by decide); have yw := C2.out.int (4 + (ch F k 36).toNat) (by omega); have ym := P2.out.int 1 (by decide); clear c7)
                    | (refine wpList_load_row rfl 34 (.tmp 1) rfl s0 rfl _ _ _ _ P2.out Tryd.underlying34 rfl (info_R _) ?_)
                    | (go_at_call 23; refine (KN.out _).mono ?_; rintro e w7 ⟨rfl, c7⟩; replace C2 := hide (C2.out.next c7); replace P2 := hide (P2.out.next c7); replace Z2 := hide (Z2.out.next c7); replace B2 := hide (bnext3 B2.out S0.out c7); have y1 := C2.out.int 1 (by decide); have y2 := C2.out.int 2 (by decide); have y36 := C2.out.int 36 (by decide); have y38 := C2.out.int 38 (by decide); have y39 := C2.out.int 39 (by decide); have yw := C2.out.int (4 + (ch F k 36).toNat) (by omega); have ym := P2.out.int 1 (by decide); clear c7)
                    | (go_at_call 24; refine (KG.out _ _ _ _).mono ?_; rintro e w7 ⟨rfl, c7⟩; replace C2 := hide (C2.out.next c7); replace P2 := hide (P2.out.next c7); replace Z2 := hide (Z2.out.next c7); replace B2 := hide (bnext3 B2.out S0.out c7); have y1 := C2.out.int 1 (by decide); have y2 := C2.out.int 2 (by decide); have y36 := C2.out.int 36 (by decide); have y38 := C2.out.int 38 (by decide); have y39 := C2.out.int 39 (by decide); have yw := C2.out.int (4 + (ch F k 36).toNat) (by omega); have ym := P2.out.int 1 (by decide); clear c7))
                  exact ⟨⟨k + 1, by omega, by rw [E1.out, VK.out], by rw [E2.out, VK.out], by go_num, P2.out, Z2.out, B2.out⟩, by simp [intOf]; omega⟩
              · have hd2 : (ch F k 1 / 64 % 2 == 1) = true := by unfold drOf at hd; simpa using hd
                have VK : Hid (valK F k = ch F k 39) := hide (by unfold valK; rw [hd]; rfl)
                rw [VK.out] at v0 pl pr
                rcases hn : nyOf F k with _ | _
                · rw [hn] at KN
                  set_option maxRecDepth 20000 in
                  go_wp2_with (first
                    | (refine wpList_load_ints rfl 31 (.tmp 28) rfl s0 (4 + k * 40) rfl P1.out 40 (by omega) _ Tryd.underlying31 rfl info_D40 ?_)
                    | (refine wpList_alloced rfl 31 rfl (rowF (iv fun _ => 0) 40) zero_D ?_)
                    | (refine wpList_store_row rfl 31 (.tmp 9) (.tmp 29) rfl wr.heap.size (rowF (iv (ch F k)) 40) (by simp [Act.eval, Act.put]) rfl 31 _ (hasF_new _ _ _ _) (info_D _) (by rw [rowF_size, rowF_size]) (rowF_one _ _) ?_; refine under_list fun w2 hh => ?_; have C2 : Hid (HasF 31 w2 wr.heap.size 40 (iv (ch F k))) := hide (by rw [hh]; exact setRow_heap _ _ _ _ _ _ (hasF_new _ _ _ _)); have W2 : Below wr.heap.size wr w2 := (by rw [hh]; exact below_setRow ((Below.refl _ _).alloc (Nat.le_refl _) _) (Nat.le_refl _) _); have P2 := hide (P1.out.next W2); have Z2 := hide (Z1.out.next W2); have B2 := hide (bnext3 B1.out S0.out W2); have y1 := C2.out.int 1 (by decide); have y2 := C2.out.int 2 (by decide); have y36 := C2.out.int 36 (by decide); have y38 := C2.out.int 38 (by decide); have y39 := C2.out.int 39 (by decide); have yw := C2.out.int (4 + (ch F k 36).toNat) (by omega); have ym := P2.out.int 1 (by decide); clear hh W2 P1 Z1 B1)
                    | (refine wpList_load_want rfl 34 (.tmp 1) rfl s0 rfl _ _ _ _ P2.out Tryd.underlying34 rfl (info_R _) ?_)
                    | (go_at_call 22; refine (KL.out _).mono ?_; rintro e w7 ⟨rfl, c7⟩; replace C2 := hide (C2.out.next c7); replace P2 := hide (P2.out.next c7); replace Z2 := hide (Z2.out.next c7); replace B2 := hide (bnext3 B2.out S0.out c7); have y1 := C2.out.int 1 (by decide); have y2 := C2.out.int 2 (by decide); have y36 := C2.out.int 36 (by decide); have y38 := C2.out.int 38 (by decide); have y39 := C2.out.int 39 (by decide); have yw := C2.out.int (4 + (ch F k 36).toNat) (by omega); have ym := P2.out.int 1 (by decide); clear c7)
                    | (refine wpList_load_row rfl 34 (.tmp 1) rfl s0 rfl _ _ _ _ P2.out Tryd.underlying34 rfl (info_R _) ?_)
                    | (go_at_call 23; refine (KN.out _).mono ?_; rintro e w7 ⟨rfl, c7⟩; replace C2 := hide (C2.out.next c7); replace P2 := hide (P2.out.next c7); replace Z2 := hide (Z2.out.next c7); replace B2 := hide (bnext3 B2.out S0.out c7); have y1 := C2.out.int 1 (by decide); have y2 := C2.out.int 2 (by decide); have y36 := C2.out.int 36 (by decide); have y38 := C2.out.int 38 (by decide); have y39 := C2.out.int 39 (by decide); have yw := C2.out.int (4 + (ch F k 36).toNat) (by omega); have ym := P2.out.int 1 (by decide); clear c7)
                    | (go_at_call 24; refine (KG.out _ _ _ _).mono ?_; rintro e w7 ⟨rfl, c7⟩; replace C2 := hide (C2.out.next c7); replace P2 := hide (P2.out.next c7); replace Z2 := hide (Z2.out.next c7); replace B2 := hide (bnext3 B2.out S0.out c7); have y1 := C2.out.int 1 (by decide); have y2 := C2.out.int 2 (by decide); have y36 := C2.out.int 36 (by decide); have y38 := C2.out.int 38 (by decide); have y39 := C2.out.int 39 (by decide); have yw := C2.out.int (4 + (ch F k 36).toNat) (by omega); have ym := P2.out.int 1 (by decide); clear c7))
                  exact ⟨⟨k + 1, by omega, by rw [E1.out, VK.out], by rw [E2.out, VK.out], by go_num, P2.out, Z2.out, B2.out⟩, by simp [intOf]; omega⟩
                · rw [hn] at KN
                  set_option maxRecDepth 20000 in
                  go_wp2_with (first
                    | (refine wpList_load_ints rfl 31 (.tmp 28) rfl s0 (4 + k * 40) rfl P1.out 40 (by omega) _ Tryd.underlying31 rfl info_D40 ?_)
                    | (refine wpList_alloced rfl 31 rfl (rowF (iv fun _ => 0) 40) zero_D ?_)
                    | (refine wpList_store_row rfl 31 (.tmp 9) (.tmp 29) rfl wr.heap.size (rowF (iv (ch F k)) 40) (by simp [Act.eval, Act.put]) rfl 31 _ (hasF_new _ _ _ _) (info_D _) (by rw [rowF_size, rowF_size]) (rowF_one _ _) ?_; refine under_list fun w2 hh => ?_; have C2 : Hid (HasF 31 w2 wr.heap.size 40 (iv (ch F k))) := hide (by rw [hh]; exact setRow_heap _ _ _ _ _ _ (hasF_new _ _ _ _)); have W2 : Below wr.heap.size wr w2 := (by rw [hh]; exact below_setRow ((Below.refl _ _).alloc (Nat.le_refl _) _) (Nat.le_refl _) _); have P2 := hide (P1.out.next W2); have Z2 := hide (Z1.out.next W2); have B2 := hide (bnext3 B1.out S0.out W2); have y1 := C2.out.int 1 (by decide); have y2 := C2.out.int 2 (by decide); have y36 := C2.out.int 36 (by decide); have y38 := C2.out.int 38 (by decide); have y39 := C2.out.int 39 (by decide); have yw := C2.out.int (4 + (ch F k 36).toNat) (by omega); have ym := P2.out.int 1 (by decide); clear hh W2 P1 Z1 B1)
                    | (refine wpList_load_want rfl 34 (.tmp 1) rfl s0 rfl _ _ _ _ P2.out Tryd.underlying34 rfl (info_R _) ?_)
                    | (go_at_call 22; refine (KL.out _).mono ?_; rintro e w7 ⟨rfl, c7⟩; replace C2 := hide (C2.out.next c7); replace P2 := hide (P2.out.next c7); replace Z2 := hide (Z2.out.next c7); replace B2 := hide (bnext3 B2.out S0.out c7); have y1 := C2.out.int 1 (by decide); have y2 := C2.out.int 2 (by decide); have y36 := C2.out.int 36 (by decide); have y38 := C2.out.int 38 (by decide); have y39 := C2.out.int 39 (by decide); have yw := C2.out.int (4 + (ch F k 36).toNat) (by omega); have ym := P2.out.int 1 (by decide); clear c7)
                    | (refine wpList_load_row rfl 34 (.tmp 1) rfl s0 rfl _ _ _ _ P2.out Tryd.underlying34 rfl (info_R _) ?_)
                    | (go_at_call 23; refine (KN.out _).mono ?_; rintro e w7 ⟨rfl, c7⟩; replace C2 := hide (C2.out.next c7); replace P2 := hide (P2.out.next c7); replace Z2 := hide (Z2.out.next c7); replace B2 := hide (bnext3 B2.out S0.out c7); have y1 := C2.out.int 1 (by decide); have y2 := C2.out.int 2 (by decide); have y36 := C2.out.int 36 (by decide); have y38 := C2.out.int 38 (by decide); have y39 := C2.out.int 39 (by decide); have yw := C2.out.int (4 + (ch F k 36).toNat) (by omega); have ym := P2.out.int 1 (by decide); clear c7)
                    | (go_at_call 24; refine (KG.out _ _ _ _).mono ?_; rintro e w7 ⟨rfl, c7⟩; replace C2 := hide (C2.out.next c7); replace P2 := hide (P2.out.next c7); replace Z2 := hide (Z2.out.next c7); replace B2 := hide (bnext3 B2.out S0.out c7); have y1 := C2.out.int 1 (by decide); have y2 := C2.out.int 2 (by decide); have y36 := C2.out.int 36 (by decide); have y38 := C2.out.int 38 (by decide); have y39 := C2.out.int 39 (by decide); have yw := C2.out.int (4 + (ch F k 36).toNat) (by omega); have ym := P2.out.int 1 (by decide); clear c7))
                  exact ⟨⟨k + 1, by omega, by rw [E1.out, VK.out], by rw [E2.out, VK.out], by go_num, P2.out, Z2.out, B2.out⟩, by simp [intOf]; omega⟩
        · obtain rfl : k = 6 := by omega
          have EL : Hid (leftOf F = sumTo (leftK F) 6 ∧ rightOf F = sumTo (rightK F) 6) := hide ⟨rfl, rfl⟩
          generalize sumTo (leftK F) 6 = L at *
          generalize sumTo (rightK F) 6 = R at *
          set_option maxRecDepth 20000 in
          go_wp2_with fail
          haveI := kept_some wr
          refine wp_region_kept_shut _ _ (show _ = [_, _, _, _, _] ++ [_] from rfl) (by kernel_rfl) (by kernel_rfl) (by kernel_rfl) ?_
          set_option maxRecDepth 20000 in
          repeat (first
            | (refine wpQuiet_row rfl 34 (.tmp 1) rfl s0 rfl 34 _ (0, 0) _ (fun w' ⟨x, hx⟩ => by rw [hx]; exact (x.block _ P1.out.lt).trans P1.out) Tryd.underlying34 rfl (info_R _) ?_; simp only [Act.put, List.setIfInBounds_toArray, List.set_cons_succ, List.set_cons_zero])
            | go_big_quiet_step (fail))
          refine wpQuiet_nil ?_
          rintro _ ⟨wk, rfl⟩
          have Z3 := hide (Z1.out.next wk.below)
          have B3 := hide (bnext3 B1.out S0.out wk.below)
          set_option maxRecDepth 20000 in
          go_wp2_with (first
            | (refine wpList_store_row rfl 34 (.tmp 4) (.tmp 91) rfl (s0 + 1) _ rfl rfl 34 _ Z3.out (info_R _) (by rw [rowF_size, rowF_size]) (rowF_one _ _) ?_))
          refine bodyPost_ret (results_three rfl _ _ (s0 + 1) 34 _ (0, 0) _ rfl (setRow_heap _ _ _ _ _ _ Z3.out) Tryd.underlying34 rfl (info_R _)) rfl ?_
          exact ⟨by rw [hF.out, EL.out.1, EL.out.2]; rfl, by first | exact below_setRow B3.out (Nat.le_succ _) _ | (rw [hs0]; exact below_setRow B3.out (Nat.le_succ _) _)⟩
end Go.Proofs.YtcpilhbinkamiaaDoor
