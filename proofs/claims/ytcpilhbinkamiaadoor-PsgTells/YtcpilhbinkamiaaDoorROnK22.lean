/- The document's own: a channel goes on, period by period. -/
import Derived.Test.YtcpilhbinkamiaaDoorRPerL22
namespace Go.Proofs.YtcpilhbinkamiaaDoor
open Go.RowKit
set_option linter.unusedVariables false

/-- The number in a cell. -/
def natAt (w : World) (b o : Nat) : Nat := match w.cell? ⟨b, o, none⟩ with | some (.int _ v) => v.toNat | _ => 0
theorem natAt_is {w : World} {b o : Nat} {v : Int} (h : w.cell? ⟨b, o, none⟩ = some (.int .i64 v)) : natAt w b o = v.toNat := by unfold natAt; rw [h]
/-- The channel behind so many periods. -/
def onC (c : Nat → Int) (ny : Bool) (p : Int) (i : Nat) : Nat → Int := fun j => if j = 37 then c 37 + 455 - (i : Int) * p else if j = 38 ∧ ny = true then ((jumpN (c 38).toNat i : Nat) : Int) else if j = 36 ∧ ny = false then (c 36 + (i : Int)) % 32 else c j
theorem onC_0 (c : Nat → Int) (ny : Bool) (p : Int) (h38 : 0 ≤ c 38) (h36 : 0 ≤ c 36 ∧ c 36 ≤ 31) : up c 37 (c 37 + 455) = onC c ny p 0 := by
  funext j
  unfold up onC
  by_cases h : j = 37
  · rw [if_pos h, if_pos h]
    simp
  · rw [if_neg h, if_neg h]
    by_cases h1 : j = 38 ∧ ny = true
    · rw [if_pos h1, h1.1]
      show c 38 = (((c 38).toNat : Nat) : Int)
      omega
    · rw [if_neg h1]
      by_cases h2 : j = 36 ∧ ny = false
      · rw [if_pos h2, h2.1]
        omega
      · rw [if_neg h2]
theorem onC_true (c : Nat → Int) (p : Int) (i : Nat) (v : Int) (hv : ((jumpN (c 38).toNat (i + 1) : Nat) : Int) = v) : up (up (onC c true p i) 37 (c 37 + 455 - (i : Int) * p - p)) 38 v = onC c true p (i + 1) := by
  subst hv
  funext j
  unfold up onC
  have e : c 37 + 455 - ((i + 1 : Nat) : Int) * p = c 37 + 455 - (i : Int) * p - p := by
    rw [show ((i + 1 : Nat) : Int) = (i : Int) + 1 by omega, Int.add_mul]
    omega
  by_cases h8 : j = 38
  · rw [if_pos h8, if_neg (by omega), if_pos ⟨h8, rfl⟩]
  · rw [if_neg h8]
    by_cases h7 : j = 37
    · rw [if_pos h7, if_pos h7, e]
    · simp [h7, h8]
theorem onC_false (c : Nat → Int) (p : Int) (i : Nat) : up (up (onC c false p i) 37 (c 37 + 455 - (i : Int) * p - p)) 36 (((c 36 + (i : Int)) % 32 + 1) % 32) = onC c false p (i + 1) := by
  funext j
  unfold up onC
  have e : c 37 + 455 - ((i + 1 : Nat) : Int) * p = c 37 + 455 - (i : Int) * p - p := by
    rw [show ((i + 1 : Nat) : Int) = (i : Int) + 1 by omega, Int.add_mul]
    omega
  by_cases h6 : j = 36
  · rw [if_pos h6, if_neg (by omega), if_neg (by simp), if_pos ⟨h6, rfl⟩]
    omega
  · rw [if_neg h6]
    by_cases h7 : j = 37
    · rw [if_pos h7, if_pos h7, e]
    · simp [h7, h6]
theorem chan_back {f G cF : Nat → Int} {k : Nat} (h1 : ∀ j, j < 40 → G (4 + k * 40 + j) = cF j) (h2 : ∀ i, i < 4 + k * 40 ∨ 4 + k * 40 + 40 ≤ i → G i = f i) : ∀ i, i < 244 → (if 4 + k * 40 ≤ i ∧ i < 4 + k * 40 + 40 then iv cF (i - (4 + k * 40)) else iv f i) = iv G i := fun i _ => by
  unfold iv
  by_cases h : 4 + k * 40 ≤ i ∧ i < 4 + k * 40 + 40
  · rw [if_pos h, ← h1 _ (by omega), show 4 + k * 40 + (i - (4 + k * 40)) = i by omega]
  · rw [if_neg h, h2 i (by omega)]
/-- Behind all periods it is what the division says. -/
theorem on_back (f : Nat → Int) (k : Nat) (p : Int) (n : Nat) (hg : goOf f k = true) (hd : (ch f k 37 + 455) / p = (n : Int)) : ∀ i, i < 244 → (if 4 + k * 40 ≤ i ∧ i < 4 + k * 40 + 40 then iv (onC (ch f k) (nyOf f k) p n) (i - (4 + k * 40)) else iv f i) = iv (onP f k p) i := by
  have hm : ch f k 37 + 455 - (n : Int) * p = (ch f k 37 + 455) % p := by
    have := Int.emod_add_mul_ediv (ch f k 37 + 455) p
    rw [hd, Int.mul_comm] at this
    omega
  refine chan_back (fun j hj => ?_) (fun i hi => ?_)
  · show ch (onP f k p) k j = _
    unfold onP onC
    rw [if_pos hg, hm, hd]
    rcases hn : nyOf f k with _ | _
    · simp only [Bool.false_eq_true, if_false]
      rw [ch_up _ _ _ _ _ _ (by decide) hj, ch_up _ _ _ _ _ _ (by decide) hj]
      by_cases h7 : j = 37
      · simp [h7]
      · by_cases h6 : j = 36
        · simp [h6]
        · simp [h7, h6]
    · simp only [if_true]
      rw [ch_up _ _ _ _ _ _ (by decide) hj, ch_up _ _ _ _ _ _ (by decide) hj]
      by_cases h7 : j = 37
      · simp [h7]
      · by_cases h8 : j = 38
        · simp [h8]
        · simp [h7, h8]
  · unfold onP
    rw [if_pos hg]
    split
    · rw [up_other _ _ _ _ (by omega), up_other _ _ _ _ (by omega)]
    · rw [up_other _ _ _ _ (by omega), up_other _ _ _ _ (by omega)]
theorem goOf_is {f : Nat → Int} (ok : okP f) {k : Nat} (hk : k < 6) : goOf f k = decide (ch f k 1 / 64 = 2) := by
  have x1 := (ok.chan hk).2.1
  unfold goOf soOf drOf
  rw [Bool.eq_iff_iff]
  simp
  omega
set_option maxHeartbeats 1600000 in
theorem ron_no (f : Nat → Int) (ok : okP f) (k : Nat) (hk : k < 6) (hg : goOf f k = false) (w : World) : Calls Tryd.prog 21 #[.agg (rowF (iv f) 244), .int .i64 (k : Int)] w fun e w' => e = Ending.returned (.agg (rowF (iv (onK f k)) 244)) ∧ Below w.heap.size w w' := by
  have hq : onK f k = f := by unfold onK onP; rw [hg]; rfl
  rw [hq]
  rw [goOf_is ok hk] at hg
  have x1 := (ok.chan hk).2.1
  have q1 : Int.tdiv (ch f k 1) 64 = ch f k 1 / 64 := Int.tdiv_eq_ediv_of_nonneg (by omega)
  have q2 : (ch f k 1 / 64 == 2) = false := by simpa using hg
  clear hq hg
  set_option maxRecDepth 20000 in
  go_enter Tryd.func21, Tryd.ntmps21
  set_option maxRecDepth 20000 in
  go_wp2_with (first
    | (refine wpList_alloced rfl 34 rfl (rowF (iv fun _ => 0) 244) zero_R ?_)
    | (refine under_list fun w1 hw1 => ?_; obtain ⟨n0, n1, n2, n3⟩ := two_named hw1; have P1 : Hid (HasF 34 w1 w.heap.size 244 (iv f)) := hide n0; have Z1 : Hid (HasF 34 w1 (w.heap.size + 1) 244 (iv fun _ => 0)) := hide n1; have B1 := hide n3; clear n0 n1 n2 n3 hw1; refine wpList_load_ints rfl 31 (.tmp 9) rfl w.heap.size (4 + k * 40) rfl P1.out 40 (by omega) _ Tryd.underlying31 rfl info_D40 ?_)
    | (refine wpList_alloced rfl 31 rfl (rowF (iv fun _ => 0) 40) zero_D ?_)
    | (refine wpList_store_row rfl 31 (.tmp 5) (.tmp 10) rfl w1.heap.size (rowF (iv (ch f k)) 40) (by simp [Act.eval, Act.put]) rfl 31 _ (hasF_new _ _ _ _) (info_D _) (by rw [rowF_size, rowF_size]) (rowF_one _ _) ?_; refine under_list fun w2 hh => ?_; have C2 : Hid (HasF 31 w2 w1.heap.size 40 (iv (ch f k))) := hide (by rw [hh]; exact setRow_heap _ _ _ _ _ _ (hasF_new _ _ _ _)); have W2 : Below w1.heap.size w1 w2 := (by rw [hh]; exact below_setRow ((Below.refl _ _).alloc (Nat.le_refl _) _) (Nat.le_refl _) _); have P2 := hide (P1.out.next W2); have Z2 := hide (Z1.out.next W2); have B2 := hide (bnext B1.out W2); have y1 := C2.out.int 1 (by decide); have y37 := C2.out.int 37 (by decide); have z37 := C2.out.frozen 37; have LG : Hid (w.heap.size ≤ w1.heap.size) := hide B1.out.size; clear hh W2 P1 Z1 B1)
    | (refine wpList_load_row rfl 34 (.tmp 2) rfl w.heap.size rfl _ _ _ _ P2.out Tryd.underlying34 rfl (info_R _) ?_)
    | (refine wpList_store_row rfl 34 (.tmp 4) (.tmp 15) rfl (w.heap.size + 1) _ rfl rfl 34 _ Z2.out (info_R _) (by rw [rowF_size, rowF_size]) (rowF_one _ _) ?_))
  refine bodyPost_ret (results_cell_row rfl _ _ (w.heap.size + 1) 34 _ (0, 0) _ rfl (setRow_heap _ _ _ _ _ _ Z2.out) Tryd.underlying34 rfl (info_R _)) rfl ?_
  exact ⟨rfl, below_setRow B2.out (Nat.le_succ _) _⟩
set_option maxHeartbeats 8000000 in
theorem ron_yes (f : Nat → Int) (ok : okP f) (k : Nat) (hk : k < 6) (hg : goOf f k = true) (w : World) : Calls Tryd.prog 21 #[.agg (rowF (iv f) 244), .int .i64 (k : Int)] w fun e w' => e = Ending.returned (.agg (rowF (iv (onK f k)) 244)) ∧ Below w.heap.size w w' := by
  obtain ⟨x0, x1, x2, x3, x4, x5, x6, x7, x8⟩ := ok.chan hk
  have KN := hide (fun w => rnoisy_any f k hk w)
  have KP := hide (fun w => rper_any f ok k hk w)
  have pk := perK_in ok hk
  have HB := hide (fun n hd => on_back f k (perK f k) n hg hd)
  have HK := hide (show onP f k (perK f k) = onK f k from rfl)
  rw [HK.out] at HB
  obtain ⟨p, hp⟩ : ∃ p, perK f k = p := ⟨_, rfl⟩
  rw [hp] at KP pk HB
  have q1 : Int.tdiv (ch f k 1) 64 = 2 := by rw [Int.tdiv_eq_ediv_of_nonneg (by omega)]; rw [goOf_is ok hk] at hg; simpa using hg
  obtain ⟨a, ha⟩ : ∃ a, ch f k 37 + 455 = a := ⟨_, rfl⟩
  have a0 : 455 ≤ a ∧ a ≤ 16777670 := by omega
  have C0 := hide (onC_0 (ch f k) (nyOf f k) p (by omega) x4)
  rw [ha] at C0 HB
  clear hg hp HK x8
  set_option maxRecDepth 20000 in
  go_enter Tryd.func21, Tryd.ntmps21
  set_option maxRecDepth 20000 in
  go_wp2_with (first
    | (refine wpList_alloced rfl 34 rfl (rowF (iv fun _ => 0) 244) zero_R ?_)
    | (refine under_list fun w1 hw1 => ?_; obtain ⟨n0, n1, n2, n3⟩ := two_named hw1; have P1 : Hid (HasF 34 w1 w.heap.size 244 (iv f)) := hide n0; have Z1 : Hid (HasF 34 w1 (w.heap.size + 1) 244 (iv fun _ => 0)) := hide n1; have B1 := hide n3; clear n0 n1 n2 n3 hw1; refine wpList_load_ints rfl 31 (.tmp 9) rfl w.heap.size (4 + k * 40) rfl P1.out 40 (by omega) _ Tryd.underlying31 rfl info_D40 ?_)
    | (refine wpList_alloced rfl 31 rfl (rowF (iv fun _ => 0) 40) zero_D ?_)
    | (refine wpList_store_row rfl 31 (.tmp 5) (.tmp 10) rfl w1.heap.size (rowF (iv (ch f k)) 40) (by simp [Act.eval, Act.put]) rfl 31 _ (hasF_new _ _ _ _) (info_D _) (by rw [rowF_size, rowF_size]) (rowF_one _ _) ?_; refine under_list fun w2 hh => ?_; have C2 : Hid (HasF 31 w2 w1.heap.size 40 (iv (ch f k))) := hide (by rw [hh]; exact setRow_heap _ _ _ _ _ _ (hasF_new _ _ _ _)); have W2 : Below w1.heap.size w1 w2 := (by rw [hh]; exact below_setRow ((Below.refl _ _).alloc (Nat.le_refl _) _) (Nat.le_refl _) _); have P2 := hide (P1.out.next W2); have Z2 := hide (Z1.out.next W2); have B2 := hide (bnext B1.out W2); have y1 := C2.out.int 1 (by decide); have y37 := C2.out.int 37 (by decide); have z37 := C2.out.frozen 37; have LG : Hid (w.heap.size ≤ w1.heap.size) := hide B1.out.size; clear hh W2 P1 Z1 B1)
    | (refine under_list fun w3 hh => ?_; have C3 : Hid (HasF 31 w3 w1.heap.size 40 (iv (onC (ch f k) (nyOf f k) p 0))) := hide (by rw [hh, ← C0.out, ← ha]; exact C2.out.up _ _); have NS : Hid (w.heap.size ≠ w1.heap.size) := hide (types_two P2.out C2.out (by decide)); have NZ : Hid (w.heap.size + 1 ≠ w1.heap.size) := hide (types_two Z2.out C2.out (by decide)); have P3 : Hid (HasF 34 w3 w.heap.size 244 (iv f)) := hide (by rw [hh]; exact P2.out.other _ _ NS.out); have Z3 : Hid (HasF 34 w3 (w.heap.size + 1) 244 (iv fun _ => 0)) := hide (by rw [hh]; exact Z2.out.other _ _ NZ.out); have B3 : Hid (Below w.heap.size w w3) := hide (by rw [hh]; exact Below.setCell (p := ⟨w1.heap.size, 37, none⟩) B2.out LG.out _); clear hh C2 P2 Z2 B2 y1 y37 z37; refine wpList_load_row rfl 34 (.tmp 2) rfl w.heap.size rfl _ _ _ _ P3.out Tryd.underlying34 rfl (info_R _) ?_)
    | (go_at_call 39; refine (KP.out _).mono ?_; rintro e w4 ⟨rfl, c4⟩; have C4 := hide (C3.out.next c4); have P4 := hide (P3.out.next c4); have Z4 := hide (Z3.out.next c4); have B4 := hide (bnext B3.out c4); clear c4 C3 P3 Z3 B3))
  generalize w1.heap.size = g5 at *
  obtain ⟨s0, hs0⟩ : ∃ s, w.heap.size = s := ⟨_, rfl⟩
  rw [hs0] at P4 Z4 B4 NS NZ LG ⊢
  have S0 : Hid (s0 ≤ w.heap.size) := hide (by omega)
  go_loopw [24] (fun _ w' => ∃ i : Nat, (i : Int) * p ≤ a ∧ i ≤ 16777670 ∧ HasF 31 w' g5 40 (iv (onC (ch f k) (nyOf f k) p i)) ∧ HasF 34 w' s0 244 (iv f) ∧ HasF 34 w' (s0 + 1) 244 (iv fun _ => 0) ∧ Below s0 w w') (fun _ w' => natAt w' g5 37)
  case atStart => exact ⟨0, by omega, by decide, C4.out, P4.out, Z4.out, B4.out⟩
  case round =>
    clear C4 P4 Z4 B4
    obtain ⟨i, hi, hi2, h1, h2, h3, h4⟩ := hrel
    have y37 : wr.cell? ⟨g5, 37, none⟩ = some (.int .i64 (a - (i : Int) * p)) := by rw [← ha]; exact h1.int 37 (by decide)
    have z37 := h1.frozen 37
    have C4 := hide h1
    have P4 := hide h2
    have Z4 := hide h3
    have B4 := hide h4
    have NM := hide (natAt_is y37)
    clear h1 h2 h3 h4
    by_cases hge : p ≤ a - (i : Int) * p
    · have hi3 : ((i + 1 : Nat) : Int) * p ≤ a := by rw [show ((i + 1 : Nat) : Int) = (i : Int) + 1 by omega, Int.add_mul]; omega
      have hi4 : i + 1 ≤ 16777670 := by
        have : ((i + 1 : Nat) : Int) * 1 ≤ ((i + 1 : Nat) : Int) * p := Int.mul_le_mul_of_nonneg_left (by omega) (by omega)
        omega
      have ip : 0 ≤ (i : Int) * p := Int.mul_nonneg (by omega) (by omega)
      have dg : decide (p ≤ a - (i : Int) * p) = true := by simp [hge]
      obtain ⟨d, hd⟩ : ∃ d, a - (i : Int) * p = d := ⟨_, rfl⟩
      rw [hd] at y37 hge dg NM
      have d2 : d ≤ 16777670 := by omega
      rcases hn : nyOf f k with _ | _
      · rw [hn] at KN C4
        have OC := hide (onC_false (ch f k) p i)
        rw [ha, hd] at OC
        have i36 : 0 ≤ (ch f k 36 + (i : Int)) % 32 ∧ (ch f k 36 + (i : Int)) % 32 ≤ 31 := by omega
        obtain ⟨v, hv⟩ : ∃ v, (ch f k 36 + (i : Int)) % 32 = v := ⟨_, rfl⟩
        rw [hv] at OC i36
        have q3 : Int.tmod (v + 1) 32 = (v + 1) % 32 := Int.tmod_eq_emod_of_nonneg (by omega)
        set_option maxRecDepth 20000 in
        go_wp2_with (first
          | (refine under_list fun w5 hh => ?_; have C5 : Hid (HasF 31 w5 g5 40 (iv (up (onC (ch f k) false p i) 37 (d - p)))) := hide (by rw [hh]; exact C4.out.up _ _); have P5 : Hid (HasF 34 w5 s0 244 (iv f)) := hide (by rw [hh]; exact P4.out.other _ _ NS.out); have Z5 : Hid (HasF 34 w5 (s0 + 1) 244 (iv fun _ => 0)) := hide (by rw [hh]; exact Z4.out.other _ _ NZ.out); have B5 : Hid (Below s0 w w5) := hide (by rw [hh]; exact Below.setCell (p := ⟨g5, 37, none⟩) B4.out LG.out _); clear hh C4 P4 Z4 B4; refine wpList_load_row rfl 34 (.tmp 2) rfl s0 rfl _ _ _ _ P5.out Tryd.underlying34 rfl (info_R _) ?_)
          | (go_at_call 23; refine (KN.out _).mono ?_; rintro e w6 ⟨rfl, c6⟩; have C6 := hide (C5.out.next c6); have P6 := hide (P5.out.next c6); have Z6 := hide (Z5.out.next c6); have B6 := hide (bnext3 B5.out S0.out c6); have y36 : w6.cell? ⟨g5, 36, none⟩ = some (.int .i64 v) := (by rw [← hv]; exact C6.out.int 36 (by decide)); have z36 := C6.out.frozen 36; clear c6 C5 P5 Z5 B5)
          | fail)
        exact ⟨⟨i + 1, hi3, hi4, by rw [← OC.out]; exact C6.out.up _ _, P6.out.other _ _ NS.out, Z6.out.other _ _ NZ.out, Below.setCell (p := ⟨g5, 36, none⟩) B6.out LG.out _⟩, by
          rw [natAt_is ((C6.out.up 36 ((v + 1) % 32)).int 37 (by decide)), NM.out]
          show (d - p).toNat < d.toNat
          omega⟩
      · rw [hn] at KN C4
        have jn := jumpN_in (s := (ch f k 38).toNat) (by omega) (by omega) i
        have es : stOf ((jumpN (ch f k 38).toNat i : Nat) : Int) = jumpN (ch f k 38).toNat i := stOf_same jn.1 jn.2
        have KS := hide (fun u => rstep_any ((jumpN (ch f k 38).toNat i : Nat) : Int) u)
        rw [es] at KS
        have OC := hide (onC_true (ch f k) p i _ rfl)
        rw [ha, hd] at OC
        obtain ⟨v, hv⟩ : ∃ v : Int, ((jumpN (ch f k 38).toNat i : Nat) : Int) = v := ⟨_, rfl⟩
        have hv2 : ((stepN (jumpN (ch f k 38).toNat i) : Nat) : Int) = ((jumpN (ch f k 38).toNat (i + 1) : Nat) : Int) := rfl
        rw [hv, hv2] at KS
        generalize ((jumpN (ch f k 38).toNat (i + 1) : Nat) : Int) = v2 at *
        set_option maxRecDepth 20000 in
        go_wp2_with (first
          | (refine under_list fun w5 hh => ?_; have C5 : Hid (HasF 31 w5 g5 40 (iv (up (onC (ch f k) true p i) 37 (d - p)))) := hide (by rw [hh]; exact C4.out.up _ _); have P5 : Hid (HasF 34 w5 s0 244 (iv f)) := hide (by rw [hh]; exact P4.out.other _ _ NS.out); have Z5 : Hid (HasF 34 w5 (s0 + 1) 244 (iv fun _ => 0)) := hide (by rw [hh]; exact Z4.out.other _ _ NZ.out); have B5 : Hid (Below s0 w w5) := hide (by rw [hh]; exact Below.setCell (p := ⟨g5, 37, none⟩) B4.out LG.out _); clear hh C4 P4 Z4 B4; refine wpList_load_row rfl 34 (.tmp 2) rfl s0 rfl _ _ _ _ P5.out Tryd.underlying34 rfl (info_R _) ?_)
          | (go_at_call 23; refine (KN.out _).mono ?_; rintro e w6 ⟨rfl, c6⟩; have C6 := hide (C5.out.next c6); have P6 := hide (P5.out.next c6); have Z6 := hide (Z5.out.next c6); have B6 := hide (bnext3 B5.out S0.out c6); have y38 : w6.cell? ⟨g5, 38, none⟩ = some (.int .i64 v) := (by rw [← hv]; exact C6.out.int 38 (by decide)); have z38 := C6.out.frozen 38; clear c6 C5 P5 Z5 B5)
          | (go_at_call 40; refine (KS.out _).mono ?_; rintro e w' ⟨rfl, hw⟩; subst w'))
        exact ⟨⟨i + 1, hi3, hi4, by rw [← OC.out]; exact C6.out.up _ _, P6.out.other _ _ NS.out, Z6.out.other _ _ NZ.out, Below.setCell (p := ⟨g5, 38, none⟩) B6.out LG.out _⟩, by
          rw [natAt_is ((C6.out.up 38 v2).int 37 (by decide)), NM.out]
          show (d - p).toNat < d.toNat
          omega⟩
    · have hd : a / p = (i : Int) := by
        refine (Int.ediv_eq_iff_of_pos pk.1).2 ?_
        have e : ((i : Int) + 1) * p = (i : Int) * p + p := by rw [Int.add_mul]; omega
        omega
      have HG := hide (HB.out i hd)
      have dg : decide (p ≤ a - (i : Int) * p) = false := by simp; omega
      have ip : 0 ≤ (i : Int) * p := Int.mul_nonneg (by omega) (by omega)
      obtain ⟨d, hd2⟩ : ∃ d, a - (i : Int) * p = d := ⟨_, rfl⟩
      rw [hd2] at y37 dg hge
      obtain ⟨cF, hcF⟩ : ∃ cF, onC (ch f k) (nyOf f k) p i = cF := ⟨_, rfl⟩
      rw [hcF] at C4 HG
      obtain ⟨G, hG⟩ : ∃ G, onK f k = G := ⟨_, rfl⟩
      rw [hG] at HG
      replace hG := hide hG
      clear HB hd hcF
      set_option maxRecDepth 20000 in
      go_wp2_with (first
        | (refine wpList_load_row rfl 31 (.tmp 5) rfl g5 rfl _ _ _ _ C4.out Tryd.underlying31 rfl (info_D _) ?_)
        | (refine wpList_store_part rfl 31 (.tmp 47) (.tmp 45) rfl s0 (4 + k * 40) 40 (iv cF) rfl rfl P4.out (by omega) info_D40 (fun _ _ => rfl) ?_; refine under_list fun w5 hh => ?_; have b5 : But s0 wr w5 := (by rw [hh]; exact But.cells _ _ _ (But.refl _ _)); have P5 : Hid (HasF 34 w5 s0 244 (iv G)) := hide (by rw [hh]; exact (P4.out.cells _ _ _).ext HG.out); have Z5 := hide (b5.keep Z4.out (Nat.succ_ne_self _)); have B5 := hide (bbut B4.out b5 (Nat.le_refl _) S0.out); clear hh b5 C4 P4 Z4 B4)
        | (refine wpList_load_row rfl 34 (.tmp 2) rfl s0 rfl _ _ _ _ P5.out Tryd.underlying34 rfl (info_R _) ?_)
        | (refine wpList_store_row rfl 34 (.tmp 4) (.tmp 48) rfl (s0 + 1) _ rfl rfl 34 _ Z5.out (info_R _) (by rw [rowF_size, rowF_size]) (rowF_one _ _) ?_))
      refine bodyPost_ret (results_cell_row rfl _ _ (s0 + 1) 34 _ (0, 0) _ rfl (setRow_heap _ _ _ _ _ _ Z5.out) Tryd.underlying34 rfl (info_R _)) rfl ?_
      exact ⟨by rw [hG.out], by first | exact below_setRow B5.out (Nat.le_succ _) _ | (rw [hs0]; exact below_setRow B5.out (Nat.le_succ _) _)⟩
theorem ron_any (f : Nat → Int) (ok : okP f) (k : Nat) (hk : k < 6) (w : World) : Calls Tryd.prog 21 #[.agg (rowF (iv f) 244), .int .i64 (k : Int)] w fun e w' => e = Ending.returned (.agg (rowF (iv (onK f k)) 244)) ∧ Below w.heap.size w w' := by
  rcases hg : goOf f k with _ | _
  · exact ron_no f ok k hk hg w
  · exact ron_yes f ok k hk hg w
end Go.Proofs.YtcpilhbinkamiaaDoor
