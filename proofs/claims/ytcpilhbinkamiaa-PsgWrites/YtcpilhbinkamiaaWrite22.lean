/- Package psg: Write. -/
import Derived.Test.YtcpilhbinkamiaaWr22
namespace Go.Proofs.Ytcpilhbinkamiaa
open Go.RowKit
set_option linter.unusedVariables false

set_option maxHeartbeats 1600000 in
theorem write_no (f : Nat → Int) (at_ b : Int) (hv : vB f = false) (w : World) : Calls Try.prog 6 #[.agg (rowF (iv f) 244), .int .i64 at_, .int .i64 b] w fun e w' => e = Ending.returned (.agg (rowF (iv f) 244)) ∧ Below w.heap.size w w' := by
  have KV := hide (fun w => valid_any f w)
  rw [hv] at KV
  clear hv
  go_enter Try.func6, Try.ntmps6
  set_option maxRecDepth 20000 in
  go_wp2_with (first
    | (refine wpList_alloced rfl 27 rfl (rowF (iv fun _ => 0) 244) zero_P ?_)
    | (refine under_list fun w1 hw1 => ?_; obtain ⟨n0, n1, n2, n3⟩ := two_named hw1; have P1 : Hid (HasF 27 w1 w.heap.size 244 (iv f)) := hide n0; have Z1 : Hid (HasF 27 w1 (w.heap.size + 1) 244 (iv fun _ => 0)) := hide n1; have B1 := hide n3; clear n0 n1 n2 n3 hw1; refine wpList_load_row rfl 27 (.tmp 3) rfl w.heap.size rfl _ _ _ _ P1.out Try.underlying27 rfl (info_P _) ?_)
    | (go_at_call 8; refine (KV.out _).mono ?_; rintro e w2 ⟨rfl, c2⟩; have P2 := hide (P1.out.next c2); have Z2 := hide (Z1.out.next c2); have B2 := hide (bnext B1.out c2); skip; clear c2 P1 Z1 B1)
    | (refine wpList_load_row rfl 27 (.tmp 3) rfl w.heap.size rfl _ _ _ _ P2.out Try.underlying27 rfl (info_P _) ?_)
    | (refine wpList_store_row rfl 27 (.tmp 6) (.tmp 10) rfl (w.heap.size + 1) _ rfl rfl 27 _ Z2.out (info_P _) (by rw [rowF_size, rowF_size]) (rowF_one _ _) ?_))
  refine bodyPost_ret (results_cell_row rfl _ _ (w.heap.size + 1) 27 _ (0, 0) _ rfl (setRow_heap _ _ _ _ _ _ Z2.out) Try.underlying27 rfl (info_P _)) rfl ?_
  exact ⟨rfl, below_setRow B2.out (Nat.le_succ _) _⟩

theorem wr0_is (f : Nat → Int) (b : Int) : wrF f 0 b = up f 0 (b % 8) := by
  unfold wrF
  rw [if_pos rfl, show b % 256 % 8 = b % 8 by omega]
set_option maxHeartbeats 1600000 in
theorem write_0 (f : Nat → Int) (b : Int) (w : World) (KV : Hid (∀ w : World, Calls Try.prog 8 #[.agg (rowF (iv f) 244)] w fun e w' => e = Ending.returned (.bool true) ∧ Below w.heap.size w w')) : Calls Try.prog 6 #[.agg (rowF (iv f) 244), .int .i64 0, .int .i64 b] w fun e w' => e = Ending.returned (.agg (rowF (iv (wrF f 0 b)) 244)) ∧ Below w.heap.size w w' := by
  have HE : Hid (∀ u : World, HasF 27 u w.heap.size 244 (iv f) → HasF 27 (u.setCell ⟨w.heap.size, 0, none⟩ (.int .i64 (b%8))) w.heap.size 244 (iv (wrF f 0 b))) := hide (fun u hu => by rw [wr0_is]; exact hu.up _ _)
  have mk := and_7 (b % 256)
  have mk2 : b % 256 % 8 = b % 8 := by omega
  obtain ⟨at_, hat⟩ : ∃ a : Int, a = 0 := ⟨_, rfl⟩
  rw [← hat] at HE
  replace hat := hide hat
  have hlit : Hid (wrF f at_ b = wrF f 0 b) := hide (by rw [hat.out])
  go_enter Try.func6, Try.ntmps6
  set_option maxRecDepth 20000 in
  go_wp2_with (first
    | (refine wpList_alloced rfl 27 rfl (rowF (iv fun _ => 0) 244) zero_P ?_)
    | (refine under_list fun w1 hw1 => ?_; obtain ⟨n0, n1, n2, n3⟩ := two_named hw1; have P1 : Hid (HasF 27 w1 w.heap.size 244 (iv f)) := hide n0; have Z1 : Hid (HasF 27 w1 (w.heap.size + 1) 244 (iv fun _ => 0)) := hide n1; have B1 := hide n3; clear n0 n1 n2 n3 hw1; refine wpList_load_row rfl 27 (.tmp 3) rfl w.heap.size rfl _ _ _ _ P1.out Try.underlying27 rfl (info_P _) ?_)
    | (go_at_call 8; refine (KV.out _).mono ?_; rintro e w2 ⟨rfl, c2⟩; have P2 := hide (P1.out.next c2); have Z2 := hide (Z1.out.next c2); have B2 := hide (bnext B1.out c2); have cq := P2.out.int 0 (by decide); have zq := P2.out.frozen 0; clear c2 P1 Z1 B1)
    | (go_at_call 10; refine (byte_any _ _).mono ?_; rintro e w' ⟨rfl, hw⟩; subst w')
    | (refine under_list fun w5 hw5 => ?_; have P5 : Hid (HasF 27 w5 w.heap.size 244 (iv (wrF f at_ b))) := hide (by rw [hw5]; exact HE.out _ P2.out); have Z5 : Hid (HasF 27 w5 (w.heap.size + 1) 244 (iv fun _ => 0)) := hide (by rw [hw5]; exact Z2.out.other _ _ (Nat.succ_ne_self _)); have B5 : Hid (Below w.heap.size w w5) := hide (by rw [hw5]; exact Below.setCell (p := ⟨w.heap.size, 0, none⟩) B2.out (Nat.le_refl _) _); clear hw5; refine wpList_load_row rfl 27 (.tmp 3) rfl w.heap.size rfl _ _ _ _ P5.out Try.underlying27 rfl (info_P _) ?_)
    | (refine wpList_store_row rfl 27 (.tmp 6) (.tmp 43) rfl (w.heap.size + 1) _ rfl rfl 27 _ Z5.out (info_P _) (by rw [rowF_size, rowF_size]) (rowF_one _ _) ?_))
  refine bodyPost_ret (results_cell_row rfl _ _ (w.heap.size + 1) 27 _ (0, 0) _ rfl (setRow_heap _ _ _ _ _ _ Z5.out) Try.underlying27 rfl (info_P _)) rfl ?_
  exact ⟨by rw [hlit.out], below_setRow B5.out (Nat.le_succ _) _⟩
set_option maxHeartbeats 1600000 in
theorem write_1 (f : Nat → Int) (b : Int) (w : World) (KV : Hid (∀ w : World, Calls Try.prog 8 #[.agg (rowF (iv f) 244)] w fun e w' => e = Ending.returned (.bool true) ∧ Below w.heap.size w w')) : Calls Try.prog 6 #[.agg (rowF (iv f) 244), .int .i64 1, .int .i64 b] w fun e w' => e = Ending.returned (.agg (rowF (iv (wrF f 1 b)) 244)) ∧ Below w.heap.size w w' := by
  have HE : Hid (∀ u : World, HasF 27 u w.heap.size 244 (iv f) → HasF 27 (u.setCell ⟨w.heap.size, 1, none⟩ (.int .i64 (b%256))) w.heap.size 244 (iv (wrF f 1 b))) := hide (fun u hu => hu.up _ _)
  have mk := and_7 (b % 256)
  have mk2 : b % 256 % 8 = b % 8 := by omega
  obtain ⟨at_, hat⟩ : ∃ a : Int, a = 1 := ⟨_, rfl⟩
  rw [← hat] at HE
  replace hat := hide hat
  have hlit : Hid (wrF f at_ b = wrF f 1 b) := hide (by rw [hat.out])
  go_enter Try.func6, Try.ntmps6
  set_option maxRecDepth 20000 in
  go_wp2_with (first
    | (refine wpList_alloced rfl 27 rfl (rowF (iv fun _ => 0) 244) zero_P ?_)
    | (refine under_list fun w1 hw1 => ?_; obtain ⟨n0, n1, n2, n3⟩ := two_named hw1; have P1 : Hid (HasF 27 w1 w.heap.size 244 (iv f)) := hide n0; have Z1 : Hid (HasF 27 w1 (w.heap.size + 1) 244 (iv fun _ => 0)) := hide n1; have B1 := hide n3; clear n0 n1 n2 n3 hw1; refine wpList_load_row rfl 27 (.tmp 3) rfl w.heap.size rfl _ _ _ _ P1.out Try.underlying27 rfl (info_P _) ?_)
    | (go_at_call 8; refine (KV.out _).mono ?_; rintro e w2 ⟨rfl, c2⟩; have P2 := hide (P1.out.next c2); have Z2 := hide (Z1.out.next c2); have B2 := hide (bnext B1.out c2); have cq := P2.out.int 1 (by decide); have zq := P2.out.frozen 1; clear c2 P1 Z1 B1)
    | (go_at_call 10; refine (byte_any _ _).mono ?_; rintro e w' ⟨rfl, hw⟩; subst w')
    | (refine under_list fun w5 hw5 => ?_; have P5 : Hid (HasF 27 w5 w.heap.size 244 (iv (wrF f at_ b))) := hide (by rw [hw5]; exact HE.out _ P2.out); have Z5 : Hid (HasF 27 w5 (w.heap.size + 1) 244 (iv fun _ => 0)) := hide (by rw [hw5]; exact Z2.out.other _ _ (Nat.succ_ne_self _)); have B5 : Hid (Below w.heap.size w w5) := hide (by rw [hw5]; exact Below.setCell (p := ⟨w.heap.size, 1, none⟩) B2.out (Nat.le_refl _) _); clear hw5; refine wpList_load_row rfl 27 (.tmp 3) rfl w.heap.size rfl _ _ _ _ P5.out Try.underlying27 rfl (info_P _) ?_)
    | (refine wpList_store_row rfl 27 (.tmp 6) (.tmp 43) rfl (w.heap.size + 1) _ rfl rfl 27 _ Z5.out (info_P _) (by rw [rowF_size, rowF_size]) (rowF_one _ _) ?_))
  refine bodyPost_ret (results_cell_row rfl _ _ (w.heap.size + 1) 27 _ (0, 0) _ rfl (setRow_heap _ _ _ _ _ _ Z5.out) Try.underlying27 rfl (info_P _)) rfl ?_
  exact ⟨by rw [hlit.out], below_setRow B5.out (Nat.le_succ _) _⟩
set_option maxHeartbeats 1600000 in
theorem write_8 (f : Nat → Int) (b : Int) (w : World) (KV : Hid (∀ w : World, Calls Try.prog 8 #[.agg (rowF (iv f) 244)] w fun e w' => e = Ending.returned (.bool true) ∧ Below w.heap.size w w')) : Calls Try.prog 6 #[.agg (rowF (iv f) 244), .int .i64 8, .int .i64 b] w fun e w' => e = Ending.returned (.agg (rowF (iv (wrF f 8 b)) 244)) ∧ Below w.heap.size w w' := by
  have HE : Hid (∀ u : World, HasF 27 u w.heap.size 244 (iv f) → HasF 27 (u.setCell ⟨w.heap.size, 2, none⟩ (.int .i64 (b%256))) w.heap.size 244 (iv (wrF f 8 b))) := hide (fun u hu => hu.up _ _)
  have mk := and_7 (b % 256)
  have mk2 : b % 256 % 8 = b % 8 := by omega
  obtain ⟨at_, hat⟩ : ∃ a : Int, a = 8 := ⟨_, rfl⟩
  rw [← hat] at HE
  replace hat := hide hat
  have hlit : Hid (wrF f at_ b = wrF f 8 b) := hide (by rw [hat.out])
  go_enter Try.func6, Try.ntmps6
  set_option maxRecDepth 20000 in
  go_wp2_with (first
    | (refine wpList_alloced rfl 27 rfl (rowF (iv fun _ => 0) 244) zero_P ?_)
    | (refine under_list fun w1 hw1 => ?_; obtain ⟨n0, n1, n2, n3⟩ := two_named hw1; have P1 : Hid (HasF 27 w1 w.heap.size 244 (iv f)) := hide n0; have Z1 : Hid (HasF 27 w1 (w.heap.size + 1) 244 (iv fun _ => 0)) := hide n1; have B1 := hide n3; clear n0 n1 n2 n3 hw1; refine wpList_load_row rfl 27 (.tmp 3) rfl w.heap.size rfl _ _ _ _ P1.out Try.underlying27 rfl (info_P _) ?_)
    | (go_at_call 8; refine (KV.out _).mono ?_; rintro e w2 ⟨rfl, c2⟩; have P2 := hide (P1.out.next c2); have Z2 := hide (Z1.out.next c2); have B2 := hide (bnext B1.out c2); have cq := P2.out.int 2 (by decide); have zq := P2.out.frozen 2; clear c2 P1 Z1 B1)
    | (go_at_call 10; refine (byte_any _ _).mono ?_; rintro e w' ⟨rfl, hw⟩; subst w')
    | (refine under_list fun w5 hw5 => ?_; have P5 : Hid (HasF 27 w5 w.heap.size 244 (iv (wrF f at_ b))) := hide (by rw [hw5]; exact HE.out _ P2.out); have Z5 : Hid (HasF 27 w5 (w.heap.size + 1) 244 (iv fun _ => 0)) := hide (by rw [hw5]; exact Z2.out.other _ _ (Nat.succ_ne_self _)); have B5 : Hid (Below w.heap.size w w5) := hide (by rw [hw5]; exact Below.setCell (p := ⟨w.heap.size, 2, none⟩) B2.out (Nat.le_refl _) _); clear hw5; refine wpList_load_row rfl 27 (.tmp 3) rfl w.heap.size rfl _ _ _ _ P5.out Try.underlying27 rfl (info_P _) ?_)
    | (refine wpList_store_row rfl 27 (.tmp 6) (.tmp 43) rfl (w.heap.size + 1) _ rfl rfl 27 _ Z5.out (info_P _) (by rw [rowF_size, rowF_size]) (rowF_one _ _) ?_))
  refine bodyPost_ret (results_cell_row rfl _ _ (w.heap.size + 1) 27 _ (0, 0) _ rfl (setRow_heap _ _ _ _ _ _ Z5.out) Try.underlying27 rfl (info_P _)) rfl ?_
  exact ⟨by rw [hlit.out], below_setRow B5.out (Nat.le_succ _) _⟩
set_option maxHeartbeats 1600000 in
theorem write_9 (f : Nat → Int) (b : Int) (w : World) (KV : Hid (∀ w : World, Calls Try.prog 8 #[.agg (rowF (iv f) 244)] w fun e w' => e = Ending.returned (.bool true) ∧ Below w.heap.size w w')) : Calls Try.prog 6 #[.agg (rowF (iv f) 244), .int .i64 9, .int .i64 b] w fun e w' => e = Ending.returned (.agg (rowF (iv (wrF f 9 b)) 244)) ∧ Below w.heap.size w w' := by
  have HE : Hid (∀ u : World, HasF 27 u w.heap.size 244 (iv f) → HasF 27 (u.setCell ⟨w.heap.size, 3, none⟩ (.int .i64 (b%256))) w.heap.size 244 (iv (wrF f 9 b))) := hide (fun u hu => hu.up _ _)
  have mk := and_7 (b % 256)
  have mk2 : b % 256 % 8 = b % 8 := by omega
  obtain ⟨at_, hat⟩ : ∃ a : Int, a = 9 := ⟨_, rfl⟩
  rw [← hat] at HE
  replace hat := hide hat
  have hlit : Hid (wrF f at_ b = wrF f 9 b) := hide (by rw [hat.out])
  go_enter Try.func6, Try.ntmps6
  set_option maxRecDepth 20000 in
  go_wp2_with (first
    | (refine wpList_alloced rfl 27 rfl (rowF (iv fun _ => 0) 244) zero_P ?_)
    | (refine under_list fun w1 hw1 => ?_; obtain ⟨n0, n1, n2, n3⟩ := two_named hw1; have P1 : Hid (HasF 27 w1 w.heap.size 244 (iv f)) := hide n0; have Z1 : Hid (HasF 27 w1 (w.heap.size + 1) 244 (iv fun _ => 0)) := hide n1; have B1 := hide n3; clear n0 n1 n2 n3 hw1; refine wpList_load_row rfl 27 (.tmp 3) rfl w.heap.size rfl _ _ _ _ P1.out Try.underlying27 rfl (info_P _) ?_)
    | (go_at_call 8; refine (KV.out _).mono ?_; rintro e w2 ⟨rfl, c2⟩; have P2 := hide (P1.out.next c2); have Z2 := hide (Z1.out.next c2); have B2 := hide (bnext B1.out c2); have cq := P2.out.int 3 (by decide); have zq := P2.out.frozen 3; clear c2 P1 Z1 B1)
    | (go_at_call 10; refine (byte_any _ _).mono ?_; rintro e w' ⟨rfl, hw⟩; subst w')
    | (refine under_list fun w5 hw5 => ?_; have P5 : Hid (HasF 27 w5 w.heap.size 244 (iv (wrF f at_ b))) := hide (by rw [hw5]; exact HE.out _ P2.out); have Z5 : Hid (HasF 27 w5 (w.heap.size + 1) 244 (iv fun _ => 0)) := hide (by rw [hw5]; exact Z2.out.other _ _ (Nat.succ_ne_self _)); have B5 : Hid (Below w.heap.size w w5) := hide (by rw [hw5]; exact Below.setCell (p := ⟨w.heap.size, 3, none⟩) B2.out (Nat.le_refl _) _); clear hw5; refine wpList_load_row rfl 27 (.tmp 3) rfl w.heap.size rfl _ _ _ _ P5.out Try.underlying27 rfl (info_P _) ?_)
    | (refine wpList_store_row rfl 27 (.tmp 6) (.tmp 43) rfl (w.heap.size + 1) _ rfl rfl 27 _ Z5.out (info_P _) (by rw [rowF_size, rowF_size]) (rowF_one _ _) ?_))
  refine bodyPost_ret (results_cell_row rfl _ _ (w.heap.size + 1) 27 _ (0, 0) _ rfl (setRow_heap _ _ _ _ _ _ Z5.out) Try.underlying27 rfl (info_P _)) rfl ?_
  exact ⟨by rw [hlit.out], below_setRow B5.out (Nat.le_succ _) _⟩
set_option maxHeartbeats 1600000 in
theorem write_else (f : Nat → Int) (b : Int) (w : World) (KV : Hid (∀ w : World, Calls Try.prog 8 #[.agg (rowF (iv f) 244)] w fun e w' => e = Ending.returned (.bool true) ∧ Below w.heap.size w w')) (ok : okP f) (at_ : Int) (h0 : ¬ at_ = 0) (h1 : ¬ at_ = 1) (h8 : ¬ at_ = 8) (h9 : ¬ at_ = 9) : Calls Try.prog 6 #[.agg (rowF (iv f) 244), .int .i64 at_, .int .i64 b] w fun e w' => e = Ending.returned (.agg (rowF (iv (wrF f at_ b)) 244)) ∧ Below w.heap.size w w' := by
  have y0 := ok.1
  by_cases hs : f 0 < 6
  · have HQ : Hid (wrF f at_ b = chW f (f 0).toNat at_ (b % 256)) := hide (by unfold wrF; simp [h0, h1, h8, h9, hs])
    obtain ⟨k, hk⟩ : ∃ k : Nat, f 0 = (k : Int) := ⟨(f 0).toNat, by omega⟩
    rw [show (f 0).toNat = k by omega] at HQ
    have hk6 : k < 6 := by omega
    have KC := hide (fun (u : World) (hu : HasF 27 u w.heap.size 244 (iv f)) => chw_any hu hk6 ok (b % 256) (by omega) (by omega) at_)
    rw [← HQ.out] at KC
    clear ok y0 hs
    go_enter Try.func6, Try.ntmps6
    set_option maxRecDepth 20000 in
    go_wp2_with (first
      | (refine wpList_alloced rfl 27 rfl (rowF (iv fun _ => 0) 244) zero_P ?_)
      | (refine under_list fun w1 hw1 => ?_; obtain ⟨n0, n1, n2, n3⟩ := two_named hw1; have P1 : Hid (HasF 27 w1 w.heap.size 244 (iv f)) := hide n0; have Z1 : Hid (HasF 27 w1 (w.heap.size + 1) 244 (iv fun _ => 0)) := hide n1; have B1 := hide n3; clear n0 n1 n2 n3 hw1; refine wpList_load_row rfl 27 (.tmp 3) rfl w.heap.size rfl _ _ _ _ P1.out Try.underlying27 rfl (info_P _) ?_)
      | (go_at_call 8; refine (KV.out _).mono ?_; rintro e w2 ⟨rfl, c2⟩; have P2 := hide (P1.out.next c2); have Z2 := hide (Z1.out.next c2); have B2 := hide (bnext B1.out c2); have c0 := P2.out.int 0 (by decide); rw [hk] at c0; clear c2 P1 Z1 B1)
      | (go_at_call 10; refine (byte_any _ _).mono ?_; rintro e w' ⟨rfl, hw⟩; subst w'))
    have k0 := kept_cell c0 P2.out.lt
    haveI := kept_some w2
    refine wp_region_kept_shut _ _ (show _ = [_, _, _, _, _, _, _, _] ++ [_] from rfl) (by kernel_rfl) (by kernel_rfl) (by kernel_rfl) ?_
    repeat (go_big_quiet_step (fail))
    refine wpQuiet_nil ?_
    rintro _ ⟨wk, rfl⟩
    have P3 := hide (P2.out.next wk.below)
    have Z3 := hide (Z2.out.next wk.below)
    have B3 := hide (bnext B2.out wk.below)
    clear P2 Z2 B2 k0 c0
    set_option maxRecDepth 20000 in
    go_wp2_with (first
      | (go_at_call 11; refine (KC.out _ P3.out).mono ?_; rintro e w5 ⟨rfl, h5, b5⟩; have P5 := hide h5; have Z5 := hide (b5.keep Z3.out (Nat.succ_ne_self _)); have B5 := hide (bbut B3.out b5 (Nat.le_refl _) (Nat.le_refl _)); clear h5 b5)
      | (refine wpList_load_row rfl 27 (.tmp 3) rfl w.heap.size rfl _ _ _ _ P5.out Try.underlying27 rfl (info_P _) ?_)
      | (refine wpList_store_row rfl 27 (.tmp 6) (.tmp 43) rfl (w.heap.size + 1) _ rfl rfl 27 _ Z5.out (info_P _) (by rw [rowF_size, rowF_size]) (rowF_one _ _) ?_))
    refine bodyPost_ret (results_cell_row rfl _ _ (w.heap.size + 1) 27 _ (0, 0) _ rfl (setRow_heap _ _ _ _ _ _ Z5.out) Try.underlying27 rfl (info_P _)) rfl ?_
    exact ⟨rfl, below_setRow B5.out (Nat.le_succ _) _⟩
  · have HQ : Hid (wrF f at_ b = f) := hide (by unfold wrF; simp [h0, h1, h8, h9, hs])
    clear ok
    go_enter Try.func6, Try.ntmps6
    set_option maxRecDepth 20000 in
    go_wp2_with (first
      | (refine wpList_alloced rfl 27 rfl (rowF (iv fun _ => 0) 244) zero_P ?_)
      | (refine under_list fun w1 hw1 => ?_; obtain ⟨n0, n1, n2, n3⟩ := two_named hw1; have P1 : Hid (HasF 27 w1 w.heap.size 244 (iv f)) := hide n0; have Z1 : Hid (HasF 27 w1 (w.heap.size + 1) 244 (iv fun _ => 0)) := hide n1; have B1 := hide n3; clear n0 n1 n2 n3 hw1; refine wpList_load_row rfl 27 (.tmp 3) rfl w.heap.size rfl _ _ _ _ P1.out Try.underlying27 rfl (info_P _) ?_)
      | (go_at_call 8; refine (KV.out _).mono ?_; rintro e w2 ⟨rfl, c2⟩; have P2 := hide (P1.out.next c2); have Z2 := hide (Z1.out.next c2); have B2 := hide (bnext B1.out c2); have c0 := P2.out.int 0 (by decide); clear c2 P1 Z1 B1)
      | (go_at_call 10; refine (byte_any _ _).mono ?_; rintro e w' ⟨rfl, hw⟩; subst w')
      | (refine wpList_load_row rfl 27 (.tmp 3) rfl w.heap.size rfl _ _ _ _ P2.out Try.underlying27 rfl (info_P _) ?_)
      | (refine wpList_store_row rfl 27 (.tmp 6) (.tmp 43) rfl (w.heap.size + 1) _ rfl rfl 27 _ Z2.out (info_P _) (by rw [rowF_size, rowF_size]) (rowF_one _ _) ?_))
    refine bodyPost_ret (results_cell_row rfl _ _ (w.heap.size + 1) 27 _ (0, 0) _ rfl (setRow_heap _ _ _ _ _ _ Z2.out) Try.underlying27 rfl (info_P _)) rfl ?_
    exact ⟨by rw [HQ.out], below_setRow B2.out (Nat.le_succ _) _⟩
theorem write_any (f : Nat → Int) (at_ b : Int) (ok : okP f) (w : World) : Calls Try.prog 6 #[.agg (rowF (iv f) 244), .int .i64 at_, .int .i64 b] w fun e w' => e = Ending.returned (.agg (rowF (iv (wrF f at_ b)) 244)) ∧ Below w.heap.size w w' := by
  have KV := hide (fun w => valid_any f w)
  rw [(vB_iff f).1 ok] at KV
  by_cases h0 : at_ = 0
  · subst h0; exact write_0 f b w KV
  by_cases h1 : at_ = 1
  · subst h1; exact write_1 f b w KV
  by_cases h8 : at_ = 8
  · subst h8; exact write_8 f b w KV
  by_cases h9 : at_ = 9
  · subst h9; exact write_9 f b w KV
  exact write_else f b w KV ok at_ h0 h1 h8 h9
end Go.Proofs.Ytcpilhbinkamiaa
