/- For every sound and every number the law PsgTells of layer 22 returns true, where the program's table of levels holds what its own initialiser lays: any sound has the document's samples, and is what it says behind them. -/
import Derived.Test.YtcpilhbinkamiaaDoorROne22
import Derived.Test.YtcpilhbinkamiaaDoorSamples22
import Derived.Test.YtcpilhbinkamiaaDoorOpen22
import Derived.Test.YtcpilhbinkamiaaDoorLevLaid
import Derived.Test.YtcpilhbinkamiaaDoorTie
import Derived.Test.YtcpilhbinkamiaaDoorCards
import Derived.SevenTiedAt
import Derived.OpenShut
import Derived.ShutString
import Derived.ChangeOld
import Derived.Below
namespace Go.Proofs.YtcpilhbinkamiaaDoor
open Go.ChangeShapes Go.WideShapes Go.ChangeAt Go.RowKit
open Go.ChangeMaps (open_string shut_string)
set_option linter.unusedVariables false
theorem own : ownKnob Tryd.prog.godebug = none := by kernel_rfl

def Is244 (R : Array Value) : Prop := R.size = 244 ∧ R.all (·.oneCell') = true
theorem Is244.info {R : Array Value} (h : Is244 R) : (Tryd.prog.info? 27).map (·.size) = some R.size := by
  rw [h.1]
  kernel_rfl
theorem Is244.inf2 {R : Array Value} (h : Is244 R) : (Tryd.prog.info? 34).map (·.size) = some R.size := by
  rw [h.1]
  kernel_rfl
theorem Is244.zero {R : Array Value} (h : Is244 R) : (rowF (iv fun _ => 0) 244).size = R.size := by rw [rowF_size, h.1]
theorem is244 (f : Nat → Int) : Is244 (rowF (iv f) 244) := ⟨rowF_size _ _, rowF_one _ _⟩
set_option maxHeartbeats 8000000 in
theorem tells_yes (n : Int) (N : Nat) (n1 : 1 ≤ N) (n2 : N ≤ 40) (S : Nat → Int) (R RN : Array Value) (G : Nat → Array Value) (w : World) (HL : Hid (HasLevels w)) (hn : n = (N : Int)) (IR : Is244 R) (IN : Is244 RN) (IG : ∀ i, Is244 (G i)) (G0 : G 0 = R) (GN : G N = RN)
    (KS : Hid (∀ u : World, HasLevels u → Calls Tryd.prog 8 #[.agg R, .int .i64 (N : Int)] u fun e w' => ∃ g, e = Ending.returned (.tuple #[.slice (some ⟨g, 0, none⟩) N N, .agg RN]) ∧ HasF 40 w' g (N * 2) (iv S) ∧ Below u.heap.size u w')) (KO : Hid (∀ u : World, Calls Tryd.prog 9 #[.agg R] u fun e w' => e = Ending.returned (.agg R) ∧ Below u.heap.size u w')) (KV : Hid (∀ u : World, Calls Tryd.prog 10 #[.agg R] u fun e w' => e = Ending.returned (.bool true) ∧ Below u.heap.size u w')) (K1 : Hid (∀ i, ∀ u : World, Calls Tryd.prog 12 #[.agg (G i)] u fun e w' => e = Ending.returned (.tuple #[.int .i64 (S (i * 2)), .int .i64 (S (i * 2 + 1)), .agg (G (i + 1))]) ∧ Below u.heap.size u w')) (KQ : Hid (∀ u : World, Calls Tryd.prog 9 #[.agg RN] u fun e w' => e = Ending.returned (.agg RN) ∧ Below u.heap.size u w')) (EE : ∀ w : World, (binOp .eql 34 (.agg RN) (.agg RN)).run Tryd.prog w = .ok (.bool true) w) : Calls Tryd.prog 3 #[.agg R, .int .i64 n] w fun e w' => e = .returned (.bool true) ∧ Below w.heap.size w w' := by
  subst hn
  have P0 : Hid ((w.alloc (.cells R 27)).heap[w.heap.size]? = some (.cells R 27 (0, 0))) := hide (heap_alloc_new _ _)
  have B0 : Hid (Below w.heap.size w (w.alloc (.cells R 27))) := hide ((Below.refl _ w).alloc (Nat.le_refl _) _)
  set_option maxRecDepth 20000 in
  go_enter Tryd.func3, Tryd.ntmps3
  set_option maxRecDepth 20000 in
  go_wp2_with (first
    | (refine wpList_load_row rfl 27 (.tmp 2) rfl w.heap.size rfl _ _ _ _ P0.out Tryd.underlying27 rfl IR.info ?_))
  refine (KS.out _ (HL.out.next B0.out)).mono ?_
  rintro e w1 ⟨g, rfl, hg, c1⟩
  have P1 := hide ((c1.block _ (lt_of_block P0.out)).trans P0.out)
  have B1 := hide (bnext B0.out c1)
  have G1 := hide hg
  clear c1 hg P0 B0
  set_option maxRecDepth 20000 in
  go_wp2_with (first
    | (refine wpList_alloced rfl 27 rfl (rowF (iv fun _ => 0) 244) zero_P ?_)
    | (refine wpList_store_row rfl 27 (.tmp 6) (.tmp 28) rfl w1.heap.size RN (by simp [Act.eval]) rfl 27 _ (hasF_new _ _ _ _) IN.info IN.zero IN.2 ?_; refine under_list fun w2 hh => ?_; have M2 : Hid (w2.heap[w1.heap.size]? = some (.cells RN 27 (0, 0))) := hide (by rw [hh]; exact setRow_heap _ _ _ _ _ _ (hasF_new _ _ _ _)); have W2 : Below w1.heap.size w1 w2 := (by rw [hh]; exact below_setRow ((Below.refl _ _).alloc (Nat.le_refl _) _) (Nat.le_refl _) _); have P2 := hide ((W2.block _ (lt_of_block P1.out)).trans P1.out); have G2 := hide (G1.out.next W2); have B2 := hide (bnext B1.out W2); clear hh W2 P1 G1 B1)
    | (refine wpList_load_row rfl 27 (.tmp 2) rfl w.heap.size rfl _ _ _ _ P2.out Tryd.underlying27 rfl IR.info ?_))
  refine (KO.out _).mono ?_
  rintro e w3 ⟨rfl, c3⟩
  have M3 := hide ((c3.block _ (lt_of_block M2.out)).trans M2.out)
  have G3 := hide (G2.out.next c3)
  have B3 := hide (bnext B2.out c3)
  have L70 := hide B3.out.size
  clear c3 M2 G2 B2 P2
  set_option maxRecDepth 20000 in
  go_wp2_with (first
    | (refine wpList_alloced rfl 34 rfl (rowF (iv fun _ => 0) 244) zero_R ?_)
    | (refine wpList_store_row rfl 34 (.tmp 7) (.tmp 30) rfl w3.heap.size R (by simp [Act.eval, Act.put]) rfl 34 _ (hasF_new _ _ _ _) IR.inf2 IR.zero IR.2 ?_; refine under_list fun w4 hh => ?_; have N4 : Hid (w4.heap[w3.heap.size]? = some (.cells R 34 (0, 0))) := hide (by rw [hh]; exact setRow_heap _ _ _ _ _ _ (hasF_new _ _ _ _)); have W4 : Below w3.heap.size w3 w4 := (by rw [hh]; exact below_setRow ((Below.refl _ _).alloc (Nat.le_refl _) _) (Nat.le_refl _) _); have M4 := hide ((W4.block _ (lt_of_block M3.out)).trans M3.out); have G4 := hide (G3.out.next W4); have B4 := hide (bnext B3.out W4); clear hh W4 M3 G3 B3)
    | (refine wpList_load_row rfl 34 (.tmp 7) rfl w3.heap.size rfl _ _ _ _ N4.out Tryd.underlying34 rfl IR.inf2 ?_))
  refine (KV.out _).mono ?_
  rintro e w5 ⟨rfl, c5⟩
  have N5 := hide ((c5.block _ (lt_of_block N4.out)).trans N4.out)
  have M5 := hide ((c5.block _ (lt_of_block M4.out)).trans M4.out)
  have G5 := hide (G4.out.next c5)
  have B5 := hide (bnext B4.out c5)
  clear c5 N4 M4 G4 B4
  generalize w3.heap.size = g7 at *
  generalize w1.heap.size = g6 at *
  set_option maxRecDepth 20000 in
  go_wp2_with fail
  obtain ⟨s0, hs0⟩ : ∃ s, w.heap.size = s := ⟨_, rfl⟩
  rw [hs0] at B5
  have S0 : Hid (s0 ≤ w.heap.size) := hide (by omega)
  have L7 : Hid (s0 ≤ g7) := hide (by rw [← hs0]; exact L70.out)
  replace hs0 := hide hs0
  go_loopw [10] (fun v w' => ∃ i : Nat, i ≤ N ∧ v = .int .i64 i ∧ w'.heap[g7]? = some (.cells (G i) 34 (0, 0)) ∧ w'.heap[g6]? = some (.cells RN 27 (0, 0)) ∧ HasF 40 w' g (N * 2) (iv S) ∧ Below s0 w w' ∧ s0 ≤ g7) (fun v _ => N - (intOf v).toNat)
  case atStart => exact ⟨0, Nat.zero_le _, rfl, by rw [G0]; exact N5.out, M5.out, G5.out, B5.out, L7.out⟩
  case round =>
    clear N5 M5 G5 B5
    obtain ⟨i, hi, rfl, h1, h2, h3, h4, h5⟩ := hrel
    have N1 := hide h1
    have M1 := hide h2
    have S1 := hide h3
    have B1 := hide h4
    clear h1 h2 h3 h4 h5
    by_cases hlt : i < N
    · have KI := hide (K1.out i)
      have IA := IG i
      have IB := IG (i + 1)
      obtain ⟨A, hA⟩ : ∃ A, G i = A := ⟨_, rfl⟩
      obtain ⟨D, hD⟩ : ∃ D, G (i + 1) = D := ⟨_, rfl⟩
      obtain ⟨x, hx⟩ : ∃ x, S (i * 2) = x := ⟨_, rfl⟩
      obtain ⟨y, hy⟩ : ∃ y, S (i * 2 + 1) = y := ⟨_, rfl⟩
      rw [hA, hD, hx, hy] at KI
      rw [hA] at N1 IA
      rw [hD] at IB
      replace hD := hide hD
      set_option maxRecDepth 20000 in
      go_wp2_with (first
        | (refine wpList_load_row rfl 34 (.tmp 7) rfl g7 rfl _ _ _ _ N1.out Tryd.underlying34 rfl IA.inf2 ?_))
      refine (KI.out _).mono ?_
      rintro e w2 ⟨rfl, c2⟩
      have N2 := hide ((c2.block _ (lt_of_block N1.out)).trans N1.out)
      have M2 := hide ((c2.block _ (lt_of_block M1.out)).trans M1.out)
      have S2 := hide (S1.out.next c2)
      have B2 := hide (bnext3 B1.out S0.out c2)
      clear c2 N1 M1 S1 B1
      set_option maxRecDepth 20000 in
      go_wp2_with (first
        | (refine wpList_alloced rfl 34 rfl (rowF (iv fun _ => 0) 244) zero_R ?_)
        | (refine wpList_store_row rfl 34 (.tmp 13) (.tmp 75) rfl w2.heap.size D (by simp [Act.eval]) rfl 34 _ (hasF_new _ _ _ _) IB.inf2 IB.zero IB.2 ?_; refine under_list fun w3 hh => ?_; have D3 : Hid (w3.heap[w2.heap.size]? = some (.cells D 34 (0, 0))) := hide (by rw [hh]; exact setRow_heap _ _ _ _ _ _ (hasF_new _ _ _ _)); have W3 : Below w2.heap.size w2 w3 := (by rw [hh]; exact below_setRow ((Below.refl _ _).alloc (Nat.le_refl _) _) (Nat.le_refl _) _); have N3 := hide ((W3.block _ (lt_of_block N2.out)).trans N2.out); have M3 := hide ((W3.block _ (lt_of_block M2.out)).trans M2.out); have S3 := hide (S2.out.next W3); have B3 := hide (bnext3 B2.out S0.out W3); have y0 := S3.out.int (i * 2) (by omega); have y1 := S3.out.int (i * 2 + 1) (by omega); rw [hx] at y0; rw [hy] at y1; clear hh W3 N2 M2 S2 B2)
        | (refine wpList_load_row rfl 34 (.tmp 13) rfl w2.heap.size rfl _ _ _ _ D3.out Tryd.underlying34 rfl IB.inf2 ?_)
        | (refine wpList_store_row rfl 34 (.tmp 7) (.tmp 92) rfl g7 D rfl rfl 34 _ N3.out IB.inf2 (IA.1.trans IB.1.symm) IB.2 ?_; refine under_list fun w4 hh => ?_; have N4 : Hid (w4.heap[g7]? = some (.cells D 34 (0, 0))) := hide (by rw [hh]; exact setRow_heap _ _ _ _ _ _ N3.out); have M4 : Hid (w4.heap[g6]? = some (.cells RN 27 (0, 0))) := hide (by rw [hh]; exact (setRow_other _ _ _ _ (types_two M3.out N3.out (by decide))).trans M3.out); have S4 : Hid (HasF 40 w4 g (N * 2) (iv S)) := hide (by rw [hh]; exact S3.out.row _ (types_two S3.out N3.out (by decide))); have B4 : Hid (Below s0 w w4) := hide (by rw [hh]; exact below_setRow B3.out L7.out _); clear hh N3 M3 S3 B3))
      clear KS KO KV K1 KQ EE KI
      try simp only [Act.put]
      set_option maxRecDepth 20000 in
      try go_wp2_with fail
      exact ⟨⟨i + 1, by omega, by go_num, by rw [hD.out]; exact N4.out, M4.out, S4.out, B4.out, L7.out⟩, by simp [intOf]; omega⟩
    · obtain rfl : i = N := by omega
      rw [GN] at N1
      set_option maxRecDepth 20000 in
      go_wp2_with fail
      haveI := kept_some wr
      refine wp_region_kept (by kernel_rfl) (by kernel_rfl) ?_
      set_option maxRecDepth 20000 in
      repeat (first
        | (refine wpQuiet_row rfl 27 (.tmp 6) rfl g6 rfl 27 _ (0, 0) _ (fun w' ⟨x, hx⟩ => by rw [hx]; exact (x.block _ (lt_of_block M1.out)).trans M1.out) Tryd.underlying27 rfl IN.info ?_; simp only [Act.put, List.setIfInBounds_toArray, List.set_cons_succ, List.set_cons_zero])
        | (refine wpQuiet_row rfl 34 (.tmp 7) rfl g7 rfl 34 _ (0, 0) _ (fun w' ⟨x, hx⟩ => by rw [hx]; exact (x.block _ (lt_of_block N1.out)).trans N1.out) Tryd.underlying34 rfl IN.inf2 ?_; simp only [Act.put, List.setIfInBounds_toArray, List.set_cons_succ, List.set_cons_zero])
        | go_big_quiet_step ((first | (go_at_call 9; exact kept_call (KQ.out _)))))
      refine wpQuiet_nil ?_
      rintro _ ⟨wk, rfl⟩
      have B3 := hide (bnext3 B1.out S0.out wk.below)
      set_option maxRecDepth 20000 in
      go_wp2_with fail
      go_ret
      exact ⟨rfl, by rw [hs0.out]; exact B3.out⟩
set_option maxHeartbeats 8000000 in
theorem tells_mod (n : Int) (N : Nat) (n1 : 1 ≤ N) (n2 : N ≤ 40) (S : Nat → Int) (R RN : Array Value) (G : Nat → Array Value) (w : World) (HL : Hid (HasLevels w)) (k0 : 40 < n) (k1 : n ≤ 65536) (t : Int) (t0 : 0 ≤ t) (t1 : t < 40) (ht : Int.tmod n 40 = t) (hn : t + 1 = (N : Int)) (IR : Is244 R) (IN : Is244 RN) (IG : ∀ i, Is244 (G i)) (G0 : G 0 = R) (GN : G N = RN)
    (KS : Hid (∀ u : World, HasLevels u → Calls Tryd.prog 8 #[.agg R, .int .i64 (N : Int)] u fun e w' => ∃ g, e = Ending.returned (.tuple #[.slice (some ⟨g, 0, none⟩) N N, .agg RN]) ∧ HasF 40 w' g (N * 2) (iv S) ∧ Below u.heap.size u w')) (KO : Hid (∀ u : World, Calls Tryd.prog 9 #[.agg R] u fun e w' => e = Ending.returned (.agg R) ∧ Below u.heap.size u w')) (KV : Hid (∀ u : World, Calls Tryd.prog 10 #[.agg R] u fun e w' => e = Ending.returned (.bool true) ∧ Below u.heap.size u w')) (K1 : Hid (∀ i, ∀ u : World, Calls Tryd.prog 12 #[.agg (G i)] u fun e w' => e = Ending.returned (.tuple #[.int .i64 (S (i * 2)), .int .i64 (S (i * 2 + 1)), .agg (G (i + 1))]) ∧ Below u.heap.size u w')) (KQ : Hid (∀ u : World, Calls Tryd.prog 9 #[.agg RN] u fun e w' => e = Ending.returned (.agg RN) ∧ Below u.heap.size u w')) (EE : ∀ w : World, (binOp .eql 34 (.agg RN) (.agg RN)).run Tryd.prog w = .ok (.bool true) w) : Calls Tryd.prog 3 #[.agg R, .int .i64 n] w fun e w' => e = .returned (.bool true) ∧ Below w.heap.size w w' := by
  skip
  have P0 : Hid ((w.alloc (.cells R 27)).heap[w.heap.size]? = some (.cells R 27 (0, 0))) := hide (heap_alloc_new _ _)
  have B0 : Hid (Below w.heap.size w (w.alloc (.cells R 27))) := hide ((Below.refl _ w).alloc (Nat.le_refl _) _)
  set_option maxRecDepth 20000 in
  go_enter Tryd.func3, Tryd.ntmps3
  set_option maxRecDepth 20000 in
  go_wp2_with (first
    | (refine wpList_load_row rfl 27 (.tmp 2) rfl w.heap.size rfl _ _ _ _ P0.out Tryd.underlying27 rfl IR.info ?_))
  refine (KS.out _ (HL.out.next B0.out)).mono ?_
  rintro e w1 ⟨g, rfl, hg, c1⟩
  have P1 := hide ((c1.block _ (lt_of_block P0.out)).trans P0.out)
  have B1 := hide (bnext B0.out c1)
  have G1 := hide hg
  clear c1 hg P0 B0
  set_option maxRecDepth 20000 in
  go_wp2_with (first
    | (refine wpList_alloced rfl 27 rfl (rowF (iv fun _ => 0) 244) zero_P ?_)
    | (refine wpList_store_row rfl 27 (.tmp 6) (.tmp 28) rfl w1.heap.size RN (by simp [Act.eval]) rfl 27 _ (hasF_new _ _ _ _) IN.info IN.zero IN.2 ?_; refine under_list fun w2 hh => ?_; have M2 : Hid (w2.heap[w1.heap.size]? = some (.cells RN 27 (0, 0))) := hide (by rw [hh]; exact setRow_heap _ _ _ _ _ _ (hasF_new _ _ _ _)); have W2 : Below w1.heap.size w1 w2 := (by rw [hh]; exact below_setRow ((Below.refl _ _).alloc (Nat.le_refl _) _) (Nat.le_refl _) _); have P2 := hide ((W2.block _ (lt_of_block P1.out)).trans P1.out); have G2 := hide (G1.out.next W2); have B2 := hide (bnext B1.out W2); clear hh W2 P1 G1 B1)
    | (refine wpList_load_row rfl 27 (.tmp 2) rfl w.heap.size rfl _ _ _ _ P2.out Tryd.underlying27 rfl IR.info ?_))
  refine (KO.out _).mono ?_
  rintro e w3 ⟨rfl, c3⟩
  have M3 := hide ((c3.block _ (lt_of_block M2.out)).trans M2.out)
  have G3 := hide (G2.out.next c3)
  have B3 := hide (bnext B2.out c3)
  have L70 := hide B3.out.size
  clear c3 M2 G2 B2 P2
  set_option maxRecDepth 20000 in
  go_wp2_with (first
    | (refine wpList_alloced rfl 34 rfl (rowF (iv fun _ => 0) 244) zero_R ?_)
    | (refine wpList_store_row rfl 34 (.tmp 7) (.tmp 30) rfl w3.heap.size R (by simp [Act.eval, Act.put]) rfl 34 _ (hasF_new _ _ _ _) IR.inf2 IR.zero IR.2 ?_; refine under_list fun w4 hh => ?_; have N4 : Hid (w4.heap[w3.heap.size]? = some (.cells R 34 (0, 0))) := hide (by rw [hh]; exact setRow_heap _ _ _ _ _ _ (hasF_new _ _ _ _)); have W4 : Below w3.heap.size w3 w4 := (by rw [hh]; exact below_setRow ((Below.refl _ _).alloc (Nat.le_refl _) _) (Nat.le_refl _) _); have M4 := hide ((W4.block _ (lt_of_block M3.out)).trans M3.out); have G4 := hide (G3.out.next W4); have B4 := hide (bnext B3.out W4); clear hh W4 M3 G3 B3)
    | (refine wpList_load_row rfl 34 (.tmp 7) rfl w3.heap.size rfl _ _ _ _ N4.out Tryd.underlying34 rfl IR.inf2 ?_))
  refine (KV.out _).mono ?_
  rintro e w5 ⟨rfl, c5⟩
  have N5 := hide ((c5.block _ (lt_of_block N4.out)).trans N4.out)
  have M5 := hide ((c5.block _ (lt_of_block M4.out)).trans M4.out)
  have G5 := hide (G4.out.next c5)
  have B5 := hide (bnext B4.out c5)
  clear c5 N4 M4 G4 B4
  generalize w3.heap.size = g7 at *
  generalize w1.heap.size = g6 at *
  set_option maxRecDepth 20000 in
  go_wp2_with fail
  obtain ⟨s0, hs0⟩ : ∃ s, w.heap.size = s := ⟨_, rfl⟩
  rw [hs0] at B5
  have S0 : Hid (s0 ≤ w.heap.size) := hide (by omega)
  have L7 : Hid (s0 ≤ g7) := hide (by rw [← hs0]; exact L70.out)
  replace hs0 := hide hs0
  go_loopw [10] (fun v w' => ∃ i : Nat, i ≤ N ∧ v = .int .i64 i ∧ w'.heap[g7]? = some (.cells (G i) 34 (0, 0)) ∧ w'.heap[g6]? = some (.cells RN 27 (0, 0)) ∧ HasF 40 w' g (N * 2) (iv S) ∧ Below s0 w w' ∧ s0 ≤ g7) (fun v _ => N - (intOf v).toNat)
  case atStart => exact ⟨0, Nat.zero_le _, rfl, by rw [G0]; exact N5.out, M5.out, G5.out, B5.out, L7.out⟩
  case round =>
    clear N5 M5 G5 B5
    obtain ⟨i, hi, rfl, h1, h2, h3, h4, h5⟩ := hrel
    have N1 := hide h1
    have M1 := hide h2
    have S1 := hide h3
    have B1 := hide h4
    clear h1 h2 h3 h4 h5
    by_cases hlt : i < N
    · have KI := hide (K1.out i)
      have IA := IG i
      have IB := IG (i + 1)
      obtain ⟨A, hA⟩ : ∃ A, G i = A := ⟨_, rfl⟩
      obtain ⟨D, hD⟩ : ∃ D, G (i + 1) = D := ⟨_, rfl⟩
      obtain ⟨x, hx⟩ : ∃ x, S (i * 2) = x := ⟨_, rfl⟩
      obtain ⟨y, hy⟩ : ∃ y, S (i * 2 + 1) = y := ⟨_, rfl⟩
      rw [hA, hD, hx, hy] at KI
      rw [hA] at N1 IA
      rw [hD] at IB
      replace hD := hide hD
      set_option maxRecDepth 20000 in
      go_wp2_with (first
        | (refine wpList_load_row rfl 34 (.tmp 7) rfl g7 rfl _ _ _ _ N1.out Tryd.underlying34 rfl IA.inf2 ?_))
      refine (KI.out _).mono ?_
      rintro e w2 ⟨rfl, c2⟩
      have N2 := hide ((c2.block _ (lt_of_block N1.out)).trans N1.out)
      have M2 := hide ((c2.block _ (lt_of_block M1.out)).trans M1.out)
      have S2 := hide (S1.out.next c2)
      have B2 := hide (bnext3 B1.out S0.out c2)
      clear c2 N1 M1 S1 B1
      set_option maxRecDepth 20000 in
      go_wp2_with (first
        | (refine wpList_alloced rfl 34 rfl (rowF (iv fun _ => 0) 244) zero_R ?_)
        | (refine wpList_store_row rfl 34 (.tmp 13) (.tmp 75) rfl w2.heap.size D (by simp [Act.eval]) rfl 34 _ (hasF_new _ _ _ _) IB.inf2 IB.zero IB.2 ?_; refine under_list fun w3 hh => ?_; have D3 : Hid (w3.heap[w2.heap.size]? = some (.cells D 34 (0, 0))) := hide (by rw [hh]; exact setRow_heap _ _ _ _ _ _ (hasF_new _ _ _ _)); have W3 : Below w2.heap.size w2 w3 := (by rw [hh]; exact below_setRow ((Below.refl _ _).alloc (Nat.le_refl _) _) (Nat.le_refl _) _); have N3 := hide ((W3.block _ (lt_of_block N2.out)).trans N2.out); have M3 := hide ((W3.block _ (lt_of_block M2.out)).trans M2.out); have S3 := hide (S2.out.next W3); have B3 := hide (bnext3 B2.out S0.out W3); have y0 := S3.out.int (i * 2) (by omega); have y1 := S3.out.int (i * 2 + 1) (by omega); rw [hx] at y0; rw [hy] at y1; clear hh W3 N2 M2 S2 B2)
        | (refine wpList_load_row rfl 34 (.tmp 13) rfl w2.heap.size rfl _ _ _ _ D3.out Tryd.underlying34 rfl IB.inf2 ?_)
        | (refine wpList_store_row rfl 34 (.tmp 7) (.tmp 92) rfl g7 D rfl rfl 34 _ N3.out IB.inf2 (IA.1.trans IB.1.symm) IB.2 ?_; refine under_list fun w4 hh => ?_; have N4 : Hid (w4.heap[g7]? = some (.cells D 34 (0, 0))) := hide (by rw [hh]; exact setRow_heap _ _ _ _ _ _ N3.out); have M4 : Hid (w4.heap[g6]? = some (.cells RN 27 (0, 0))) := hide (by rw [hh]; exact (setRow_other _ _ _ _ (types_two M3.out N3.out (by decide))).trans M3.out); have S4 : Hid (HasF 40 w4 g (N * 2) (iv S)) := hide (by rw [hh]; exact S3.out.row _ (types_two S3.out N3.out (by decide))); have B4 : Hid (Below s0 w w4) := hide (by rw [hh]; exact below_setRow B3.out L7.out _); clear hh N3 M3 S3 B3))
      clear KS KO KV K1 KQ EE KI
      try simp only [Act.put]
      set_option maxRecDepth 20000 in
      try go_wp2_with fail
      exact ⟨⟨i + 1, by omega, by go_num, by rw [hD.out]; exact N4.out, M4.out, S4.out, B4.out, L7.out⟩, by simp [intOf]; omega⟩
    · obtain rfl : i = N := by omega
      rw [GN] at N1
      set_option maxRecDepth 20000 in
      go_wp2_with fail
      haveI := kept_some wr
      refine wp_region_kept (by kernel_rfl) (by kernel_rfl) ?_
      set_option maxRecDepth 20000 in
      repeat (first
        | (refine wpQuiet_row rfl 27 (.tmp 6) rfl g6 rfl 27 _ (0, 0) _ (fun w' ⟨x, hx⟩ => by rw [hx]; exact (x.block _ (lt_of_block M1.out)).trans M1.out) Tryd.underlying27 rfl IN.info ?_; simp only [Act.put, List.setIfInBounds_toArray, List.set_cons_succ, List.set_cons_zero])
        | (refine wpQuiet_row rfl 34 (.tmp 7) rfl g7 rfl 34 _ (0, 0) _ (fun w' ⟨x, hx⟩ => by rw [hx]; exact (x.block _ (lt_of_block N1.out)).trans N1.out) Tryd.underlying34 rfl IN.inf2 ?_; simp only [Act.put, List.setIfInBounds_toArray, List.set_cons_succ, List.set_cons_zero])
        | go_big_quiet_step ((first | (go_at_call 9; exact kept_call (KQ.out _)))))
      refine wpQuiet_nil ?_
      rintro _ ⟨wk, rfl⟩
      have B3 := hide (bnext3 B1.out S0.out wk.below)
      set_option maxRecDepth 20000 in
      go_wp2_with fail
      go_ret
      exact ⟨rfl, by rw [hs0.out]; exact B3.out⟩
theorem tells_one (f : Nat → Int) (ok : okP f) (i : Nat) (u : World) : Calls Tryd.prog 12 #[.agg (rowF (iv (itF f i)) 244)] u fun e w' => e = Ending.returned (.tuple #[.int .i64 (smp f (i * 2)), .int .i64 (smp f (i * 2 + 1)), .agg (rowF (iv (itF f (i + 1))) 244)]) ∧ Below u.heap.size u w' := by
  have k := rone_any (itF f i) (okP_it ok i) u
  have e1 : smp f (i * 2) = leftOf (stepF (itF f i)) := by unfold smp; rw [if_pos (by omega), show i * 2 / 2 = i by omega]; rfl
  have e2 : smp f (i * 2 + 1) = rightOf (stepF (itF f i)) := by unfold smp; rw [if_neg (by omega), show (i * 2 + 1) / 2 = i by omega]; rfl
  rw [e1, e2]
  exact k
set_option maxHeartbeats 8000000 in
theorem tells_no (n : Int) (h : ¬ (40 < n ∧ n ≤ 65536)) (q : Bool) (hq : q = false ∨ n < 1 ∨ 65536 < n) (R RF RT : Array Value) (w : World) (HL : Hid (HasLevels w)) (IR : Is244 R) (IT : Is244 RT) (KS : Hid (∀ u : World, Calls Tryd.prog 8 #[.agg R, .int .i64 n] u fun e w' => e = Ending.returned (.tuple #[.slice none 0 0, .agg R]) ∧ Below u.heap.size u w')) (KO : Hid (∀ u : World, Calls Tryd.prog 9 #[.agg R] u fun e w' => e = Ending.returned (.agg R) ∧ Below u.heap.size u w')) (KF : Hid (∀ u : World, Calls Tryd.prog 11 #[] u fun e w' => e = Ending.returned (.agg RF) ∧ Below u.heap.size u w')) (KT : Hid (∀ u : World, HasLevels u → Calls Tryd.prog 8 #[.agg RF, .int .i64 1] u fun e w' => ∃ g, e = Ending.returned (.tuple #[.slice (some ⟨g, 0, none⟩) 1 1, .agg RT]) ∧ Below u.heap.size u w')) (EE : ∀ w : World, (binOp .eql 34 (.agg R) (.agg R)).run Tryd.prog w = .ok (.bool true) w) (KV : Hid (∀ u : World, Calls Tryd.prog 10 #[.agg R] u fun e w' => e = Ending.returned (.bool q) ∧ Below u.heap.size u w')) : Calls Tryd.prog 3 #[.agg R, .int .i64 n] w fun e w' => e = .returned (.bool true) ∧ Below w.heap.size w w' := by
  by_cases k0 : 40 < n
  · have k1 : ¬ n ≤ 65536 := by omega
    cases q
    ·
      have P0 : Hid ((w.alloc (.cells R 27)).heap[w.heap.size]? = some (.cells R 27 (0, 0))) := hide (heap_alloc_new _ _)
      have B0 : Hid (Below w.heap.size w (w.alloc (.cells R 27))) := hide ((Below.refl _ w).alloc (Nat.le_refl _) _)
      set_option maxRecDepth 20000 in
      go_enter Tryd.func3, Tryd.ntmps3
      set_option maxRecDepth 20000 in
      go_wp2_with (first
        | (refine wpList_load_row rfl 27 (.tmp 2) rfl w.heap.size rfl _ _ _ _ P0.out Tryd.underlying27 rfl IR.info ?_))
      refine (KS.out _).mono ?_
      rintro e w1 ⟨rfl, c1⟩
      have P1 := hide ((c1.block _ (lt_of_block P0.out)).trans P0.out)
      have B1 := hide (bnext B0.out c1)
      clear c1 P0 B0
      set_option maxRecDepth 20000 in
      go_wp2_with (first
        | (refine wpList_alloced rfl 27 rfl (rowF (iv fun _ => 0) 244) zero_P ?_)
        | (refine wpList_store_row rfl 27 (.tmp 6) (.tmp 28) rfl w1.heap.size R (by simp [Act.eval]) rfl 27 _ (hasF_new _ _ _ _) IR.info IR.zero IR.2 ?_; refine under_list fun w2 hh => ?_; have M2 : Hid (w2.heap[w1.heap.size]? = some (.cells R 27 (0, 0))) := hide (by rw [hh]; exact setRow_heap _ _ _ _ _ _ (hasF_new _ _ _ _)); have W2 : Below w1.heap.size w1 w2 := (by rw [hh]; exact below_setRow ((Below.refl _ _).alloc (Nat.le_refl _) _) (Nat.le_refl _) _); have P2 := hide ((W2.block _ (lt_of_block P1.out)).trans P1.out); have B2 := hide (bnext B1.out W2); clear hh W2 P1 B1)
        | (refine wpList_load_row rfl 27 (.tmp 2) rfl w.heap.size rfl _ _ _ _ P2.out Tryd.underlying27 rfl IR.info ?_))
      refine (KO.out _).mono ?_
      rintro e w3 ⟨rfl, c3⟩
      have M3 := hide ((c3.block _ (lt_of_block M2.out)).trans M2.out)
      have B3 := hide (bnext B2.out c3)
      clear c3 M2 B2 P2
      set_option maxRecDepth 20000 in
      go_wp2_with (first
        | (refine wpList_alloced rfl 34 rfl (rowF (iv fun _ => 0) 244) zero_R ?_)
        | (refine wpList_store_row rfl 34 (.tmp 7) (.tmp 30) rfl w3.heap.size R (by simp [Act.eval, Act.put]) rfl 34 _ (hasF_new _ _ _ _) IR.inf2 IR.zero IR.2 ?_; refine under_list fun w4 hh => ?_; have N4 : Hid (w4.heap[w3.heap.size]? = some (.cells R 34 (0, 0))) := hide (by rw [hh]; exact setRow_heap _ _ _ _ _ _ (hasF_new _ _ _ _)); have W4 : Below w3.heap.size w3 w4 := (by rw [hh]; exact below_setRow ((Below.refl _ _).alloc (Nat.le_refl _) _) (Nat.le_refl _) _); have M4 := hide ((W4.block _ (lt_of_block M3.out)).trans M3.out); have B4 := hide (bnext B3.out W4); clear hh W4 M3 B3)
        | (refine wpList_load_row rfl 34 (.tmp 7) rfl w3.heap.size rfl _ _ _ _ N4.out Tryd.underlying34 rfl IR.inf2 ?_))
      refine (KV.out _).mono ?_
      rintro e w5 ⟨rfl, c5⟩
      have N5 := hide ((c5.block _ (lt_of_block N4.out)).trans N4.out)
      have M5 := hide ((c5.block _ (lt_of_block M4.out)).trans M4.out)
      have B5 := hide (bnext B4.out c5)
      clear c5 N4 M4 B4
      generalize w3.heap.size = g7 at *
      generalize w1.heap.size = g6 at *
      set_option maxRecDepth 20000 in
      go_wp2_with (first
        | (go_at_call 11; refine (KF.out _).mono ?_; rintro e w6 ⟨rfl, c6⟩))
      refine (KT.out _ (HL.out.next (bnext B5.out c6))).mono ?_
      rintro e w7 ⟨g, rfl, c7⟩
      have W7 := bnext c6 c7
      have N7 := hide ((W7.block _ (lt_of_block N5.out)).trans N5.out)
      have M7 := hide ((W7.block _ (lt_of_block M5.out)).trans M5.out)
      have B7 := hide (bnext B5.out W7)
      clear c6 c7 W7 N5 M5 B5
      set_option maxRecDepth 20000 in
      go_wp2_with (first
        | (refine wpList_alloced rfl 27 rfl (rowF (iv fun _ => 0) 244) zero_P ?_)
        | (refine wpList_store_row rfl 27 (.tmp 9) (.tmp 46) rfl w7.heap.size RT (by simp [Act.eval]) rfl 27 _ (hasF_new _ _ _ _) IT.info IT.zero IT.2 ?_; refine under_list fun w8 hh => ?_; have W8 : Below w7.heap.size w7 w8 := (by rw [hh]; exact below_setRow ((Below.refl _ _).alloc (Nat.le_refl _) _) (Nat.le_refl _) _); have N8 := hide ((W8.block _ (lt_of_block N7.out)).trans N7.out); have M8 := hide ((W8.block _ (lt_of_block M7.out)).trans M7.out); have B8 := hide (bnext B7.out W8); clear hh W8 N7 M7 B7))
      haveI := kept_some w8
      refine wp_region_kept (by kernel_rfl) (by kernel_rfl) ?_
      simp only [Act.put]
      set_option maxRecDepth 20000 in
      repeat (first
        | (refine wpQuiet_row rfl 27 (.tmp 6) rfl g6 rfl 27 _ (0, 0) _ (fun w' ⟨x, hx⟩ => by rw [hx]; exact (x.block _ (lt_of_block M8.out)).trans M8.out) Tryd.underlying27 rfl IR.info ?_; simp only [Act.put, List.setIfInBounds_toArray, List.set_cons_succ, List.set_cons_zero])
        | (refine wpQuiet_row rfl 34 (.tmp 7) rfl g7 rfl 34 _ (0, 0) _ (fun w' ⟨x, hx⟩ => by rw [hx]; exact (x.block _ (lt_of_block N8.out)).trans N8.out) Tryd.underlying34 rfl IR.inf2 ?_; simp only [Act.put, List.setIfInBounds_toArray, List.set_cons_succ, List.set_cons_zero])
        | go_big_quiet_step ((first | (go_at_call 9; exact kept_call (KO.out _)))))
      refine wpQuiet_nil ?_
      rintro _ ⟨wk, rfl⟩
      have B9 := hide (bnext B8.out wk.below)
      set_option maxRecDepth 20000 in
      go_wp2_with fail
      go_ret
      exact ⟨rfl, B9.out⟩
    ·
      have P0 : Hid ((w.alloc (.cells R 27)).heap[w.heap.size]? = some (.cells R 27 (0, 0))) := hide (heap_alloc_new _ _)
      have B0 : Hid (Below w.heap.size w (w.alloc (.cells R 27))) := hide ((Below.refl _ w).alloc (Nat.le_refl _) _)
      set_option maxRecDepth 20000 in
      go_enter Tryd.func3, Tryd.ntmps3
      set_option maxRecDepth 20000 in
      go_wp2_with (first
        | (refine wpList_load_row rfl 27 (.tmp 2) rfl w.heap.size rfl _ _ _ _ P0.out Tryd.underlying27 rfl IR.info ?_))
      refine (KS.out _).mono ?_
      rintro e w1 ⟨rfl, c1⟩
      have P1 := hide ((c1.block _ (lt_of_block P0.out)).trans P0.out)
      have B1 := hide (bnext B0.out c1)
      clear c1 P0 B0
      set_option maxRecDepth 20000 in
      go_wp2_with (first
        | (refine wpList_alloced rfl 27 rfl (rowF (iv fun _ => 0) 244) zero_P ?_)
        | (refine wpList_store_row rfl 27 (.tmp 6) (.tmp 28) rfl w1.heap.size R (by simp [Act.eval]) rfl 27 _ (hasF_new _ _ _ _) IR.info IR.zero IR.2 ?_; refine under_list fun w2 hh => ?_; have M2 : Hid (w2.heap[w1.heap.size]? = some (.cells R 27 (0, 0))) := hide (by rw [hh]; exact setRow_heap _ _ _ _ _ _ (hasF_new _ _ _ _)); have W2 : Below w1.heap.size w1 w2 := (by rw [hh]; exact below_setRow ((Below.refl _ _).alloc (Nat.le_refl _) _) (Nat.le_refl _) _); have P2 := hide ((W2.block _ (lt_of_block P1.out)).trans P1.out); have B2 := hide (bnext B1.out W2); clear hh W2 P1 B1)
        | (refine wpList_load_row rfl 27 (.tmp 2) rfl w.heap.size rfl _ _ _ _ P2.out Tryd.underlying27 rfl IR.info ?_))
      refine (KO.out _).mono ?_
      rintro e w3 ⟨rfl, c3⟩
      have M3 := hide ((c3.block _ (lt_of_block M2.out)).trans M2.out)
      have B3 := hide (bnext B2.out c3)
      clear c3 M2 B2 P2
      set_option maxRecDepth 20000 in
      go_wp2_with (first
        | (refine wpList_alloced rfl 34 rfl (rowF (iv fun _ => 0) 244) zero_R ?_)
        | (refine wpList_store_row rfl 34 (.tmp 7) (.tmp 30) rfl w3.heap.size R (by simp [Act.eval, Act.put]) rfl 34 _ (hasF_new _ _ _ _) IR.inf2 IR.zero IR.2 ?_; refine under_list fun w4 hh => ?_; have N4 : Hid (w4.heap[w3.heap.size]? = some (.cells R 34 (0, 0))) := hide (by rw [hh]; exact setRow_heap _ _ _ _ _ _ (hasF_new _ _ _ _)); have W4 : Below w3.heap.size w3 w4 := (by rw [hh]; exact below_setRow ((Below.refl _ _).alloc (Nat.le_refl _) _) (Nat.le_refl _) _); have M4 := hide ((W4.block _ (lt_of_block M3.out)).trans M3.out); have B4 := hide (bnext B3.out W4); clear hh W4 M3 B3)
        | (refine wpList_load_row rfl 34 (.tmp 7) rfl w3.heap.size rfl _ _ _ _ N4.out Tryd.underlying34 rfl IR.inf2 ?_))
      refine (KV.out _).mono ?_
      rintro e w5 ⟨rfl, c5⟩
      have N5 := hide ((c5.block _ (lt_of_block N4.out)).trans N4.out)
      have M5 := hide ((c5.block _ (lt_of_block M4.out)).trans M4.out)
      have B5 := hide (bnext B4.out c5)
      clear c5 N4 M4 B4
      generalize w3.heap.size = g7 at *
      generalize w1.heap.size = g6 at *
      set_option maxRecDepth 20000 in
      go_wp2_with (first
        | (go_at_call 11; refine (KF.out _).mono ?_; rintro e w6 ⟨rfl, c6⟩))
      refine (KT.out _ (HL.out.next (bnext B5.out c6))).mono ?_
      rintro e w7 ⟨g, rfl, c7⟩
      have W7 := bnext c6 c7
      have N7 := hide ((W7.block _ (lt_of_block N5.out)).trans N5.out)
      have M7 := hide ((W7.block _ (lt_of_block M5.out)).trans M5.out)
      have B7 := hide (bnext B5.out W7)
      clear c6 c7 W7 N5 M5 B5
      set_option maxRecDepth 20000 in
      go_wp2_with (first
        | (refine wpList_alloced rfl 27 rfl (rowF (iv fun _ => 0) 244) zero_P ?_)
        | (refine wpList_store_row rfl 27 (.tmp 9) (.tmp 46) rfl w7.heap.size RT (by simp [Act.eval]) rfl 27 _ (hasF_new _ _ _ _) IT.info IT.zero IT.2 ?_; refine under_list fun w8 hh => ?_; have W8 : Below w7.heap.size w7 w8 := (by rw [hh]; exact below_setRow ((Below.refl _ _).alloc (Nat.le_refl _) _) (Nat.le_refl _) _); have N8 := hide ((W8.block _ (lt_of_block N7.out)).trans N7.out); have M8 := hide ((W8.block _ (lt_of_block M7.out)).trans M7.out); have B8 := hide (bnext B7.out W8); clear hh W8 N7 M7 B7))
      haveI := kept_some w8
      refine wp_region_kept (by kernel_rfl) (by kernel_rfl) ?_
      simp only [Act.put]
      set_option maxRecDepth 20000 in
      repeat (first
        | (refine wpQuiet_row rfl 27 (.tmp 6) rfl g6 rfl 27 _ (0, 0) _ (fun w' ⟨x, hx⟩ => by rw [hx]; exact (x.block _ (lt_of_block M8.out)).trans M8.out) Tryd.underlying27 rfl IR.info ?_; simp only [Act.put, List.setIfInBounds_toArray, List.set_cons_succ, List.set_cons_zero])
        | (refine wpQuiet_row rfl 34 (.tmp 7) rfl g7 rfl 34 _ (0, 0) _ (fun w' ⟨x, hx⟩ => by rw [hx]; exact (x.block _ (lt_of_block N8.out)).trans N8.out) Tryd.underlying34 rfl IR.inf2 ?_; simp only [Act.put, List.setIfInBounds_toArray, List.set_cons_succ, List.set_cons_zero])
        | go_big_quiet_step ((first | (go_at_call 9; exact kept_call (KO.out _)))))
      refine wpQuiet_nil ?_
      rintro _ ⟨wk, rfl⟩
      have B9 := hide (bnext B8.out wk.below)
      set_option maxRecDepth 20000 in
      go_wp2_with fail
      go_ret
      exact ⟨rfl, B9.out⟩
  · cases q
    ·
      have P0 : Hid ((w.alloc (.cells R 27)).heap[w.heap.size]? = some (.cells R 27 (0, 0))) := hide (heap_alloc_new _ _)
      have B0 : Hid (Below w.heap.size w (w.alloc (.cells R 27))) := hide ((Below.refl _ w).alloc (Nat.le_refl _) _)
      set_option maxRecDepth 20000 in
      go_enter Tryd.func3, Tryd.ntmps3
      set_option maxRecDepth 20000 in
      go_wp2_with (first
        | (refine wpList_load_row rfl 27 (.tmp 2) rfl w.heap.size rfl _ _ _ _ P0.out Tryd.underlying27 rfl IR.info ?_))
      refine (KS.out _).mono ?_
      rintro e w1 ⟨rfl, c1⟩
      have P1 := hide ((c1.block _ (lt_of_block P0.out)).trans P0.out)
      have B1 := hide (bnext B0.out c1)
      clear c1 P0 B0
      set_option maxRecDepth 20000 in
      go_wp2_with (first
        | (refine wpList_alloced rfl 27 rfl (rowF (iv fun _ => 0) 244) zero_P ?_)
        | (refine wpList_store_row rfl 27 (.tmp 6) (.tmp 28) rfl w1.heap.size R (by simp [Act.eval]) rfl 27 _ (hasF_new _ _ _ _) IR.info IR.zero IR.2 ?_; refine under_list fun w2 hh => ?_; have M2 : Hid (w2.heap[w1.heap.size]? = some (.cells R 27 (0, 0))) := hide (by rw [hh]; exact setRow_heap _ _ _ _ _ _ (hasF_new _ _ _ _)); have W2 : Below w1.heap.size w1 w2 := (by rw [hh]; exact below_setRow ((Below.refl _ _).alloc (Nat.le_refl _) _) (Nat.le_refl _) _); have P2 := hide ((W2.block _ (lt_of_block P1.out)).trans P1.out); have B2 := hide (bnext B1.out W2); clear hh W2 P1 B1)
        | (refine wpList_load_row rfl 27 (.tmp 2) rfl w.heap.size rfl _ _ _ _ P2.out Tryd.underlying27 rfl IR.info ?_))
      refine (KO.out _).mono ?_
      rintro e w3 ⟨rfl, c3⟩
      have M3 := hide ((c3.block _ (lt_of_block M2.out)).trans M2.out)
      have B3 := hide (bnext B2.out c3)
      clear c3 M2 B2 P2
      set_option maxRecDepth 20000 in
      go_wp2_with (first
        | (refine wpList_alloced rfl 34 rfl (rowF (iv fun _ => 0) 244) zero_R ?_)
        | (refine wpList_store_row rfl 34 (.tmp 7) (.tmp 30) rfl w3.heap.size R (by simp [Act.eval, Act.put]) rfl 34 _ (hasF_new _ _ _ _) IR.inf2 IR.zero IR.2 ?_; refine under_list fun w4 hh => ?_; have N4 : Hid (w4.heap[w3.heap.size]? = some (.cells R 34 (0, 0))) := hide (by rw [hh]; exact setRow_heap _ _ _ _ _ _ (hasF_new _ _ _ _)); have W4 : Below w3.heap.size w3 w4 := (by rw [hh]; exact below_setRow ((Below.refl _ _).alloc (Nat.le_refl _) _) (Nat.le_refl _) _); have M4 := hide ((W4.block _ (lt_of_block M3.out)).trans M3.out); have B4 := hide (bnext B3.out W4); clear hh W4 M3 B3)
        | (refine wpList_load_row rfl 34 (.tmp 7) rfl w3.heap.size rfl _ _ _ _ N4.out Tryd.underlying34 rfl IR.inf2 ?_))
      refine (KV.out _).mono ?_
      rintro e w5 ⟨rfl, c5⟩
      have N5 := hide ((c5.block _ (lt_of_block N4.out)).trans N4.out)
      have M5 := hide ((c5.block _ (lt_of_block M4.out)).trans M4.out)
      have B5 := hide (bnext B4.out c5)
      clear c5 N4 M4 B4
      generalize w3.heap.size = g7 at *
      generalize w1.heap.size = g6 at *
      set_option maxRecDepth 20000 in
      go_wp2_with (first
        | (go_at_call 11; refine (KF.out _).mono ?_; rintro e w6 ⟨rfl, c6⟩))
      refine (KT.out _ (HL.out.next (bnext B5.out c6))).mono ?_
      rintro e w7 ⟨g, rfl, c7⟩
      have W7 := bnext c6 c7
      have N7 := hide ((W7.block _ (lt_of_block N5.out)).trans N5.out)
      have M7 := hide ((W7.block _ (lt_of_block M5.out)).trans M5.out)
      have B7 := hide (bnext B5.out W7)
      clear c6 c7 W7 N5 M5 B5
      set_option maxRecDepth 20000 in
      go_wp2_with (first
        | (refine wpList_alloced rfl 27 rfl (rowF (iv fun _ => 0) 244) zero_P ?_)
        | (refine wpList_store_row rfl 27 (.tmp 9) (.tmp 46) rfl w7.heap.size RT (by simp [Act.eval]) rfl 27 _ (hasF_new _ _ _ _) IT.info IT.zero IT.2 ?_; refine under_list fun w8 hh => ?_; have W8 : Below w7.heap.size w7 w8 := (by rw [hh]; exact below_setRow ((Below.refl _ _).alloc (Nat.le_refl _) _) (Nat.le_refl _) _); have N8 := hide ((W8.block _ (lt_of_block N7.out)).trans N7.out); have M8 := hide ((W8.block _ (lt_of_block M7.out)).trans M7.out); have B8 := hide (bnext B7.out W8); clear hh W8 N7 M7 B7))
      haveI := kept_some w8
      refine wp_region_kept (by kernel_rfl) (by kernel_rfl) ?_
      simp only [Act.put]
      set_option maxRecDepth 20000 in
      repeat (first
        | (refine wpQuiet_row rfl 27 (.tmp 6) rfl g6 rfl 27 _ (0, 0) _ (fun w' ⟨x, hx⟩ => by rw [hx]; exact (x.block _ (lt_of_block M8.out)).trans M8.out) Tryd.underlying27 rfl IR.info ?_; simp only [Act.put, List.setIfInBounds_toArray, List.set_cons_succ, List.set_cons_zero])
        | (refine wpQuiet_row rfl 34 (.tmp 7) rfl g7 rfl 34 _ (0, 0) _ (fun w' ⟨x, hx⟩ => by rw [hx]; exact (x.block _ (lt_of_block N8.out)).trans N8.out) Tryd.underlying34 rfl IR.inf2 ?_; simp only [Act.put, List.setIfInBounds_toArray, List.set_cons_succ, List.set_cons_zero])
        | go_big_quiet_step ((first | (go_at_call 9; exact kept_call (KO.out _)))))
      refine wpQuiet_nil ?_
      rintro _ ⟨wk, rfl⟩
      have B9 := hide (bnext B8.out wk.below)
      set_option maxRecDepth 20000 in
      go_wp2_with fail
      go_ret
      exact ⟨rfl, B9.out⟩
    · have k2 : n < 1 := by
        rcases hq with c | c | c
        · cases c
        · exact c
        · omega
      have P0 : Hid ((w.alloc (.cells R 27)).heap[w.heap.size]? = some (.cells R 27 (0, 0))) := hide (heap_alloc_new _ _)
      have B0 : Hid (Below w.heap.size w (w.alloc (.cells R 27))) := hide ((Below.refl _ w).alloc (Nat.le_refl _) _)
      set_option maxRecDepth 20000 in
      go_enter Tryd.func3, Tryd.ntmps3
      set_option maxRecDepth 20000 in
      go_wp2_with (first
        | (refine wpList_load_row rfl 27 (.tmp 2) rfl w.heap.size rfl _ _ _ _ P0.out Tryd.underlying27 rfl IR.info ?_))
      refine (KS.out _).mono ?_
      rintro e w1 ⟨rfl, c1⟩
      have P1 := hide ((c1.block _ (lt_of_block P0.out)).trans P0.out)
      have B1 := hide (bnext B0.out c1)
      clear c1 P0 B0
      set_option maxRecDepth 20000 in
      go_wp2_with (first
        | (refine wpList_alloced rfl 27 rfl (rowF (iv fun _ => 0) 244) zero_P ?_)
        | (refine wpList_store_row rfl 27 (.tmp 6) (.tmp 28) rfl w1.heap.size R (by simp [Act.eval]) rfl 27 _ (hasF_new _ _ _ _) IR.info IR.zero IR.2 ?_; refine under_list fun w2 hh => ?_; have M2 : Hid (w2.heap[w1.heap.size]? = some (.cells R 27 (0, 0))) := hide (by rw [hh]; exact setRow_heap _ _ _ _ _ _ (hasF_new _ _ _ _)); have W2 : Below w1.heap.size w1 w2 := (by rw [hh]; exact below_setRow ((Below.refl _ _).alloc (Nat.le_refl _) _) (Nat.le_refl _) _); have P2 := hide ((W2.block _ (lt_of_block P1.out)).trans P1.out); have B2 := hide (bnext B1.out W2); clear hh W2 P1 B1)
        | (refine wpList_load_row rfl 27 (.tmp 2) rfl w.heap.size rfl _ _ _ _ P2.out Tryd.underlying27 rfl IR.info ?_))
      refine (KO.out _).mono ?_
      rintro e w3 ⟨rfl, c3⟩
      have M3 := hide ((c3.block _ (lt_of_block M2.out)).trans M2.out)
      have B3 := hide (bnext B2.out c3)
      clear c3 M2 B2 P2
      set_option maxRecDepth 20000 in
      go_wp2_with (first
        | (refine wpList_alloced rfl 34 rfl (rowF (iv fun _ => 0) 244) zero_R ?_)
        | (refine wpList_store_row rfl 34 (.tmp 7) (.tmp 30) rfl w3.heap.size R (by simp [Act.eval, Act.put]) rfl 34 _ (hasF_new _ _ _ _) IR.inf2 IR.zero IR.2 ?_; refine under_list fun w4 hh => ?_; have N4 : Hid (w4.heap[w3.heap.size]? = some (.cells R 34 (0, 0))) := hide (by rw [hh]; exact setRow_heap _ _ _ _ _ _ (hasF_new _ _ _ _)); have W4 : Below w3.heap.size w3 w4 := (by rw [hh]; exact below_setRow ((Below.refl _ _).alloc (Nat.le_refl _) _) (Nat.le_refl _) _); have M4 := hide ((W4.block _ (lt_of_block M3.out)).trans M3.out); have B4 := hide (bnext B3.out W4); clear hh W4 M3 B3)
        | (refine wpList_load_row rfl 34 (.tmp 7) rfl w3.heap.size rfl _ _ _ _ N4.out Tryd.underlying34 rfl IR.inf2 ?_))
      refine (KV.out _).mono ?_
      rintro e w5 ⟨rfl, c5⟩
      have N5 := hide ((c5.block _ (lt_of_block N4.out)).trans N4.out)
      have M5 := hide ((c5.block _ (lt_of_block M4.out)).trans M4.out)
      have B5 := hide (bnext B4.out c5)
      clear c5 N4 M4 B4
      generalize w3.heap.size = g7 at *
      generalize w1.heap.size = g6 at *
      set_option maxRecDepth 20000 in
      go_wp2_with (first
        | (go_at_call 11; refine (KF.out _).mono ?_; rintro e w6 ⟨rfl, c6⟩))
      refine (KT.out _ (HL.out.next (bnext B5.out c6))).mono ?_
      rintro e w7 ⟨g, rfl, c7⟩
      have W7 := bnext c6 c7
      have N7 := hide ((W7.block _ (lt_of_block N5.out)).trans N5.out)
      have M7 := hide ((W7.block _ (lt_of_block M5.out)).trans M5.out)
      have B7 := hide (bnext B5.out W7)
      clear c6 c7 W7 N5 M5 B5
      set_option maxRecDepth 20000 in
      go_wp2_with (first
        | (refine wpList_alloced rfl 27 rfl (rowF (iv fun _ => 0) 244) zero_P ?_)
        | (refine wpList_store_row rfl 27 (.tmp 9) (.tmp 46) rfl w7.heap.size RT (by simp [Act.eval]) rfl 27 _ (hasF_new _ _ _ _) IT.info IT.zero IT.2 ?_; refine under_list fun w8 hh => ?_; have W8 : Below w7.heap.size w7 w8 := (by rw [hh]; exact below_setRow ((Below.refl _ _).alloc (Nat.le_refl _) _) (Nat.le_refl _) _); have N8 := hide ((W8.block _ (lt_of_block N7.out)).trans N7.out); have M8 := hide ((W8.block _ (lt_of_block M7.out)).trans M7.out); have B8 := hide (bnext B7.out W8); clear hh W8 N7 M7 B7))
      haveI := kept_some w8
      refine wp_region_kept (by kernel_rfl) (by kernel_rfl) ?_
      simp only [Act.put]
      set_option maxRecDepth 20000 in
      repeat (first
        | (refine wpQuiet_row rfl 27 (.tmp 6) rfl g6 rfl 27 _ (0, 0) _ (fun w' ⟨x, hx⟩ => by rw [hx]; exact (x.block _ (lt_of_block M8.out)).trans M8.out) Tryd.underlying27 rfl IR.info ?_; simp only [Act.put, List.setIfInBounds_toArray, List.set_cons_succ, List.set_cons_zero])
        | (refine wpQuiet_row rfl 34 (.tmp 7) rfl g7 rfl 34 _ (0, 0) _ (fun w' ⟨x, hx⟩ => by rw [hx]; exact (x.block _ (lt_of_block N8.out)).trans N8.out) Tryd.underlying34 rfl IR.inf2 ?_; simp only [Act.put, List.setIfInBounds_toArray, List.set_cons_succ, List.set_cons_zero])
        | go_big_quiet_step ((first | (go_at_call 9; exact kept_call (KO.out _)))))
      refine wpQuiet_nil ?_
      rintro _ ⟨wk, rfl⟩
      have B9 := hide (bnext B8.out wk.below)
      set_option maxRecDepth 20000 in
      go_wp2_with fail
      go_ret
      exact ⟨rfl, B9.out⟩
set_option maxHeartbeats 8000000 in
theorem tells_bad (n t : Int) (k0 : 40 < n) (k1 : n ≤ 65536) (t0 : 0 ≤ t) (t1 : t < 40) (ht : Int.tmod n 40 = t) (R RF RT : Array Value) (w : World) (HL : Hid (HasLevels w)) (IR : Is244 R) (IT : Is244 RT) (KS : Hid (∀ u : World, Calls Tryd.prog 8 #[.agg R, .int .i64 (t + 1)] u fun e w' => e = Ending.returned (.tuple #[.slice none 0 0, .agg R]) ∧ Below u.heap.size u w')) (KO : Hid (∀ u : World, Calls Tryd.prog 9 #[.agg R] u fun e w' => e = Ending.returned (.agg R) ∧ Below u.heap.size u w')) (KF : Hid (∀ u : World, Calls Tryd.prog 11 #[] u fun e w' => e = Ending.returned (.agg RF) ∧ Below u.heap.size u w')) (KT : Hid (∀ u : World, HasLevels u → Calls Tryd.prog 8 #[.agg RF, .int .i64 1] u fun e w' => ∃ g, e = Ending.returned (.tuple #[.slice (some ⟨g, 0, none⟩) 1 1, .agg RT]) ∧ Below u.heap.size u w')) (EE : ∀ w : World, (binOp .eql 34 (.agg R) (.agg R)).run Tryd.prog w = .ok (.bool true) w) (KV : Hid (∀ u : World, Calls Tryd.prog 10 #[.agg R] u fun e w' => e = Ending.returned (.bool false) ∧ Below u.heap.size u w')) : Calls Tryd.prog 3 #[.agg R, .int .i64 n] w fun e w' => e = .returned (.bool true) ∧ Below w.heap.size w w' := by
  have P0 : Hid ((w.alloc (.cells R 27)).heap[w.heap.size]? = some (.cells R 27 (0, 0))) := hide (heap_alloc_new _ _)
  have B0 : Hid (Below w.heap.size w (w.alloc (.cells R 27))) := hide ((Below.refl _ w).alloc (Nat.le_refl _) _)
  set_option maxRecDepth 20000 in
  go_enter Tryd.func3, Tryd.ntmps3
  set_option maxRecDepth 20000 in
  go_wp2_with (first
    | (refine wpList_load_row rfl 27 (.tmp 2) rfl w.heap.size rfl _ _ _ _ P0.out Tryd.underlying27 rfl IR.info ?_))
  refine (KS.out _).mono ?_
  rintro e w1 ⟨rfl, c1⟩
  have P1 := hide ((c1.block _ (lt_of_block P0.out)).trans P0.out)
  have B1 := hide (bnext B0.out c1)
  clear c1 P0 B0
  set_option maxRecDepth 20000 in
  go_wp2_with (first
    | (refine wpList_alloced rfl 27 rfl (rowF (iv fun _ => 0) 244) zero_P ?_)
    | (refine wpList_store_row rfl 27 (.tmp 6) (.tmp 28) rfl w1.heap.size R (by simp [Act.eval]) rfl 27 _ (hasF_new _ _ _ _) IR.info IR.zero IR.2 ?_; refine under_list fun w2 hh => ?_; have M2 : Hid (w2.heap[w1.heap.size]? = some (.cells R 27 (0, 0))) := hide (by rw [hh]; exact setRow_heap _ _ _ _ _ _ (hasF_new _ _ _ _)); have W2 : Below w1.heap.size w1 w2 := (by rw [hh]; exact below_setRow ((Below.refl _ _).alloc (Nat.le_refl _) _) (Nat.le_refl _) _); have P2 := hide ((W2.block _ (lt_of_block P1.out)).trans P1.out); have B2 := hide (bnext B1.out W2); clear hh W2 P1 B1)
    | (refine wpList_load_row rfl 27 (.tmp 2) rfl w.heap.size rfl _ _ _ _ P2.out Tryd.underlying27 rfl IR.info ?_))
  refine (KO.out _).mono ?_
  rintro e w3 ⟨rfl, c3⟩
  have M3 := hide ((c3.block _ (lt_of_block M2.out)).trans M2.out)
  have B3 := hide (bnext B2.out c3)
  clear c3 M2 B2 P2
  set_option maxRecDepth 20000 in
  go_wp2_with (first
    | (refine wpList_alloced rfl 34 rfl (rowF (iv fun _ => 0) 244) zero_R ?_)
    | (refine wpList_store_row rfl 34 (.tmp 7) (.tmp 30) rfl w3.heap.size R (by simp [Act.eval, Act.put]) rfl 34 _ (hasF_new _ _ _ _) IR.inf2 IR.zero IR.2 ?_; refine under_list fun w4 hh => ?_; have N4 : Hid (w4.heap[w3.heap.size]? = some (.cells R 34 (0, 0))) := hide (by rw [hh]; exact setRow_heap _ _ _ _ _ _ (hasF_new _ _ _ _)); have W4 : Below w3.heap.size w3 w4 := (by rw [hh]; exact below_setRow ((Below.refl _ _).alloc (Nat.le_refl _) _) (Nat.le_refl _) _); have M4 := hide ((W4.block _ (lt_of_block M3.out)).trans M3.out); have B4 := hide (bnext B3.out W4); clear hh W4 M3 B3)
    | (refine wpList_load_row rfl 34 (.tmp 7) rfl w3.heap.size rfl _ _ _ _ N4.out Tryd.underlying34 rfl IR.inf2 ?_))
  refine (KV.out _).mono ?_
  rintro e w5 ⟨rfl, c5⟩
  have N5 := hide ((c5.block _ (lt_of_block N4.out)).trans N4.out)
  have M5 := hide ((c5.block _ (lt_of_block M4.out)).trans M4.out)
  have B5 := hide (bnext B4.out c5)
  clear c5 N4 M4 B4
  generalize w3.heap.size = g7 at *
  generalize w1.heap.size = g6 at *
  set_option maxRecDepth 20000 in
  go_wp2_with (first
    | (go_at_call 11; refine (KF.out _).mono ?_; rintro e w6 ⟨rfl, c6⟩))
  refine (KT.out _ (HL.out.next (bnext B5.out c6))).mono ?_
  rintro e w7 ⟨g, rfl, c7⟩
  have W7 := bnext c6 c7
  have N7 := hide ((W7.block _ (lt_of_block N5.out)).trans N5.out)
  have M7 := hide ((W7.block _ (lt_of_block M5.out)).trans M5.out)
  have B7 := hide (bnext B5.out W7)
  clear c6 c7 W7 N5 M5 B5
  set_option maxRecDepth 20000 in
  go_wp2_with (first
    | (refine wpList_alloced rfl 27 rfl (rowF (iv fun _ => 0) 244) zero_P ?_)
    | (refine wpList_store_row rfl 27 (.tmp 9) (.tmp 46) rfl w7.heap.size RT (by simp [Act.eval]) rfl 27 _ (hasF_new _ _ _ _) IT.info IT.zero IT.2 ?_; refine under_list fun w8 hh => ?_; have W8 : Below w7.heap.size w7 w8 := (by rw [hh]; exact below_setRow ((Below.refl _ _).alloc (Nat.le_refl _) _) (Nat.le_refl _) _); have N8 := hide ((W8.block _ (lt_of_block N7.out)).trans N7.out); have M8 := hide ((W8.block _ (lt_of_block M7.out)).trans M7.out); have B8 := hide (bnext B7.out W8); clear hh W8 N7 M7 B7))
  haveI := kept_some w8
  refine wp_region_kept (by kernel_rfl) (by kernel_rfl) ?_
  simp only [Act.put]
  set_option maxRecDepth 20000 in
  repeat (first
    | (refine wpQuiet_row rfl 27 (.tmp 6) rfl g6 rfl 27 _ (0, 0) _ (fun w' ⟨x, hx⟩ => by rw [hx]; exact (x.block _ (lt_of_block M8.out)).trans M8.out) Tryd.underlying27 rfl IR.info ?_; simp only [Act.put, List.setIfInBounds_toArray, List.set_cons_succ, List.set_cons_zero])
    | (refine wpQuiet_row rfl 34 (.tmp 7) rfl g7 rfl 34 _ (0, 0) _ (fun w' ⟨x, hx⟩ => by rw [hx]; exact (x.block _ (lt_of_block N8.out)).trans N8.out) Tryd.underlying34 rfl IR.inf2 ?_; simp only [Act.put, List.setIfInBounds_toArray, List.set_cons_succ, List.set_cons_zero])
    | go_big_quiet_step ((first | (go_at_call 9; exact kept_call (KO.out _)))))
  refine wpQuiet_nil ?_
  rintro _ ⟨wk, rfl⟩
  have B9 := hide (bnext B8.out wk.below)
  set_option maxRecDepth 20000 in
  go_wp2_with fail
  go_ret
  exact ⟨rfl, B9.out⟩
theorem psgTells_walk (f : Nat → Int) (n : Int) (w : World) (hf : ∀ j, j < 244 → (Lit.int .i64 (f j)).wf = true) (w1 : (Lit.int .i64 n).wf = true) (hL : HasLevels w) : Calls Tryd.prog 3 #[.agg (rowF (iv f) 244), .int .i64 n] w fun e w' => e = .returned (.bool true) ∧ Below w.heap.size w w' := by
  have KT : ∀ u : World, HasLevels u → Calls Tryd.prog 8 #[.agg (rowF (iv freshF) 244), .int .i64 1] u fun e w' => ∃ g, e = Ending.returned (.tuple #[.slice (some ⟨g, 0, none⟩) 1 1, .agg (rowF (iv (itF freshF 1)) 244)]) ∧ Below u.heap.size u w' := fun u hu => (samples_any freshF 1 (by decide) (by decide) fresh_ok u hu).mono fun e w' ⟨g, h1, h2, h3⟩ => ⟨g, h1, h3⟩
  by_cases hm : 40 < n ∧ n ≤ 65536
  · have tt : Int.tmod n 40 = n % 40 := Int.tmod_eq_emod_of_nonneg (by omega)
    by_cases ok : okP f
    · have KV : ∀ u : World, Calls Tryd.prog 10 #[.agg (rowF (iv f) 244)] u fun e w' => e = Ending.returned (.bool true) ∧ Below u.heap.size u w' := fun u => by
        have k := rvalid_any f u
        rw [(vB_iff f).1 ok] at k
        exact k
      exact tells_mod n ((n % 40).toNat + 1) (by omega) (by omega) (smp f) _ _ (fun i => rowF (iv (itF f i)) 244) w (hide hL) hm.1 hm.2 (n % 40) (by omega) (by omega) tt (by omega) (is244 _) (is244 _) (fun i => is244 _) rfl rfl (hide fun u hu => samples_any f _ (by omega) (by omega) ok u hu) (hide fun u => own_any f u) (hide KV) (hide fun i u => tells_one f ok i u) (hide fun u => own_any _ u) (fun w => rpsg_eql _ w)
    · have hv := vB_no ok
      have KV : ∀ u : World, Calls Tryd.prog 10 #[.agg (rowF (iv f) 244)] u fun e w' => e = Ending.returned (.bool false) ∧ Below u.heap.size u w' := fun u => by
        have k := rvalid_any f u
        rw [hv] at k
        exact k
      exact tells_bad n (n % 40) hm.1 hm.2 (by omega) (by omega) tt _ _ _ w (hide hL) (is244 _) (is244 _) (hide fun u => samples_no f _ (.inl hv) u) (hide fun u => own_any f u) (hide fun u => fresh_any u) (hide KT) (fun w => rpsg_eql _ w) (hide KV)
  · by_cases hy : okP f ∧ 1 ≤ n ∧ n ≤ 40
    · obtain ⟨ok, a1, a2⟩ := hy
      have KV : ∀ u : World, Calls Tryd.prog 10 #[.agg (rowF (iv f) 244)] u fun e w' => e = Ending.returned (.bool true) ∧ Below u.heap.size u w' := fun u => by
        have k := rvalid_any f u
        rw [(vB_iff f).1 ok] at k
        exact k
      exact tells_yes n n.toNat (by omega) (by omega) (smp f) _ _ (fun i => rowF (iv (itF f i)) 244) w (hide hL) (by omega) (is244 _) (is244 _) (fun i => is244 _) rfl rfl (hide fun u hu => samples_any f _ (by omega) (by omega) ok u hu) (hide fun u => own_any f u) (hide KV) (hide fun i u => tells_one f ok i u) (hide fun u => own_any _ u) (fun w => rpsg_eql _ w)
    · have hq : vB f = false ∨ n < 1 ∨ 65536 < n := by
        by_cases ok : okP f
        · have : ¬ (1 ≤ n ∧ n ≤ 40) := fun c => hy ⟨ok, c⟩
          omega
        · exact .inl (vB_no ok)
      exact tells_no n hm (vB f) hq _ _ _ w (hide hL) (is244 _) (is244 _) (hide fun u => samples_no f n hq u) (hide fun u => own_any f u) (hide fun u => fresh_any u) (hide KT) (fun w => rpsg_eql _ w) (hide fun u => rvalid_any f u)

set_option maxRecDepth 100000 in
theorem psgTells_lifted (os : Os) (started : os.Started) (H : Type) (enc : TypeId × Value → H) :
    ReturnsInHanded {} Tryd.checked os 3 .any (fun w args => (Rows.psgTellsSpec.pre enc Tryd.prog Tryd.f3 [] false w args ∧ laidMetH Tryd.prog laidLev w) ∧ sizedMet enc Tryd.prog Tryd.f3 (OpenSpec.ofChange Rows.psgTellsSpec) false w args)
      (Rows.psgTellsSpec.post enc Tryd.prog Tryd.f3 false true false false) := by
  refine returnsInHanded_of_change_and (C := Tryd.checked) (X := fun w _ => laidMetH Tryd.prog laidLev w) (fun _ _ _ hh h => h.of_heap hh) own started (by kernel_rfl) Tryd.func3
    (ChangeSpec.witness_at (enc := enc) (C := Tryd.checked) (os := os) (X := fun w _ => laidMetH Tryd.prog laidLev w) false (laidWorld os) #[.agg #[.int .i64 0, .int .i64 0, .int .i64 0, .int .i64 0, .int .i64 0, .int .i64 0, .int .i64 0, .int .i64 0, .int .i64 0, .int .i64 0, .int .i64 0, .int .i64 0, .int .i64 0, .int .i64 0, .int .i64 0, .int .i64 0, .int .i64 0, .int .i64 0, .int .i64 0, .int .i64 0, .int .i64 0, .int .i64 0, .int .i64 0, .int .i64 0, .int .i64 0, .int .i64 0, .int .i64 0, .int .i64 0, .int .i64 0, .int .i64 0, .int .i64 0, .int .i64 0, .int .i64 0, .int .i64 0, .int .i64 0, .int .i64 0, .int .i64 0, .int .i64 0, .int .i64 0, .int .i64 0, .int .i64 0, .int .i64 0, .int .i64 0, .int .i64 0, .int .i64 0, .int .i64 0, .int .i64 0, .int .i64 0, .int .i64 0, .int .i64 0, .int .i64 0, .int .i64 0, .int .i64 0, .int .i64 0, .int .i64 0, .int .i64 0, .int .i64 0, .int .i64 0, .int .i64 0, .int .i64 0, .int .i64 0, .int .i64 0, .int .i64 0, .int .i64 0, .int .i64 0, .int .i64 0, .int .i64 0, .int .i64 0, .int .i64 0, .int .i64 0, .int .i64 0, .int .i64 0, .int .i64 0, .int .i64 0, .int .i64 0, .int .i64 0, .int .i64 0, .int .i64 0, .int .i64 0, .int .i64 0, .int .i64 0, .int .i64 0, .int .i64 0, .int .i64 0, .int .i64 0, .int .i64 0, .int .i64 0, .int .i64 0, .int .i64 0, .int .i64 0, .int .i64 0, .int .i64 0, .int .i64 0, .int .i64 0, .int .i64 0, .int .i64 0, .int .i64 0, .int .i64 0, .int .i64 0, .int .i64 0, .int .i64 0, .int .i64 0, .int .i64 0, .int .i64 0, .int .i64 0, .int .i64 0, .int .i64 0, .int .i64 0, .int .i64 0, .int .i64 0, .int .i64 0, .int .i64 0, .int .i64 0, .int .i64 0, .int .i64 0, .int .i64 0, .int .i64 0, .int .i64 0, .int .i64 0, .int .i64 0, .int .i64 0, .int .i64 0, .int .i64 0, .int .i64 0, .int .i64 0, .int .i64 0, .int .i64 0, .int .i64 0, .int .i64 0, .int .i64 0, .int .i64 0, .int .i64 0, .int .i64 0, .int .i64 0, .int .i64 0, .int .i64 0, .int .i64 0, .int .i64 0, .int .i64 0, .int .i64 0, .int .i64 0, .int .i64 0, .int .i64 0, .int .i64 0, .int .i64 0, .int .i64 0, .int .i64 0, .int .i64 0, .int .i64 0, .int .i64 0, .int .i64 0, .int .i64 0, .int .i64 0, .int .i64 0, .int .i64 0, .int .i64 0, .int .i64 0, .int .i64 0, .int .i64 0, .int .i64 0, .int .i64 0, .int .i64 0, .int .i64 0, .int .i64 0, .int .i64 0, .int .i64 0, .int .i64 0, .int .i64 0, .int .i64 0, .int .i64 0, .int .i64 0, .int .i64 0, .int .i64 0, .int .i64 0, .int .i64 0, .int .i64 0, .int .i64 0, .int .i64 0, .int .i64 0, .int .i64 0, .int .i64 0, .int .i64 0, .int .i64 0, .int .i64 0, .int .i64 0, .int .i64 0, .int .i64 0, .int .i64 0, .int .i64 0, .int .i64 0, .int .i64 0, .int .i64 0, .int .i64 0, .int .i64 0, .int .i64 0, .int .i64 0, .int .i64 0, .int .i64 0, .int .i64 0, .int .i64 0, .int .i64 0, .int .i64 0, .int .i64 0, .int .i64 0, .int .i64 0, .int .i64 0, .int .i64 0, .int .i64 0, .int .i64 0, .int .i64 0, .int .i64 0, .int .i64 0, .int .i64 0, .int .i64 0, .int .i64 0, .int .i64 0, .int .i64 0, .int .i64 0, .int .i64 0, .int .i64 0, .int .i64 0, .int .i64 0, .int .i64 0, .int .i64 0, .int .i64 0, .int .i64 0, .int .i64 0, .int .i64 0, .int .i64 0, .int .i64 0, .int .i64 0, .int .i64 0, .int .i64 0, .int .i64 0, .int .i64 0, .int .i64 0, .int .i64 0, .int .i64 0, .int .i64 0, .int .i64 0, .int .i64 0, .int .i64 0, .int .i64 0, .int .i64 0], .int .i64 0] 8 rfl (by kernel_rfl) (by kernel_rfl) (by kernel_rfl) (by kernel_rfl) (by kernel_rfl) (laidWorld_lev os _)) ?_
  intro W base args ds gs before hval0 hW _ _ hL _
  have hval : ∀ (j : Nat) t v, Tryd.f3.params[j]? = some t → args[j]? = some v → Value.okWide Tryd.prog W .any base t v := hval0
  have hW' := hW
  obtain ⟨p, q, hA0, hV, rfl, hfz, hnd⟩ := hW
  have hA : DataW.TrodAll enc Tryd.prog W 0 (fun _ => true) true Tryd.f3.params.toList args.toList ds p := hA0
  rw [Tryd.params3] at hA hval
  obtain ⟨v0, vs0, d0, ds0, p0, q0, hargs, rfl, rfl, h0, r0⟩ := trodAll_cons hA
  obtain ⟨v1, vs1, d1, ds1, p1, q1, rfl, rfl, rfl, h1, r1⟩ := trodAll_cons r0
  obtain ⟨rfl, rfl, rfl⟩ := trodAll_nil r1
  obtain rfl : args = #[v0, v1] := by cases args; simp_all
  obtain ⟨rfl, rfl⟩ := trodVars_none hV
  have k0 := h0
  have lt0 : ∀ x ∈ p0, x.block < W.heap.size := by obtain ⟨m, hm⟩ := k0; exact DataW.trod_lt m _ _ _ hm
  obtain ⟨f0, rfl, g0⟩ := open_flat Tryd.underlying27 (by kernel_rfl) psg_ints (hval 0 27 v0 rfl rfl) h0
  obtain ⟨a1, rfl, rfl, rfl, w1⟩ := open_int Tryd.underlying3 (hval 1 3 v1 rfl rfl) h1
  clear hA0 hval0
  refine (psgTells_walk f0 a1 W g0 w1 (laid_lev hL)).mono fun e W' ⟨he, bel⟩ => ?_
  subst he
  exact ⟨_, rfl, _, _, _, [], _, [], hW', trodAll_mk1 (shut_bool Tryd.underlying4 _), (trodAll_cons_mk (Below.trod laidOut (by kernel_rfl) (of_decide_eq_true (by kernel_rfl)) k0 bel lt0) (trodAll_cons_mk (shut_int Tryd.underlying3 w1) trodAll_mk0)), rfl, bel.frame _, fun h => by cases h⟩

theorem psgTells_over : Rows.psgTellsRow.holds Tryd.pinned (OpenSpec.ofChange Rows.psgTellsSpec) :=
  OpenClaim.holds_of_wide 3 Tryd.f3 rfl rfl rfl rfl rfl rfl rfl ⟨rfl, rfl, rfl, rfl, rfl⟩ rfl rfl rfl rfl rfl (by kernel_rfl) Tryd.func3 (by kernel_rfl)
    (of_decide_eq_true (by kernel_rfl)) (by unfold Func.isWrapper; first | (rw [if_pos (by decide +kernel)]; kernel_rfl) | (rw [if_neg (by decide +kernel)]; exact ⟨rfl, rfl⟩))
    (fun os started H enc _ => psgTells_lifted os started H enc)

theorem psgTells_row : Rows.PsgTellsSaid := psgTells_over

theorem psgTells_holds : Rows.PsgTellsCardSaid :=
  Claim7.holds_tied_plain_at .later [] [.data] true (true, "44e93f02091fb777b829c2094e8ff427b31d8bf2f2d5906b7fee23afb9181329") false
    psgTells_row (fun _ h => by cases h) (by kernel_rfl) (fun _ h => by cases h) psgTells_row_tie rfl ⟨rfl, rfl⟩ (by kernel_rfl) rfl
    (fun f fn hf hfn => by
      obtain rfl : f = 3 := Option.some.inj ((show Tryd.prog.funcNamed "phosphor/phosphorlaw22.PsgTells" = some 3 by kernel_rfl).symm.trans hf) |>.symm
      obtain rfl : fn = Tryd.f3 := (Option.some.inj (Tryd.func3.symm.trans hfn)).symm
      exact ⟨by kernel_rfl, fun j t ht => by
        rw [Tryd.params3] at ht
        rcases j with _ | _ | j
        · obtain rfl : t = 27 := by simpa using ht.symm
          exact (show Tryd.prog.wantsStandIn 27 = false by kernel_rfl)
        · obtain rfl : t = 3 := by simpa using ht.symm
          exact (show Tryd.prog.wantsStandIn 3 = false by kernel_rfl)
        · simp at ht⟩)
    (by kernel_rfl)
#print axioms psgTells_holds
end Go.Proofs.YtcpilhbinkamiaaDoor
