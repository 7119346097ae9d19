/- For every sound and every number the law PsgSilent of layer 22 returns true, where the program's table of levels holds what its own initialiser lays: where no channel is on all samples are 0, and nothing goes on. -/
import Derived.Test.YtcpilhbinkamiaaDoorSamples22
import Derived.Test.YtcpilhbinkamiaaDoorOpen22
import Derived.Test.YtcpilhbinkamiaaDoorLevLaid
import Derived.Test.YtcpilhbinkamiaaDoorTie
import Derived.Test.YtcpilhbinkamiaaDoorCards
import Derived.SevenTiedAt
import Derived.OpenShut
import Derived.ShutString
import Derived.ChangeOld
import Derived.Below
namespace Go.Proofs.YtcpilhbinkamiaaDoor
open Go.ChangeShapes Go.WideShapes Go.ChangeAt Go.RowKit
open Go.ChangeMaps (open_string shut_string)
set_option linter.unusedVariables false
theorem own : ownKnob Tryd.prog.godebug = none := by kernel_rfl

theorem mask_127 (n : Int) : bits .and .i64 n 127 = n % 128 := and_mask 7 (by decide) n
theorem wpList_load_want {P : Program} {ops : Array Oper} {rest : List Oper} {o : Oper} {a : Act} {w : World} {Q : Exit → Act → World → Prop} (hw : Region.wanted o (yielded ops a.tmps) = true) (ty : TypeId) (x : Operand) (ho : o.op = .load ty x)
    (g : Nat) (hx : a.eval x = .pointer (some ⟨g, 0, none⟩)) (t : TypeId) (cs : Array Value) (fr : Nat × Nat) (d : TypeDesc) (hg : w.heap[g]? = some (.cells cs t fr))
    (hu : P.underlying ty = some d) (hd : (match d with | .struct _ | .array _ _ => true | _ => false) = true) (hi : (P.info? ty).map (·.size) = some cs.size)
    (h : wpList P ops Q rest (a.put o.dst (.agg cs)) w) : wpList P ops Q (o :: rest) a w :=
  BigFrame.wpList_want hw fun _ hK => wp_load_row ty x ho g hx t cs fr d hg hu hd hi (hK _ _ h)
/-- The first channels are off. -/
def silTo (f : Nat → Int) (n : Nat) : Nat → Int := fun i => if 4 ≤ i ∧ (i - 4) / 40 < n ∧ (i - 4) % 40 = 1 then f i % 128 else f i
theorem sil_0 (f : Nat → Int) : silTo f 0 = f := by
  funext i
  unfold silTo
  rw [if_neg (by omega)]
theorem sil_at (f : Nat → Int) (k : Nat) : silTo f k (4 + k * 40 + 1) = f (4 + k * 40 + 1) := by
  unfold silTo
  rw [if_neg (by omega)]
theorem sil_next (f : Nat → Int) (k : Nat) : up (silTo f k) (4 + k * 40 + 1) (f (4 + k * 40 + 1) % 128) = silTo f (k + 1) := by
  funext i
  unfold up silTo
  by_cases h : i = 4 + k * 40 + 1
  · rw [if_pos h, if_pos (by omega), h]
  · rw [if_neg h]
    by_cases h2 : 4 ≤ i ∧ (i - 4) / 40 < k ∧ (i - 4) % 40 = 1
    · rw [if_pos h2, if_pos (by omega)]
    · rw [if_neg h2, if_neg (by omega)]
theorem sil_so (f : Nat → Int) (k : Nat) (hk : k < 6) : soOf (silTo f 6) k = false := by
  unfold soOf ch silTo
  rw [if_pos (by omega)]
  simp
  omega
theorem still_on {f : Nat → Int} {k : Nat} (h : soOf f k = false) : onK f k = f := by
  unfold onK onP goOf
  rw [h]
  simp
theorem still_step {f : Nat → Int} (h : ∀ k, k < 6 → soOf f k = false) : stepF f = f := by
  unfold stepF
  rw [still_on (h 1 (by decide)), still_on (h 0 (by decide)), still_on (h 2 (by decide)), still_on (h 3 (by decide)), still_on (h 4 (by decide)), still_on (h 5 (by decide))]
theorem still_it {f : Nat → Int} (h : ∀ k, k < 6 → soOf f k = false) : ∀ n, itF f n = f
  | 0 => rfl
  | n + 1 => by
    show stepF (itF f n) = f
    rw [still_it h n, still_step h]
theorem still_left {f : Nat → Int} (h : ∀ k, k < 6 → soOf f k = false) : leftOf f = 0 := by
  have e : ∀ k, k < 6 → leftK f k = 0 := fun k hk => by unfold leftK heOf; rw [h k hk]; simp
  unfold leftOf
  simp only [sumTo, e 0 (by decide), e 1 (by decide), e 2 (by decide), e 3 (by decide), e 4 (by decide), e 5 (by decide)]
  rfl
theorem still_right {f : Nat → Int} (h : ∀ k, k < 6 → soOf f k = false) : rightOf f = 0 := by
  have e : ∀ k, k < 6 → rightK f k = 0 := fun k hk => by unfold rightK heOf; rw [h k hk]; simp
  unfold rightOf
  simp only [sumTo, e 0 (by decide), e 1 (by decide), e 2 (by decide), e 3 (by decide), e 4 (by decide), e 5 (by decide)]
  rfl
theorem still_smp {f : Nat → Int} (h : ∀ k, k < 6 → soOf f k = false) (j : Nat) : smp f j = 0 := by
  unfold smp
  rw [still_it h]
  split
  · exact still_left h
  · exact still_right h
set_option maxHeartbeats 4000000 in
theorem psgSilent_walk (f : Nat → Int) (n : Int) (w : World) (hf : ∀ j, j < 244 → (Lit.int .i64 (f j)).wf = true) (w1 : (Lit.int .i64 n).wf = true) (hL : HasLevels w) : Calls Tryd.prog 6 #[.agg (rowF (iv f) 244), .int .i64 n] w fun e w' => e = .returned (.bool true) ∧ Below w.heap.size w w' := by
  obtain ⟨N, hN⟩ : ∃ N : Nat, bits .and .i64 n 31 = (N : Int) - 1 ∧ 1 ≤ N ∧ N ≤ 32 := ⟨(n % 32).toNat + 1, by rw [and_31]; omega, by omega, by omega⟩
  obtain ⟨ha, a1, a2⟩ := hN
  have e1 : 1 + ((N : Int) - 1) = N := by omega
  have HL := hide hL
  have P0 : Hid (HasF 27 (w.alloc (.cells (rowF (iv f) 244) 27)) w.heap.size 244 (iv (silTo f 0))) := hide (by rw [sil_0]; exact hasF_new _ _ _ _)
  have B0 : Hid (Below w.heap.size w (w.alloc (.cells (rowF (iv f) 244) 27))) := hide ((Below.refl _ w).alloc (Nat.le_refl _) _)
  clear hf w1 hL
  set_option maxRecDepth 20000 in
  go_enter Tryd.func6, Tryd.ntmps6
  set_option maxRecDepth 20000 in
  go_wp2_with fail
  refine under_name fun wa hwa => ?_
  rw [← hwa] at P0 B0
  clear hwa
  obtain ⟨s0, hs0⟩ : ∃ s, w.heap.size = s := ⟨_, rfl⟩
  rw [hs0] at P0 B0 ⊢
  have S0 : Hid (s0 ≤ w.heap.size) := hide (by omega)
  go_loopw [5] (fun v w' => ∃ k : Nat, k ≤ 6 ∧ v = .int .i64 k ∧ HasF 27 w' s0 244 (iv (silTo f k)) ∧ Below s0 w w') (fun v _ => 6 - (intOf v).toNat)
  case atStart => exact ⟨0, by decide, rfl, P0.out, B0.out⟩
  case round =>
    clear P0 B0
    obtain ⟨k, hk, rfl, h1, b1⟩ := hrel
    have P1 := hide h1
    have B1 := hide b1
    by_cases hlt : k < 6
    · have c := h1.int (4 + k * 40 + 1) (by omega)
      have z := h1.frozen (4 + k * 40 + 1)
      rw [sil_at] at c
      have mk := mask_127 (f (4 + k * 40 + 1))
      have HE : Hid (HasF 27 (wr.setCell ⟨s0, 4 + k * 40 + 1, none⟩ (.int .i64 (f (4 + k * 40 + 1) % 128))) s0 244 (iv (silTo f (k + 1)))) := hide (by rw [← sil_next]; exact h1.up _ _)
      clear h1 b1
      generalize f (4 + k * 40 + 1) = y at *
      set_option maxRecDepth 20000 in
      go_wp2_with fail
      exact ⟨⟨k + 1, by omega, by go_num, HE.out, Below.setCell (p := ⟨s0, 4 + k * 40 + 1, none⟩) B1.out (Nat.le_refl _) _⟩, by simp [intOf]; omega⟩
    · obtain rfl : k = 6 := by omega
      clear h1 b1
      have SO := hide (fun k hk => sil_so f k hk)
      obtain ⟨F, hF⟩ : ∃ F, silTo f 6 = F := ⟨_, rfl⟩
      rw [hF] at P1 SO
      clear hF
      have ZI := hide (info_P (iv F))
      have ZO := hide (rowF_one F 244)
      have ZS : Hid ((rowF (iv fun _ => 0) 244).size = (rowF (iv F) 244).size) := hide (by rw [rowF_size, rowF_size])
      have EE := psg_eql F
      have KV := hide (fun w => valid_any F w)
      by_cases ok : okP F
      · have KS := hide (fun (u : World) (hu : HasLevels u) => samples_any F N a1 (by omega) ok u hu)
        rw [(vB_iff F).1 ok] at KV
        rw [still_it SO.out] at KS
        have KZ := hide (fun j => still_smp SO.out j)
        have en := two_neq 0 0
        rw [HasF] at P1
        generalize rowF (iv F) 244 = R at *
        set_option maxRecDepth 20000 in
        go_wp2_with (first | (refine wpList_load_row rfl 27 (.tmp 2) rfl s0 rfl _ _ _ _ P1.out Tryd.underlying27 rfl ZI.out ?_))
        refine (KS.out _ (HL.out.next (by rw [hs0]; exact B1.out))).mono ?_
        rintro e w1 ⟨g, rfl, hg, c1⟩
        have Q1 := hide ((c1.block _ (lt_of_block P1.out)).trans P1.out)
        have B2 := hide (bnext2 B1.out S0.out c1)
        have G1 := hide hg
        clear c1 P1 B1 hg
        set_option maxRecDepth 20000 in
        go_wp2_with (first
          | (refine wpList_alloced rfl 27 rfl (rowF (iv fun _ => 0) 244) zero_P ?_)
          | (refine wpList_store_row rfl 27 (.tmp 7) (.tmp 33) rfl w1.heap.size R (by simp [Act.eval]) rfl 27 _ (hasF_new _ _ _ _) ZI.out ZS.out ZO.out ?_; refine under_list fun w2 hh => ?_; have M2 : Hid (w2.heap[w1.heap.size]? = some (.cells R 27 (0, 0))) := hide (by rw [hh]; exact setRow_heap _ _ _ _ _ _ (hasF_new _ _ _ _)); have W2 : Hid (Below w1.heap.size w1 w2) := hide (by rw [hh]; exact below_setRow ((Below.refl _ _).alloc (Nat.le_refl _) _) (Nat.le_refl _) _); have P2 := hide ((W2.out.block _ (lt_of_block Q1.out)).trans Q1.out); clear hh)
          | (refine wpList_load_row rfl 27 (.tmp 2) rfl s0 rfl _ _ _ _ P2.out Tryd.underlying27 rfl ZI.out ?_))
        refine (KV.out _).mono ?_
        rintro e w3 ⟨rfl, c3⟩
        have W3 := bnext W2.out c3
        have B3 := hide (bnext2 B2.out S0.out W3)
        have G3 := hide (G1.out.next W3)
        have M3 := hide ((c3.block _ (lt_of_block M2.out)).trans M2.out)
        have P3 := hide ((c3.block _ (lt_of_block P2.out)).trans P2.out)
        clear c3 W3 W2 M2 P2 Q1 B2 G1
        set_option maxRecDepth 20000 in
        go_wp2_with fail
        go_loopw [10] (fun v w' => (∃ i : Nat, i ≤ N ∧ v = .int .i64 i) ∧ w' = w3) (fun v _ => N - (intOf v).toNat)
        case atStart => exact ⟨⟨0, Nat.zero_le _, rfl⟩, rfl⟩
        case round =>
          obtain ⟨⟨i, hi, rfl⟩, hw⟩ := hrel
          subst hw
          by_cases hlt2 : i < N
          · have c0 := G3.out.int (i * 2) (by omega)
            have c1 := G3.out.int (i * 2 + 1) (by omega)
            rw [KZ.out] at c0 c1
            set_option maxRecDepth 20000 in
            go_wp2_with fail
            exact ⟨⟨⟨i + 1, by omega, by go_num⟩, trivial⟩, by simp [intOf]; omega⟩
          · obtain rfl : i = N := by omega
            set_option maxRecDepth 20000 in
            go_wp2_with (first
              | (refine wpList_load_want rfl 27 (.tmp 7) rfl w1.heap.size rfl _ _ _ _ M3.out Tryd.underlying27 rfl ZI.out ?_)
              | (refine wpList_load_want rfl 27 (.tmp 2) rfl s0 rfl _ _ _ _ P3.out Tryd.underlying27 rfl ZI.out ?_))
            go_ret
            exact ⟨rfl, by rw [hs0]; exact B3.out⟩
      · have hv := vB_no ok
        have KN := hide (fun m w => samples_no F m (.inl hv) w)
        rw [hv] at KV
        have KF := hide (fun (u : World) (hu : HasLevels u) => samples_any freshF 1 (by decide) (by decide) fresh_ok u hu)
        have IF := hide (info_P (iv (itF freshF 1)))
        have FO := hide (rowF_one (itF freshF 1) 244)
        have FS : Hid ((rowF (iv fun _ => 0) 244).size = (rowF (iv (itF freshF 1)) 244).size) := hide (by rw [rowF_size, rowF_size])
        clear ok hv SO
        rw [HasF] at P1
        generalize rowF (iv F) 244 = R at *
        generalize rowF (iv (itF freshF 1)) 244 = RF at *
        set_option maxRecDepth 20000 in
        go_wp2_with (first | (refine wpList_load_row rfl 27 (.tmp 2) rfl s0 rfl _ _ _ _ P1.out Tryd.underlying27 rfl ZI.out ?_))
        refine (KN.out _ _).mono ?_
        rintro e w1 ⟨rfl, c1⟩
        have Q1 := hide ((c1.block _ (lt_of_block P1.out)).trans P1.out)
        have B2 := hide (bnext2 B1.out S0.out c1)
        clear c1 P1 B1
        set_option maxRecDepth 20000 in
        go_wp2_with (first
          | (refine wpList_alloced rfl 27 rfl (rowF (iv fun _ => 0) 244) zero_P ?_)
          | (refine wpList_store_row rfl 27 (.tmp 7) (.tmp 33) rfl w1.heap.size R (by simp [Act.eval]) rfl 27 _ (hasF_new _ _ _ _) ZI.out ZS.out ZO.out ?_; refine under_list fun w2 hh => ?_; have M2 : Hid (w2.heap[w1.heap.size]? = some (.cells R 27 (0, 0))) := hide (by rw [hh]; exact setRow_heap _ _ _ _ _ _ (hasF_new _ _ _ _)); have W2 : Hid (Below w1.heap.size w1 w2) := hide (by rw [hh]; exact below_setRow ((Below.refl _ _).alloc (Nat.le_refl _) _) (Nat.le_refl _) _); have P2 := hide ((W2.out.block _ (lt_of_block Q1.out)).trans Q1.out); clear hh)
          | (refine wpList_load_row rfl 27 (.tmp 2) rfl s0 rfl _ _ _ _ P2.out Tryd.underlying27 rfl ZI.out ?_)
          | (go_at_call 13; refine (KV.out _).mono ?_; rintro e w3 ⟨rfl, c3⟩; have W3 := bnext W2.out c3; have B3 := hide (bnext2 B2.out S0.out W3); have M3 := hide ((c3.block _ (lt_of_block M2.out)).trans M2.out); have P3 := hide ((c3.block _ (lt_of_block P2.out)).trans P2.out); clear c3 W3 W2 M2 P2 Q1 B2)
          | (go_at_call 11; refine (fresh_any _).mono ?_; rintro e w4 ⟨rfl, c4⟩; have B4 := hide (bnext2 B3.out S0.out c4); have M4 := hide ((c4.block _ (lt_of_block M3.out)).trans M3.out); have P4 := hide ((c4.block _ (lt_of_block P3.out)).trans P3.out); clear c4 M3 P3 B3))
        refine (KF.out _ (HL.out.next (by rw [hs0]; exact B4.out))).mono ?_
        rintro e w5 ⟨g, rfl, hg, c5⟩
        have B5 := hide (bnext2 B4.out S0.out c5)
        have M5 := hide ((c5.block _ (lt_of_block M4.out)).trans M4.out)
        have P5 := hide ((c5.block _ (lt_of_block P4.out)).trans P4.out)
        clear c5 M4 P4 B4 hg
        set_option maxRecDepth 20000 in
        go_wp2_with (first
          | (refine wpList_alloced rfl 27 rfl (rowF (iv fun _ => 0) 244) zero_P ?_)
          | (refine wpList_store_row rfl 27 (.tmp 9) (.tmp 41) rfl w5.heap.size RF (by simp [Act.eval]) rfl 27 _ (hasF_new _ _ _ _) IF.out FS.out FO.out ?_; refine under_list fun w6 hh => ?_; have W6 : Below w5.heap.size w5 w6 := (by rw [hh]; exact below_setRow ((Below.refl _ _).alloc (Nat.le_refl _) _) (Nat.le_refl _) _); have B6 := hide (bnext2 B5.out S0.out W6); have M6 := hide ((W6.block _ (lt_of_block M5.out)).trans M5.out); have P6 := hide ((W6.block _ (lt_of_block P5.out)).trans P5.out); clear hh W6)
          | (refine wpList_load_want rfl 27 (.tmp 7) rfl w1.heap.size rfl _ _ _ _ M6.out Tryd.underlying27 rfl ZI.out ?_)
          | (refine wpList_load_want rfl 27 (.tmp 2) rfl s0 rfl _ _ _ _ P6.out Tryd.underlying27 rfl ZI.out ?_))
        go_ret
        exact ⟨rfl, by rw [hs0]; exact B6.out⟩

set_option maxRecDepth 100000 in
theorem psgSilent_lifted (os : Os) (started : os.Started) (H : Type) (enc : TypeId × Value → H) :
    ReturnsInHanded {} Tryd.checked os 6 .any (fun w args => (Rows.psgSilentSpec.pre enc Tryd.prog Tryd.f6 [] false w args ∧ laidMetH Tryd.prog laidLev w) ∧ sizedMet enc Tryd.prog Tryd.f6 (OpenSpec.ofChange Rows.psgSilentSpec) false w args)
      (Rows.psgSilentSpec.post enc Tryd.prog Tryd.f6 false true false false) := by
  refine returnsInHanded_of_change_and (C := Tryd.checked) (X := fun w _ => laidMetH Tryd.prog laidLev w) (fun _ _ _ hh h => h.of_heap hh) own started (by kernel_rfl) Tryd.func6
    (ChangeSpec.witness_at (enc := enc) (C := Tryd.checked) (os := os) (X := fun w _ => laidMetH Tryd.prog laidLev w) false (laidWorld os) #[.agg #[.int .i64 0, .int .i64 0, .int .i64 0, .int .i64 0, .int .i64 0, .int .i64 0, .int .i64 0, .int .i64 0, .int .i64 0, .int .i64 0, .int .i64 0, .int .i64 0, .int .i64 0, .int .i64 0, .int .i64 0, .int .i64 0, .int .i64 0, .int .i64 0, .int .i64 0, .int .i64 0, .int .i64 0, .int .i64 0, .int .i64 0, .int .i64 0, .int .i64 0, .int .i64 0, .int .i64 0, .int .i64 0, .int .i64 0, .int .i64 0, .int .i64 0, .int .i64 0, .int .i64 0, .int .i64 0, .int .i64 0, .int .i64 0, .int .i64 0, .int .i64 0, .int .i64 0, .int .i64 0, .int .i64 0, .int .i64 0, .int .i64 0, .int .i64 0, .int .i64 0, .int .i64 0, .int .i64 0, .int .i64 0, .int .i64 0, .int .i64 0, .int .i64 0, .int .i64 0, .int .i64 0, .int .i64 0, .int .i64 0, .int .i64 0, .int .i64 0, .int .i64 0, .int .i64 0, .int .i64 0, .int .i64 0, .int .i64 0, .int .i64 0, .int .i64 0, .int .i64 0, .int .i64 0, .int .i64 0, .int .i64 0, .int .i64 0, .int .i64 0, .int .i64 0, .int .i64 0, .int .i64 0, .int .i64 0, .int .i64 0, .int .i64 0, .int .i64 0, .int .i64 0, .int .i64 0, .int .i64 0, .int .i64 0, .int .i64 0, .int .i64 0, .int .i64 0, .int .i64 0, .int .i64 0, .int .i64 0, .int .i64 0, .int .i64 0, .int .i64 0, .int .i64 0, .int .i64 0, .int .i64 0, .int .i64 0, .int .i64 0, .int .i64 0, .int .i64 0, .int .i64 0, .int .i64 0, .int .i64 0, .int .i64 0, .int .i64 0, .int .i64 0, .int .i64 0, .int .i64 0, .int .i64 0, .int .i64 0, .int .i64 0, .int .i64 0, .int .i64 0, .int .i64 0, .int .i64 0, .int .i64 0, .int .i64 0, .int .i64 0, .int .i64 0, .int .i64 0, .int .i64 0, .int .i64 0, .int .i64 0, .int .i64 0, .int .i64 0, .int .i64 0, .int .i64 0, .int .i64 0, .int .i64 0, .int .i64 0, .int .i64 0, .int .i64 0, .int .i64 0, .int .i64 0, .int .i64 0, .int .i64 0, .int .i64 0, .int .i64 0, .int .i64 0, .int .i64 0, .int .i64 0, .int .i64 0, .int .i64 0, .int .i64 0, .int .i64 0, .int .i64 0, .int .i64 0, .int .i64 0, .int .i64 0, .int .i64 0, .int .i64 0, .int .i64 0, .int .i64 0, .int .i64 0, .int .i64 0, .int .i64 0, .int .i64 0, .int .i64 0, .int .i64 0, .int .i64 0, .int .i64 0, .int .i64 0, .int .i64 0, .int .i64 0, .int .i64 0, .int .i64 0, .int .i64 0, .int .i64 0, .int .i64 0, .int .i64 0, .int .i64 0, .int .i64 0, .int .i64 0, .int .i64 0, .int .i64 0, .int .i64 0, .int .i64 0, .int .i64 0, .int .i64 0, .int .i64 0, .int .i64 0, .int .i64 0, .int .i64 0, .int .i64 0, .int .i64 0, .int .i64 0, .int .i64 0, .int .i64 0, .int .i64 0, .int .i64 0, .int .i64 0, .int .i64 0, .int .i64 0, .int .i64 0, .int .i64 0, .int .i64 0, .int .i64 0, .int .i64 0, .int .i64 0, .int .i64 0, .int .i64 0, .int .i64 0, .int .i64 0, .int .i64 0, .int .i64 0, .int .i64 0, .int .i64 0, .int .i64 0, .int .i64 0, .int .i64 0, .int .i64 0, .int .i64 0, .int .i64 0, .int .i64 0, .int .i64 0, .int .i64 0, .int .i64 0, .int .i64 0, .int .i64 0, .int .i64 0, .int .i64 0, .int .i64 0, .int .i64 0, .int .i64 0, .int .i64 0, .int .i64 0, .int .i64 0, .int .i64 0, .int .i64 0, .int .i64 0, .int .i64 0, .int .i64 0, .int .i64 0, .int .i64 0, .int .i64 0, .int .i64 0, .int .i64 0, .int .i64 0, .int .i64 0, .int .i64 0, .int .i64 0, .int .i64 0, .int .i64 0, .int .i64 0, .int .i64 0, .int .i64 0, .int .i64 0], .int .i64 0] 8 rfl (by kernel_rfl) (by kernel_rfl) (by kernel_rfl) (by kernel_rfl) (by kernel_rfl) (laidWorld_lev os _)) ?_
  intro W base args ds gs before hval0 hW _ _ hL _
  have hval : ∀ (j : Nat) t v, Tryd.f6.params[j]? = some t → args[j]? = some v → Value.okWide Tryd.prog W .any base t v := hval0
  have hW' := hW
  obtain ⟨p, q, hA0, hV, rfl, hfz, hnd⟩ := hW
  have hA : DataW.TrodAll enc Tryd.prog W 0 (fun _ => true) true Tryd.f6.params.toList args.toList ds p := hA0
  rw [Tryd.params6] at hA hval
  obtain ⟨v0, vs0, d0, ds0, p0, q0, hargs, rfl, rfl, h0, r0⟩ := trodAll_cons hA
  obtain ⟨v1, vs1, d1, ds1, p1, q1, rfl, rfl, rfl, h1, r1⟩ := trodAll_cons r0
  obtain ⟨rfl, rfl, rfl⟩ := trodAll_nil r1
  obtain rfl : args = #[v0, v1] := by cases args; simp_all
  obtain ⟨rfl, rfl⟩ := trodVars_none hV
  have k0 := h0
  have lt0 : ∀ x ∈ p0, x.block < W.heap.size := by obtain ⟨m, hm⟩ := k0; exact DataW.trod_lt m _ _ _ hm
  obtain ⟨f0, rfl, g0⟩ := open_flat Tryd.underlying27 (by kernel_rfl) psg_ints (hval 0 27 v0 rfl rfl) h0
  obtain ⟨a1, rfl, rfl, rfl, w1⟩ := open_int Tryd.underlying3 (hval 1 3 v1 rfl rfl) h1
  clear hA0 hval0
  refine (psgSilent_walk f0 a1 W g0 w1 (laid_lev hL)).mono fun e W' ⟨he, bel⟩ => ?_
  subst he
  exact ⟨_, rfl, _, _, _, [], _, [], hW', trodAll_mk1 (shut_bool Tryd.underlying4 _), (trodAll_cons_mk (Below.trod laidOut (by kernel_rfl) (of_decide_eq_true (by kernel_rfl)) k0 bel lt0) (trodAll_cons_mk (shut_int Tryd.underlying3 w1) trodAll_mk0)), rfl, bel.frame _, fun h => by cases h⟩

theorem psgSilent_over : Rows.psgSilentRow.holds Tryd.pinned (OpenSpec.ofChange Rows.psgSilentSpec) :=
  OpenClaim.holds_of_wide 6 Tryd.f6 rfl rfl rfl rfl rfl rfl rfl ⟨rfl, rfl, rfl, rfl, rfl⟩ rfl rfl rfl rfl rfl (by kernel_rfl) Tryd.func6 (by kernel_rfl)
    (of_decide_eq_true (by kernel_rfl)) (by unfold Func.isWrapper; first | (rw [if_pos (by decide +kernel)]; kernel_rfl) | (rw [if_neg (by decide +kernel)]; exact ⟨rfl, rfl⟩))
    (fun os started H enc _ => psgSilent_lifted os started H enc)

theorem psgSilent_row : Rows.PsgSilentSaid := psgSilent_over

theorem psgSilent_holds : Rows.PsgSilentCardSaid :=
  Claim7.holds_tied_plain_at .later [] [.data] true (true, "44e93f02091fb777b829c2094e8ff427b31d8bf2f2d5906b7fee23afb9181329") false
    psgSilent_row (fun _ h => by cases h) (by kernel_rfl) (fun _ h => by cases h) psgSilent_row_tie rfl ⟨rfl, rfl⟩ (by kernel_rfl) rfl
    (fun f fn hf hfn => by
      obtain rfl : f = 6 := Option.some.inj ((show Tryd.prog.funcNamed "phosphor/phosphorlaw22.PsgSilent" = some 6 by kernel_rfl).symm.trans hf) |>.symm
      obtain rfl : fn = Tryd.f6 := (Option.some.inj (Tryd.func6.symm.trans hfn)).symm
      exact ⟨by kernel_rfl, fun j t ht => by
        rw [Tryd.params6] at ht
        rcases j with _ | _ | j
        · obtain rfl : t = 27 := by simpa using ht.symm
          exact (show Tryd.prog.wantsStandIn 27 = false by kernel_rfl)
        · obtain rfl : t = 3 := by simpa using ht.symm
          exact (show Tryd.prog.wantsStandIn 3 = false by kernel_rfl)
        · simp at ht⟩)
    (by kernel_rfl)
#print axioms psgSilent_holds
end Go.Proofs.YtcpilhbinkamiaaDoor
