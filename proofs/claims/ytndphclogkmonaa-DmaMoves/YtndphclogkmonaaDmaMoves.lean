/- DmaMoves, at the landed commit: whatever slice of integers, integer and array of four integers come in, the call returns true: any words that are moved in any way are where the document says, and its ends are told. No condition. -/
import Derived.Test.YtndphclogkmonaaBoth16
import Derived.Test.YtndphclogkmonaaRowkit
import Derived.Test.YtndphclogkmonaaArrays
import Derived.Test.YtndphclogkmonaaTwo
namespace Go.Proofs.Ytndphclogkmonaa
open Go.ChangeShapes Go.WideShapes Go.ChangeAt Go.RowKit
set_option linter.unusedVariables false

theorem three_in {w : World} {g : Nat} {x y z : Int} (h : w.heap[g]? = some (.cells #[.int .i64 x, .int .i64 y, .int .i64 z] 3 (0, 0))) (hx : 0 ≤ x ∧ x < 65536) (hy : 0 ≤ y ∧ y < 65536) (hz : 0 ≤ z ∧ z < 65536) : ∀ j, j < 3 → ∃ v, 0 ≤ v ∧ v < 65536 ∧ w.cell? ⟨g, j, none⟩ = some (.int .i64 v) := by
  intro j hj
  have hc := cell_of_row w g j _ _ _ h
  rcases (show j = 0 ∨ j = 1 ∨ j = 2 by omega) with rfl | rfl | rfl
  · exact ⟨x, hx.1, hx.2, hc.trans rfl⟩
  · exact ⟨y, hy.1, hy.2, hc.trans rfl⟩
  · exact ⟨z, hz.1, hz.2, hc.trans rfl⟩
set_option maxHeartbeats 2000000 in
theorem moves_short (a1 x0 x1 x2 x3 A P Q n S T X Y : Int) (N : Nat) (s : Option Addr) (len cap : Nat) (zs : List Int) (w : World) (hr : IsRow .i64 w s len cap zs) (e1 : bits .and .i64 a1 65535 = A) (eA : bits .and .i64 A 65535 = A) (eP : bits .and .i64 x0 65535 = P) (eQ : bits .and .i64 x1 65535 = Q) (en : bits .and .i64 x2 63 = n)
    (hA0 : 0 ≤ A) (hA1 : A < 65536) (hn0 : 0 ≤ n) (hn1 : n < 64) (hP : Hid (x0 % 65536 = P)) (hQ : Hid (x1 % 65536 = Q)) (hS : Hid (farOf x3 2 = S)) (hT : Hid (farOf x3 3 = T)) (hN : Hid (n % 65536 + 1 = (N : Int))) (hX : Hid (placeAt P S N = X)) (hY : Hid (placeAt Q T N = Y)) (hP0 : 0 ≤ P) (hP1 : P < 65536) (hQ0 : 0 ≤ Q) (hQ1 : Q < 65536) (hM : len ≤ 60) : Calls Try.prog 3 #[.slice s len cap, .int .i64 a1, .agg #[.int .i64 x0, .int .i64 x1, .int .i64 x2, .int .i64 x3]] w fun e w' => e = .returned (.bool true) ∧ Below w.heap.size w w' := by
  have HR := hide hr
  clear hr
  go_enter Try.func3, Try.ntmps3
  go_wp2_with fail
  refine under_calls fun wa hwa => ?_
  have na : Below w.heap.size w wa := by rw [hwa]; exact (Below.refl _ w).alloc (Nat.le_refl _) _
  have h4 : Has4 wa w.heap.size x0 x1 x2 x3 := by rw [hwa]; exact heap_alloc_new _ _
  have sa : wa.heap.size = w.heap.size + 1 := by rw [hwa]; simp
  clear hwa
  refine (new_any _).mono ?_
  rintro e w1 ⟨rfl, h1, b1⟩
  have H1 := hide (show HasM w1 wa.heap.size true (fun _ => 0) 0 0 1 0 0 ∧ Below wa.heap.size wa w1 from ⟨h1, b1⟩)
  have NA := hide na
  have H4 := hide h4
  have SA := hide sa
  clear h1 b1 na h4 sa
  go_wp2_with fail
  refine (rnew_any _).mono ?_
  rintro e w2 ⟨rfl, h2, b2⟩
  have K2 := hide (show Both w w.heap.size wa.heap.size (w1.heap.size + 1) w1.heap.size x0 x1 x2 x3 (pkTo A zs 0) (pkTo A zs 0) w2 by
    have hs := SA.out
    have hl := H1.out.1.lt
    have hb := H1.out.2
    have hz := hb.size
    exact ⟨⟨by omega, by omega, by omega, by omega, by omega, by omega, by omega, by omega, by omega⟩, H1.out.1.next b2, h2, ((bnext hb b2).block w.heap.size (by omega)).trans H4.out, bnext NA.out (bnext hb b2)⟩)
  clear h2 b2 H1 NA H4 SA
  generalize wa.heap.size = g at *
  generalize w1.heap.size + 1 = c at *
  generalize w1.heap.size = d at *
  obtain ⟨b, hb⟩ : ∃ b, w.heap.size = b := ⟨_, rfl⟩
  rw [hb] at K2 ⊢
  clear hb
  go_wp2_with fail
  go_loopw [9] (fun si wr => ∃ (k : Nat), k ≤ len ∧ si = .int .i64 (k : Int) ∧ Both w b g c d x0 x1 x2 x3 (pkTo A zs k) (pkTo A zs k) wr) (fun si _ => len - (intOf si).toNat)
  case atStart => exact ⟨0, Nat.zero_le _, rfl, K2.out⟩
  case round =>
    obtain ⟨k, hk, rfl, hv⟩ := hrel
    have VK := hide hv
    clear hv K2
    by_cases hlt : k < len
    · obtain ⟨bb, off, rfl, hbb, _, _, hc⟩ := HR.out.cells (by omega)
      obtain ⟨z, hz⟩ : ∃ z, z = zs.getD k 0 := ⟨_, rfl⟩
      have HC := hide ((hc k (by omega)).1)
      rw [← hz] at HC
      have hcell := (VK.out.below.cell (p := ⟨bb, off + k, none⟩) hbb).trans HC.out
      have HF := hide (show pokeAt (pkTo A zs k) (A + k) z = pkTo A zs (k + 1) by rw [hz]; rfl)
      have l1 : k < len := by omega
      have l2 : k < 60 := by omega
      clear hz hc
      set_option maxRecDepth 20000 in
      go_wp2_with fail
      refine (VK.out.poke (A + k) z _ HF.out).mono ?_
      rintro e w4 ⟨rfl, k4⟩
      have K4 := hide k4
      clear k4 VK hcell
      have hcell := (K4.out.below.cell (p := ⟨bb, off + k, none⟩) hbb).trans HC.out
      set_option maxRecDepth 20000 in
      go_wp2_with fail
      refine (K4.out.rpoke (A + k) z _ HF.out).mono ?_
      rintro e w5 ⟨rfl, k5⟩
      have K5 := hide k5
      clear k5 K4 hcell
      set_option maxRecDepth 20000 in
      go_wp2_with fail
      set_option maxRecDepth 20000 in
      go_roundw
      case rel => exact ⟨k + 1, by omega, by go_num, K5.out⟩
      case measure => simp [intOf]; omega
    · obtain rfl : k = len := by omega
      clear hlt hk HR
      obtain ⟨f0, hf0⟩ : ∃ f0, f0 = pkTo A zs k := ⟨_, rfl⟩
      rw [← hf0] at VK
      clear hf0
      obtain ⟨F, hF⟩ : ∃ F, mvTo f0 P S Q T N = F := ⟨_, rfl⟩
      have HF := hide hF
      clear hF
      have c0 := VK.out.n0
      have c1 := VK.out.n1
      have c2 := VK.out.n2
      have c3 := VK.out.n3
      go_wp2_with fail
      refine (VK.out.move x0 x1 n x3 P S Q T X Y N F hP.out hQ.out hS.out hT.out hN.out hX.out hY.out HF.out).mono ?_
      rintro e w3 ⟨rfl, k3⟩
      have K3 := hide k3
      clear k3 c0 c1 c2 c3 VK
      have c0 := K3.out.n0
      have c1 := K3.out.n1
      have c3 := K3.out.n3
      have hb3 : b < w3.heap.size := lt_of_block K3.out.2.2.2.1
      go_wp2_with fail
      refine under_calls fun w4 hw4 => ?_
      have n4 : Below w3.heap.size w3 w4 := by rw [hw4]; exact (Below.refl _ w3).alloc (Nat.le_refl _) _
      have E4 := hide (show HasE w4 w3.heap.size X Y by rw [hw4]; exact heap_alloc_new _ _)
      have K4 := hide (K3.out.next n4)
      have GE := hide (show w3.heap.size ≠ c ∧ w3.heap.size ≠ d by have := K3.out.lt_c; omega)
      clear hw4 n4 c0 c1 c3 hb3 K3
      obtain ⟨g1, hg1⟩ : ∃ g1, w3.heap.size = g1 := ⟨_, rfl⟩
      rw [hg1] at E4 GE ⊢
      clear hg1
      refine (K4.out.rmove x0 x1 n x3 P S Q T X Y N F hP.out hQ.out hS.out hT.out hN.out hX.out hY.out HF.out).mono ?_
      rintro e w5 ⟨rfl, k5, o5⟩
      have K5 := hide k5
      have E5 := hide (show HasE w5 g1 X Y from o5.obj E4.out GE.out.1 GE.out.2)
      clear k5 o5 K4 E4 GE HF hS hT hN hX hY
      have NE := neqE X Y
      go_wp2_with (first | (refine wpList_load_row rfl 29 (.tmp 11) rfl g1 rfl _ _ _ _ E5.out Try.underlying29 rfl (by kernel_rfl) ?_))
      clear E5 NE
      go_loopw [14] (fun si wr => ∃ (i : Nat), i ≤ 210 ∧ si = .int .i64 ((i : Int) - 70) ∧ Both w b g c d x0 x1 x2 x3 F F wr) (fun si _ => 210 - (intOf si + 70).toNat)
      case atStart => exact ⟨0, Nat.zero_le _, rfl, K5.out⟩
      case round =>
        obtain ⟨i, hi, rfl, hv⟩ := hrel
        have VI := hide hv
        clear hv K5
        have c0 := VI.out.n0
        have c1 := VI.out.n1
        by_cases hit : i < 210
        · set_option maxRecDepth 20000 in
          go_wp2_with fail
          refine under_name fun w6 hw6 => ?_
          have n6 : Below wr.heap.size wr w6 := by rw [hw6]; exact (Below.refl _ wr).alloc (Nat.le_refl _) _
          have R6 := hide (three_in (show w6.heap[wr.heap.size]? = some (.cells #[.int .i64 A, .int .i64 P, .int .i64 Q] 3 (0, 0)) by rw [hw6]; exact heap_alloc_new _ _) ⟨hA0, hA1⟩ ⟨hP0, hP1⟩ ⟨hQ0, hQ1⟩)
          have K6 := hide (VI.out.next n6)
          clear hw6 n6 c0 c1 VI
          obtain ⟨g3, hg3⟩ : ∃ g3, wr.heap.size = g3 := ⟨_, rfl⟩
          rw [hg3] at R6 ⊢
          clear hg3
          have hd : decide ((i : Int) - 70 < 140) = true := by rw [decide_eq_true_eq]; omega
          try simp only [hd]
          clear hd
          go_loop [95] (fun sj => ∃ (j : Nat), j ≤ 3 ∧ sj = .int .i64 (j : Int)) (fun sj => 3 - (intOf sj).toNat)
          case atStart => exact ⟨0, Nat.zero_le _, rfl⟩
          case round =>
            obtain ⟨j, hj, rfl⟩ := hrel
            by_cases hjt : j < 3
            · obtain ⟨z, hz0, hz1, hcell⟩ := R6.out j hjt
              obtain ⟨v, hv⟩ : ∃ v, wordAt F (z + ((i : Int) - 70)) = v := ⟨_, rfl⟩
              have HV := hide hv
              clear hv
              set_option maxRecDepth 20000 in
              go_wp2_with fail
              refine (K6.out.word _ v HV.out).mono ?_
              rintro e w7 ⟨rfl, hw⟩
              subst w7
              set_option maxRecDepth 20000 in
              go_wp2_with fail
              refine (K6.out.rword _ v HV.out).mono ?_
              rintro e w7 ⟨rfl, hw⟩
              subst w7
              set_option maxRecDepth 20000 in
              go_wp2_with fail
              set_option maxRecDepth 20000 in
              go_round
              case rel => exact ⟨j + 1, by omega, by go_num⟩
              case measure => simp [intOf]; omega
            · obtain rfl : j = 3 := by omega
              set_option maxRecDepth 20000 in
              go_wp2_with fail
              set_option maxRecDepth 20000 in
              go_roundw
              case rel => exact ⟨i + 1, by omega, by go_num, K6.out⟩
              case measure => simp [intOf]; omega
        · obtain rfl : i = 210 := by omega
          have EQ := eqE 4 6
          set_option maxRecDepth 20000 in
          go_wp2_with fail
          refine (move_nil _ 5 5 0 4 5 (-1) 5 1 4 6 1 rfl rfl rfl rfl rfl rfl rfl).mono ?_
          rintro e w7 ⟨rfl, b7⟩
          have B7 := hide (bnext VI.out.below b7)
          clear b7
          go_wp2_with fail
          go_ret
          exact ⟨rfl, B7.out⟩
set_option maxHeartbeats 2000000 in
theorem moves_long (a1 x0 x1 x2 x3 A P Q n S T X Y : Int) (N : Nat) (s : Option Addr) (len cap : Nat) (zs : List Int) (w : World) (hr : IsRow .i64 w s len cap zs) (e1 : bits .and .i64 a1 65535 = A) (eA : bits .and .i64 A 65535 = A) (eP : bits .and .i64 x0 65535 = P) (eQ : bits .and .i64 x1 65535 = Q) (en : bits .and .i64 x2 63 = n)
    (hA0 : 0 ≤ A) (hA1 : A < 65536) (hn0 : 0 ≤ n) (hn1 : n < 64) (hP : Hid (x0 % 65536 = P)) (hQ : Hid (x1 % 65536 = Q)) (hS : Hid (farOf x3 2 = S)) (hT : Hid (farOf x3 3 = T)) (hN : Hid (n % 65536 + 1 = (N : Int))) (hX : Hid (placeAt P S N = X)) (hY : Hid (placeAt Q T N = Y)) (hP0 : 0 ≤ P) (hP1 : P < 65536) (hQ0 : 0 ≤ Q) (hQ1 : Q < 65536) (hM : 60 < len) : Calls Try.prog 3 #[.slice s len cap, .int .i64 a1, .agg #[.int .i64 x0, .int .i64 x1, .int .i64 x2, .int .i64 x3]] w fun e w' => e = .returned (.bool true) ∧ Below w.heap.size w w' := by
  have HR := hide hr
  clear hr
  go_enter Try.func3, Try.ntmps3
  go_wp2_with fail
  refine under_calls fun wa hwa => ?_
  have na : Below w.heap.size w wa := by rw [hwa]; exact (Below.refl _ w).alloc (Nat.le_refl _) _
  have h4 : Has4 wa w.heap.size x0 x1 x2 x3 := by rw [hwa]; exact heap_alloc_new _ _
  have sa : wa.heap.size = w.heap.size + 1 := by rw [hwa]; simp
  clear hwa
  refine (new_any _).mono ?_
  rintro e w1 ⟨rfl, h1, b1⟩
  have H1 := hide (show HasM w1 wa.heap.size true (fun _ => 0) 0 0 1 0 0 ∧ Below wa.heap.size wa w1 from ⟨h1, b1⟩)
  have NA := hide na
  have H4 := hide h4
  have SA := hide sa
  clear h1 b1 na h4 sa
  go_wp2_with fail
  refine (rnew_any _).mono ?_
  rintro e w2 ⟨rfl, h2, b2⟩
  have K2 := hide (show Both w w.heap.size wa.heap.size (w1.heap.size + 1) w1.heap.size x0 x1 x2 x3 (pkTo A zs 0) (pkTo A zs 0) w2 by
    have hs := SA.out
    have hl := H1.out.1.lt
    have hb := H1.out.2
    have hz := hb.size
    exact ⟨⟨by omega, by omega, by omega, by omega, by omega, by omega, by omega, by omega, by omega⟩, H1.out.1.next b2, h2, ((bnext hb b2).block w.heap.size (by omega)).trans H4.out, bnext NA.out (bnext hb b2)⟩)
  clear h2 b2 H1 NA H4 SA
  generalize wa.heap.size = g at *
  generalize w1.heap.size + 1 = c at *
  generalize w1.heap.size = d at *
  obtain ⟨b, hb⟩ : ∃ b, w.heap.size = b := ⟨_, rfl⟩
  rw [hb] at K2 ⊢
  clear hb
  go_wp2_with fail
  go_loopw [9] (fun si wr => ∃ (k : Nat), k ≤ 60 ∧ si = .int .i64 (k : Int) ∧ Both w b g c d x0 x1 x2 x3 (pkTo A zs k) (pkTo A zs k) wr) (fun si _ => 60 - (intOf si).toNat)
  case atStart => exact ⟨0, Nat.zero_le _, rfl, K2.out⟩
  case round =>
    obtain ⟨k, hk, rfl, hv⟩ := hrel
    have VK := hide hv
    clear hv K2
    by_cases hlt : k < 60
    · obtain ⟨bb, off, rfl, hbb, _, _, hc⟩ := HR.out.cells (by omega)
      obtain ⟨z, hz⟩ : ∃ z, z = zs.getD k 0 := ⟨_, rfl⟩
      have HC := hide ((hc k (by omega)).1)
      rw [← hz] at HC
      have hcell := (VK.out.below.cell (p := ⟨bb, off + k, none⟩) hbb).trans HC.out
      have HF := hide (show pokeAt (pkTo A zs k) (A + k) z = pkTo A zs (k + 1) by rw [hz]; rfl)
      have l1 : k < len := by omega
      have l2 : k < 60 := by omega
      clear hz hc
      set_option maxRecDepth 20000 in
      go_wp2_with fail
      refine (VK.out.poke (A + k) z _ HF.out).mono ?_
      rintro e w4 ⟨rfl, k4⟩
      have K4 := hide k4
      clear k4 VK hcell
      have hcell := (K4.out.below.cell (p := ⟨bb, off + k, none⟩) hbb).trans HC.out
      set_option maxRecDepth 20000 in
      go_wp2_with fail
      refine (K4.out.rpoke (A + k) z _ HF.out).mono ?_
      rintro e w5 ⟨rfl, k5⟩
      have K5 := hide k5
      clear k5 K4 hcell
      set_option maxRecDepth 20000 in
      go_wp2_with fail
      set_option maxRecDepth 20000 in
      go_roundw
      case rel => exact ⟨k + 1, by omega, by go_num, K5.out⟩
      case measure => simp [intOf]; omega
    · obtain rfl : k = 60 := by omega
      clear hlt hk HR
      obtain ⟨f0, hf0⟩ : ∃ f0, f0 = pkTo A zs 60 := ⟨_, rfl⟩
      rw [← hf0] at VK
      clear hf0
      obtain ⟨F, hF⟩ : ∃ F, mvTo f0 P S Q T N = F := ⟨_, rfl⟩
      have HF := hide hF
      clear hF
      have c0 := VK.out.n0
      have c1 := VK.out.n1
      have c2 := VK.out.n2
      have c3 := VK.out.n3
      go_wp2_with fail
      refine (VK.out.move x0 x1 n x3 P S Q T X Y N F hP.out hQ.out hS.out hT.out hN.out hX.out hY.out HF.out).mono ?_
      rintro e w3 ⟨rfl, k3⟩
      have K3 := hide k3
      clear k3 c0 c1 c2 c3 VK
      have c0 := K3.out.n0
      have c1 := K3.out.n1
      have c3 := K3.out.n3
      have hb3 : b < w3.heap.size := lt_of_block K3.out.2.2.2.1
      go_wp2_with fail
      refine under_calls fun w4 hw4 => ?_
      have n4 : Below w3.heap.size w3 w4 := by rw [hw4]; exact (Below.refl _ w3).alloc (Nat.le_refl _) _
      have E4 := hide (show HasE w4 w3.heap.size X Y by rw [hw4]; exact heap_alloc_new _ _)
      have K4 := hide (K3.out.next n4)
      have GE := hide (show w3.heap.size ≠ c ∧ w3.heap.size ≠ d by have := K3.out.lt_c; omega)
      clear hw4 n4 c0 c1 c3 hb3 K3
      obtain ⟨g1, hg1⟩ : ∃ g1, w3.heap.size = g1 := ⟨_, rfl⟩
      rw [hg1] at E4 GE ⊢
      clear hg1
      refine (K4.out.rmove x0 x1 n x3 P S Q T X Y N F hP.out hQ.out hS.out hT.out hN.out hX.out hY.out HF.out).mono ?_
      rintro e w5 ⟨rfl, k5, o5⟩
      have K5 := hide k5
      have E5 := hide (show HasE w5 g1 X Y from o5.obj E4.out GE.out.1 GE.out.2)
      clear k5 o5 K4 E4 GE HF hS hT hN hX hY
      have NE := neqE X Y
      go_wp2_with (first | (refine wpList_load_row rfl 29 (.tmp 11) rfl g1 rfl _ _ _ _ E5.out Try.underlying29 rfl (by kernel_rfl) ?_))
      clear E5 NE
      go_loopw [14] (fun si wr => ∃ (i : Nat), i ≤ 210 ∧ si = .int .i64 ((i : Int) - 70) ∧ Both w b g c d x0 x1 x2 x3 F F wr) (fun si _ => 210 - (intOf si + 70).toNat)
      case atStart => exact ⟨0, Nat.zero_le _, rfl, K5.out⟩
      case round =>
        obtain ⟨i, hi, rfl, hv⟩ := hrel
        have VI := hide hv
        clear hv K5
        have c0 := VI.out.n0
        have c1 := VI.out.n1
        by_cases hit : i < 210
        · set_option maxRecDepth 20000 in
          go_wp2_with fail
          refine under_name fun w6 hw6 => ?_
          have n6 : Below wr.heap.size wr w6 := by rw [hw6]; exact (Below.refl _ wr).alloc (Nat.le_refl _) _
          have R6 := hide (three_in (show w6.heap[wr.heap.size]? = some (.cells #[.int .i64 A, .int .i64 P, .int .i64 Q] 3 (0, 0)) by rw [hw6]; exact heap_alloc_new _ _) ⟨hA0, hA1⟩ ⟨hP0, hP1⟩ ⟨hQ0, hQ1⟩)
          have K6 := hide (VI.out.next n6)
          clear hw6 n6 c0 c1 VI
          obtain ⟨g3, hg3⟩ : ∃ g3, wr.heap.size = g3 := ⟨_, rfl⟩
          rw [hg3] at R6 ⊢
          clear hg3
          have hd : decide ((i : Int) - 70 < 140) = true := by rw [decide_eq_true_eq]; omega
          try simp only [hd]
          clear hd
          go_loop [95] (fun sj => ∃ (j : Nat), j ≤ 3 ∧ sj = .int .i64 (j : Int)) (fun sj => 3 - (intOf sj).toNat)
          case atStart => exact ⟨0, Nat.zero_le _, rfl⟩
          case round =>
            obtain ⟨j, hj, rfl⟩ := hrel
            by_cases hjt : j < 3
            · obtain ⟨z, hz0, hz1, hcell⟩ := R6.out j hjt
              obtain ⟨v, hv⟩ : ∃ v, wordAt F (z + ((i : Int) - 70)) = v := ⟨_, rfl⟩
              have HV := hide hv
              clear hv
              set_option maxRecDepth 20000 in
              go_wp2_with fail
              refine (K6.out.word _ v HV.out).mono ?_
              rintro e w7 ⟨rfl, hw⟩
              subst w7
              set_option maxRecDepth 20000 in
              go_wp2_with fail
              refine (K6.out.rword _ v HV.out).mono ?_
              rintro e w7 ⟨rfl, hw⟩
              subst w7
              set_option maxRecDepth 20000 in
              go_wp2_with fail
              set_option maxRecDepth 20000 in
              go_round
              case rel => exact ⟨j + 1, by omega, by go_num⟩
              case measure => simp [intOf]; omega
            · obtain rfl : j = 3 := by omega
              set_option maxRecDepth 20000 in
              go_wp2_with fail
              set_option maxRecDepth 20000 in
              go_roundw
              case rel => exact ⟨i + 1, by omega, by go_num, K6.out⟩
              case measure => simp [intOf]; omega
        · obtain rfl : i = 210 := by omega
          have EQ := eqE 4 6
          set_option maxRecDepth 20000 in
          go_wp2_with fail
          refine (move_nil _ 5 5 0 4 5 (-1) 5 1 4 6 1 rfl rfl rfl rfl rfl rfl rfl).mono ?_
          rintro e w7 ⟨rfl, b7⟩
          have B7 := hide (bnext VI.out.below b7)
          clear b7
          go_wp2_with fail
          go_ret
          exact ⟨rfl, B7.out⟩
theorem four_of (l : List Int) (h : l.length = 4) : ∃ a b c d, l = [a, b, c, d] := by
  match l, h with
  | [a, b, c, d], _ => exact ⟨a, b, c, d, rfl⟩
theorem dmaMoves_walk (a0 : Option Addr) (len0 cap0 : Nat) (z0 : List Int) (a1 : Int) (z2 : List Int) (w : World) (w0 : IsRow .i64 w a0 len0 cap0 z0) (w1 : (Lit.int .i64 a1).wf = true) (l2 : z2.length = 4) (w2 : ∀ z ∈ z2, (Lit.int .i64 z).wf = true) : Calls Try.prog 3 #[.slice a0 len0 cap0, .int .i64 a1, .agg (z2.map (Value.int .i64)).toArray] w fun e w' => e = .returned (.bool true) ∧ Below w.heap.size w w' := by
  obtain ⟨x0, x1, x2, x3, rfl⟩ := four_of z2 l2
  have hN : (x2 % 64) % 65536 + 1 = (((x2 % 64 + 1).toNat : Nat) : Int) := by omega
  by_cases hm : len0 ≤ 60
  · exact moves_short a1 x0 x1 x2 x3 (a1 % 65536) (x0 % 65536) (x1 % 65536) (x2 % 64) _ _ _ _ _ a0 len0 cap0 z0 w w0 (and_65535 a1) (by rw [and_65535]; omega) (and_65535 x0) (and_65535 x1) (and_63 x2) (by omega) (by omega) (by omega) (by omega) (hide rfl) (hide rfl) (hide rfl) (hide rfl) (hide hN) (hide rfl) (hide rfl) (by omega) (by omega) (by omega) (by omega) hm
  · exact moves_long a1 x0 x1 x2 x3 (a1 % 65536) (x0 % 65536) (x1 % 65536) (x2 % 64) _ _ _ _ _ a0 len0 cap0 z0 w w0 (and_65535 a1) (by rw [and_65535]; omega) (and_65535 x0) (and_65535 x1) (and_63 x2) (by omega) (by omega) (by omega) (by omega) (hide rfl) (hide rfl) (hide rfl) (hide rfl) (hide hN) (hide rfl) (hide rfl) (by omega) (by omega) (by omega) (by omega) (by omega)

set_option maxRecDepth 100000 in
theorem dmaMoves_lifted (os : Os) (started : os.Started) (H : Type) (enc : TypeId × Value → H) :
    ReturnsInHanded {} Try.checked os 3 .any (Rows.dmaMovesSpec.pre6 enc Try.prog Try.f3 Rows.dmaMovesRow.domain false) (Rows.dmaMovesSpec.post enc Try.prog Try.f3 false true false false) := by
  refine returnsInHanded_of_change (C := Try.checked) own started (by kernel_rfl) Try.func3
    (ChangeSpec.witness6 (enc := enc) (C := Try.checked) false ⟨#[], #[.slice none 0 0, .int .i64 0, .agg #[.int .i64 0, .int .i64 0, .int .i64 0, .int .i64 0]], []⟩ 8 (by kernel_rfl) (by kernel_rfl) (by kernel_rfl) (by kernel_rfl)) ?_
  intro W base args ds gs before hval0 hW hcnd _
  have hval : ∀ (j : Nat) t v, Try.f3.params[j]? = some t → args[j]? = some v → Value.okWide Try.prog W .any base t v := hval0
  have hW' := hW
  obtain ⟨p, q, hA0, hV, rfl, hfz, hnd⟩ := hW
  have hA : DataW.TrodAll enc Try.prog W 0 (fun _ => true) true Try.f3.params.toList args.toList ds p := hA0
  rw [Try.params3] at hA hval
  obtain ⟨v0, vs0, d0, ds0, p0, q0, hargs, rfl, rfl, h0, r0⟩ := trodAll_cons hA
  obtain ⟨v1, vs1, d1, ds1, p1, q1, rfl, rfl, rfl, h1, r1⟩ := trodAll_cons r0
  obtain ⟨v2, vs2, d2, ds2, p2, q2, rfl, rfl, rfl, h2, r2⟩ := trodAll_cons r1
  obtain ⟨rfl, rfl, rfl⟩ := trodAll_nil r2
  obtain rfl : args = #[v0, v1, v2] := by cases args; simp_all
  obtain ⟨rfl, rfl⟩ := trodVars_none hV
  obtain ⟨a0, len0, cap0, rfl⟩ := okWide_slice Try.underlying22 (hval 0 22 v0 rfl rfl)
  have k0 := h0
  have lt0 : ∀ x ∈ p0, x.block < W.heap.size := by obtain ⟨m, hm⟩ := k0; exact DataW.trod_lt m _ _ _ hm
  obtain ⟨z0, w0⟩ : ∃ zs, IsRow .i64 W a0 len0 cap0 zs := by
    obtain ⟨fuel, hf⟩ := h0
    rcases open_ints Try.underlying22 Try.underlying3 (by kernel_rfl) hf with ⟨hcs, _⟩ | ⟨x, l, c, zs, hcs, _, hl, hm, hz, _, hcell, hwz⟩
    · simp [Value.cells] at hcs
      obtain ⟨rfl, rfl, rfl⟩ := hcs
      exact ⟨[], .inl ⟨rfl, rfl, rfl, rfl⟩⟩
    · simp [Value.cells] at hcs
      obtain ⟨rfl, rfl, rfl⟩ := hcs
      exact ⟨zs, .inr ⟨_, rfl, hl, hm, by simpa using hz, hcell, hwz⟩⟩
  obtain ⟨a1, rfl, rfl, rfl, w1⟩ := open_int Try.underlying3 (hval 1 3 v1 rfl rfl) h1
  have k2 := h2
  have lt2 : ∀ x ∈ p2, x.block < W.heap.size := by obtain ⟨m, hm⟩ := k2; exact DataW.trod_lt m _ _ _ hm
  obtain ⟨z2, l2, rfl, w2⟩ := open_array_ints Try.underlying23 Try.underlying3 (by kernel_rfl) (by kernel_rfl) (hval 2 23 v2 rfl rfl) h2
  clear hA0 hval0
  refine (dmaMoves_walk a0 len0 cap0 z0 a1 z2 W w0 w1 l2 w2).mono fun e W' ⟨he, bel⟩ => ?_
  subst he
  exact ⟨_, rfl, _, _, _, [], _, [], hW', trodAll_mk1 (shut_bool Try.underlying4 _), (trodAll_cons_mk (Below.trod laidOut (by kernel_rfl) (of_decide_eq_true (by kernel_rfl)) k0 bel lt0) (trodAll_cons_mk (shut_int Try.underlying3 w1) (trodAll_cons_mk (Below.trod laidOut (by kernel_rfl) (of_decide_eq_true (by kernel_rfl)) k2 bel lt2) trodAll_mk0))), rfl, bel.frame _, fun h => by cases h⟩

theorem dmaMoves_over : Rows.dmaMovesRow.holds Try.pinned (OpenSpec.ofChange Rows.dmaMovesSpec) :=
  OpenClaim.holds_of_wide 3 Try.f3 rfl rfl rfl rfl rfl rfl rfl ⟨rfl, rfl, rfl, rfl, rfl⟩ rfl rfl rfl rfl rfl (by kernel_rfl) Try.func3 (by kernel_rfl)
    (of_decide_eq_true (by kernel_rfl)) (by unfold Func.isWrapper; first | (rw [if_pos (by decide +kernel)]; kernel_rfl) | (rw [if_neg (by decide +kernel)]; exact ⟨rfl, rfl⟩))
    (fun os started H enc _ => dmaMoves_lifted os started H enc)

theorem dmaMoves_holds : Rows.DmaMovesSaid := dmaMoves_over
#print axioms dmaMoves_holds

end Go.Proofs.Ytndphclogkmonaa
