/- DmaBack, at the landed commit: whatever slice of integers and integer come in, the call returns true: words that are moved to another place, apart, and back, are as they were there; with the ends going back they come the other way round. No condition. -/
import Derived.Test.YtndphclogkmonaaLaw16
import Derived.Test.YtndphclogkmonaaBack16
import Derived.Test.YtndphclogkmonaaRowkit
import Derived.Test.YtndphclogkmonaaArrays
namespace Go.Proofs.Ytndphclogkmonaa
open Go.ChangeShapes Go.WideShapes Go.ChangeAt Go.RowKit
set_option linter.unusedVariables false

set_option maxHeartbeats 1000000 in
theorem back_short (a1 A : Int) (s : Option Addr) (m cap : Nat) (zs : List Int) (w : World) (hr : IsRow .i64 w s m cap zs) (e1 : bits .and .i64 a1 16383 = A) (hA0 : 0 ≤ A) (hA1 : A < 16384) (hm0 : 0 < m) (hm1 : m ≤ 60) :
    Calls Try.prog 5 #[.slice s m cap, .int .i64 a1] w fun e w' => e = .returned (.bool true) ∧ Below w.heap.size w w' := by
  have HR := hide hr
  clear hr
  go_enter Try.func5, Try.ntmps5
  go_wp2_with fail
  refine (new_any _).mono ?_
  rintro e w1 ⟨rfl, h1, b1⟩
  have H1 := hide h1
  have B1 := hide b1
  clear h1 b1
  obtain ⟨g, hg⟩ : ∃ g, w.heap.size = g := ⟨_, rfl⟩
  have HG := hide (show w.heap.size ≤ g by omega)
  rw [hg] at H1 ⊢
  clear hg
  go_wp2_with fail
  go_loopw [6] (fun si wr => ∃ (k : Nat), k ≤ m ∧ si = .int .i64 (k : Int) ∧ HasM wr g true (pkTo A zs k) 0 0 1 0 0 ∧ Below w.heap.size w wr) (fun si _ => m - (intOf si).toNat)
  case atStart => exact ⟨0, Nat.zero_le _, rfl, H1.out, B1.out⟩
  case round =>
    obtain ⟨k, hk, rfl, hv, hb⟩ := hrel
    have VK := hide hv
    have BK := hide hb
    clear hv hb H1 B1
    by_cases hlt : k < m
    · obtain ⟨bb, off, rfl, hbb, _, _, hc⟩ := HR.out.cells (by omega)
      obtain ⟨z, hz⟩ : ∃ z, z = zs.getD k 0 := ⟨_, rfl⟩
      have hcell := (BK.out.cell (p := ⟨bb, off + k, none⟩) hbb).trans (hc k (by omega)).1
      rw [← hz] at hcell
      have HF := hide (show pokeAt (pkTo A zs k) (A + k) z = pkTo A zs (k + 1) by rw [hz]; rfl)
      clear hz hc
      go_wp2_with fail
      refine (poke_is g _ _ _ _ _ _ _ VK.out (A + k) z _ HF.out).mono ?_
      rintro e w4 ⟨rfl, h4, o4⟩
      have H4 := hide h4
      have B4 := hide (bonly BK.out o4 HG.out (Nat.le_refl _))
      clear h4 o4 VK BK hcell
      go_wp2_with fail
      go_roundw
      case rel => exact ⟨k + 1, by omega, by go_num, H4.out, B4.out⟩
      case measure => simp [intOf]; omega
    · obtain rfl : k = m := by omega
      clear hlt hk
      obtain ⟨F1, hF1⟩ : ∃ F, mvTo (pkTo A zs k) A 1 (A + 1000) 1 k = F := ⟨_, rfl⟩
      obtain ⟨F2, hF2⟩ : ∃ F, mvTo F1 (A + 1000) 1 (A + 2000 + (k - 1)) (-1) k = F := ⟨_, rfl⟩
      obtain ⟨F3, hF3⟩ : ∃ F, mvTo (wpTo F2 A k) (A + 1000) 1 A 1 k = F := ⟨_, rfl⟩
      have e2 : F2 = f2Of A zs k := by rw [← hF2, ← hF1]; rfl
      have T2 := hide (show ∀ i, i < k → wordAt (wpTo F2 A i) (A + i) = zs.getD i 0 % 65536 ∧ wordAt (wpTo F2 A i) (A + 1000 + i) = zs.getD i 0 % 65536 ∧ wordAt (wpTo F2 A i) (A + 2000 + (k - 1) - i) = zs.getD i 0 % 65536 by rw [e2]; exact wp2_at A zs k hA0 hA1 hm1)
      have T3 := hide (show ∀ i, i < k → wordAt F3 (A + i) = zs.getD i 0 % 65536 by rw [← hF3, e2]; exact f3_at A zs k hA0 hA1 hm1)
      have HF1 := hide hF1
      have HF2 := hide hF2
      have HF3 := hide hF3
      clear hF1 hF2 hF3 e2
      go_wp2_with fail
      refine (move_is g _ _ _ _ _ _ _ VK.out _ _ _ _ A 1 (A + 1000) 1 (A + (k - 1) + 1) (A + 1001 + (k - 1)) k F1 (by omega) (by omega) (farOf_0 _) (farOf_0 _) (by omega) (by rw [placeAt_on _ _ (by omega) (by omega)]; omega) (by rw [placeAt_on _ _ (by omega) (by omega)]; omega) HF1.out).mono ?_
      rintro e w3 ⟨rfl, h3, o3⟩
      have H3 := hide h3
      have B3 := hide (bonly BK.out o3 HG.out (Nat.le_refl _))
      clear h3 o3 VK BK HF1
      go_wp2_with fail
      refine under_calls fun w4 hw4 => ?_
      have n4 : Below w3.heap.size w3 w4 := by rw [hw4]; exact (Below.refl _ w3).alloc (Nat.le_refl _) _
      have E4 := hide (show HasE w4 w3.heap.size (A + (k - 1) + 1) (A + 1001 + (k - 1)) by rw [hw4]; exact heap_alloc_new _ _)
      have H4 := hide (H3.out.next n4)
      have B4 := hide (bnext B3.out n4)
      have GE := hide (show w3.heap.size ≠ g by have := H3.out.lt; omega)
      clear hw4 n4 H3 B3
      obtain ⟨g1, hg1⟩ : ∃ g1, w3.heap.size = g1 := ⟨_, rfl⟩
      rw [hg1] at E4 GE ⊢
      clear hg1
      refine (move_is g _ _ _ _ _ _ _ H4.out _ _ _ _ (A + 1000) 1 (A + 2000 + (k - 1)) (-1) (A + 1001 + (k - 1)) (A + 1999) k F2 (by omega) (by omega) farOf_8_2 farOf_8_3 (by omega) (by rw [placeAt_on _ _ (by omega) (by omega)]; omega) (by rw [placeAt_back _ _ (by omega) (by omega)]; omega) HF2.out).mono ?_
      rintro e w5 ⟨rfl, h5, o5⟩
      have H5 := hide h5
      have E5 := hide (E4.out.only o5 GE.out)
      have B5 := hide (bonly B4.out o5 HG.out (Nat.le_refl _))
      clear h5 o5 H4 E4 B4 HF2
      go_wp2_with fail
      refine under_name fun w6 hw6 => ?_
      have n6 : Below w5.heap.size w5 w6 := by rw [hw6]; exact (Below.refl _ w5).alloc (Nat.le_refl _) _
      have D6 := hide (show HasE w6 w5.heap.size (A + 1001 + (k - 1)) (A + 1999) by rw [hw6]; exact heap_alloc_new _ _)
      have E6 := hide (E5.out.next n6)
      have H6 := hide (H5.out.next n6)
      have B6 := hide (bnext B5.out n6)
      have GD := hide (show w5.heap.size ≠ g by have := H5.out.lt; omega)
      clear hw6 n6 H5 B5 E5
      obtain ⟨g2, hg2⟩ : ∃ g2, w5.heap.size = g2 := ⟨_, rfl⟩
      rw [hg2] at D6 GD ⊢
      clear hg2
      go_loopw [10] (fun si wr => ∃ (i : Nat), i ≤ k ∧ si = .int .i64 (i : Int) ∧ HasM wr g true (wpTo F2 A i) 0 0 1 0 0 ∧ HasE wr g1 (A + (k - 1) + 1) (A + 1001 + (k - 1)) ∧ HasE wr g2 (A + 1001 + (k - 1)) (A + 1999) ∧ Below w.heap.size w wr) (fun si _ => k - (intOf si).toNat)
      case atStart => exact ⟨0, Nat.zero_le _, rfl, H6.out, E6.out, D6.out, B6.out⟩
      case round =>
        obtain ⟨i, hi, rfl, hv, he, hd, hb⟩ := hrel
        have VI := hide hv
        have EI := hide he
        have DI := hide hd
        have BI := hide hb
        clear hv he hd hb H6 E6 D6 B6
        by_cases hit : i < k
        · obtain ⟨bb, off, rfl, hbb, _, _, hc⟩ := HR.out.cells (by omega)
          obtain ⟨z, hz⟩ : ∃ z, z = zs.getD i 0 := ⟨_, rfl⟩
          have hcell := (BI.out.cell (p := ⟨bb, off + i, none⟩) hbb).trans (hc i (by omega)).1
          have ht := T2.out i hit
          rw [← hz] at hcell ht
          clear hz hc
          obtain ⟨x, hx⟩ : ∃ x, z % 65536 = x := ⟨_, rfl⟩
          have ez := and_65535 z
          rw [hx] at ez ht
          have t1 := hide ht.1
          have t2 := hide ht.2.1
          have t3 := hide ht.2.2
          have HF := hide (show pokeAt (wpTo F2 A i) (A + i) 0 = wpTo F2 A (i + 1) from rfl)
          clear hx ht
          go_wp2_with fail
          refine (word_is g _ _ _ _ _ _ _ VI.out _ x t1.out).mono ?_
          rintro e w7 ⟨rfl, hw⟩
          subst w7
          go_wp2_with fail
          refine (word_is g _ _ _ _ _ _ _ VI.out _ x t2.out).mono ?_
          rintro e w7 ⟨rfl, hw⟩
          subst w7
          go_wp2_with fail
          refine (word_is g _ _ _ _ _ _ _ VI.out _ x t3.out).mono ?_
          rintro e w7 ⟨rfl, hw⟩
          subst w7
          go_wp2_with fail
          refine (poke_is g _ _ _ _ _ _ _ VI.out (A + i) 0 _ HF.out).mono ?_
          rintro e w7 ⟨rfl, h7, o7⟩
          have H7 := hide h7
          have E7 := hide (EI.out.only o7 GE.out)
          have D7 := hide (DI.out.only o7 GD.out)
          have B7 := hide (bonly BI.out o7 HG.out (Nat.le_refl _))
          clear h7 o7 VI EI DI BI hcell
          set_option maxRecDepth 20000 in
          go_wp2_with fail
          set_option maxRecDepth 20000 in
          go_roundw
          case rel => exact ⟨i + 1, by omega, by go_num, H7.out, E7.out, D7.out, B7.out⟩
          case measure => simp [intOf]; omega
        · obtain rfl : i = k := by omega
          clear hit hi
          go_wp2_with fail
          refine (move_is g _ _ _ _ _ _ _ VI.out _ _ _ _ (A + 1000) 1 A 1 (A + 1000 + i) (A + i) i F3 (by omega) (by omega) (farOf_0 _) (farOf_0 _) (by omega) (placeAt_on _ _ (by omega) (by omega)) (placeAt_on _ _ (by omega) (by omega)) HF3.out).mono ?_
          rintro e w7 ⟨rfl, h7, o7⟩
          have H7 := hide h7
          have E7 := hide (EI.out.only o7 GE.out)
          have D7 := hide (DI.out.only o7 GD.out)
          have B7 := hide (bonly BI.out o7 HG.out (Nat.le_refl _))
          clear h7 o7 VI EI DI BI HF3 T2
          have HQ1 := eqE (A + (i - 1) + 1) (A + 1001 + (i - 1))
          have HQ2 := eqE (A + 1001 + (i - 1)) (A + 1999)
          go_wp2_with fail
          go_loopw [12] (fun si wr => ∃ (j : Nat), j ≤ i ∧ si = .int .i64 (j : Int) ∧ HasM wr g true F3 0 0 1 0 0 ∧ HasE wr g1 (A + (i - 1) + 1) (A + 1001 + (i - 1)) ∧ HasE wr g2 (A + 1001 + (i - 1)) (A + 1999) ∧ Below w.heap.size w wr) (fun si _ => i - (intOf si).toNat)
          case atStart => exact ⟨0, Nat.zero_le _, rfl, H7.out, E7.out, D7.out, B7.out⟩
          case round =>
            obtain ⟨j, hj, rfl, hv, he, hd, hb⟩ := hrel
            have VJ := hide hv
            have EJ := hide he
            have DJ := hide hd
            have BJ := hide hb
            clear hv he hd hb H7 E7 D7 B7
            by_cases hjt : j < i
            · obtain ⟨bb, off, rfl, hbb, _, _, hc⟩ := HR.out.cells (by omega)
              obtain ⟨z, hz⟩ : ∃ z, z = zs.getD j 0 := ⟨_, rfl⟩
              have hcell := (BJ.out.cell (p := ⟨bb, off + j, none⟩) hbb).trans (hc j (by omega)).1
              have ht := T3.out j hjt
              rw [← hz] at hcell ht
              clear hz hc
              obtain ⟨x, hx⟩ : ∃ x, z % 65536 = x := ⟨_, rfl⟩
              have ez := and_65535 z
              rw [hx] at ez ht
              have HT := hide ht
              clear hx ht
              go_wp2_with fail
              have k0 := kept_cell hcell (Nat.lt_of_lt_of_le hbb BJ.out.size)
              clear hcell
              haveI := kept_some wr
              refine wp_region_kept (by kernel_rfl) (by kernel_rfl) ?_
              repeat (go_big_quiet_step ((first | (go_at_call 13; exact kept_same (word_is g _ _ _ _ _ _ _ (VJ.out.next (Kept.below _)) _ x HT.out)))))
              refine wpQuiet_nil ?_
              rintro _ ⟨wk, rfl⟩
              clear k0
              have H8 := hide (VJ.out.next wk.below)
              have E8 := hide (EJ.out.next wk.below)
              have D8 := hide (DJ.out.next wk.below)
              have B8 := hide (bnext BJ.out wk.below)
              clear VJ EJ DJ BJ
              set_option maxRecDepth 20000 in
              go_wp2_with fail
              set_option maxRecDepth 20000 in
              go_roundw
              case rel => exact ⟨j + 1, by omega, by go_num, H8.out, E8.out, D8.out, B8.out⟩
              case measure => simp [intOf]; omega
            · obtain rfl : j = i := by omega
              set_option maxRecDepth 20000 in
              go_wp2_with (first
                | (refine wpList_load_row rfl 29 (.tmp 8) rfl g1 rfl _ _ _ _ EJ.out Try.underlying29 rfl (by kernel_rfl) ?_)
                | (refine wpList_load_want rfl 29 (.tmp 9) rfl g2 rfl 29 _ (0, 0) _ DJ.out Try.underlying29 rfl (by kernel_rfl) ?_))
              go_ret
              exact ⟨rfl, BJ.out⟩
set_option maxHeartbeats 1000000 in
theorem back_long (a1 A : Int) (s : Option Addr) (len cap : Nat) (zs : List Int) (w : World) (hr : IsRow .i64 w s len cap zs) (e1 : bits .and .i64 a1 16383 = A) (hA0 : 0 ≤ A) (hA1 : A < 16384) (hl : 60 < len) : Calls Try.prog 5 #[.slice s len cap, .int .i64 a1] w fun e w' => e = .returned (.bool true) ∧ Below w.heap.size w w' := by
  obtain ⟨b0, o0, rfl, _, hl1, hl2, _⟩ := hr.cells (by omega)
  have HR := hide hr
  clear hr
  go_enter Try.func5, Try.ntmps5
  go_wp2_with fail
  obtain ⟨s, hs⟩ : ∃ s, s = some (⟨b0, o0, none⟩ : Addr) := ⟨_, rfl⟩
  rw [← hs] at HR ⊢
  obtain ⟨m, em⟩ : ∃ m : Nat, m = 60 := ⟨_, rfl⟩
  rw [show (Value.slice s 60 cap) = .slice s m cap by rw [em]]
  have hm0 : 0 < m := by omega
  have hm1 : m ≤ 60 := by omega
  have hml : m ≤ len := by omega
  clear hs hl1 hl2 em
  refine (new_any _).mono ?_
  rintro e w1 ⟨rfl, h1, b1⟩
  have H1 := hide h1
  have B1 := hide b1
  clear h1 b1
  obtain ⟨g, hg⟩ : ∃ g, w.heap.size = g := ⟨_, rfl⟩
  have HG := hide (show w.heap.size ≤ g by omega)
  rw [hg] at H1 ⊢
  clear hg
  go_wp2_with fail
  go_loopw [6] (fun si wr => ∃ (k : Nat), k ≤ m ∧ si = .int .i64 (k : Int) ∧ HasM wr g true (pkTo A zs k) 0 0 1 0 0 ∧ Below w.heap.size w wr) (fun si _ => m - (intOf si).toNat)
  case atStart => exact ⟨0, Nat.zero_le _, rfl, H1.out, B1.out⟩
  case round =>
    obtain ⟨k, hk, rfl, hv, hb⟩ := hrel
    have VK := hide hv
    have BK := hide hb
    clear hv hb H1 B1
    by_cases hlt : k < m
    · obtain ⟨bb, off, rfl, hbb, _, _, hc⟩ := HR.out.cells (by omega)
      obtain ⟨z, hz⟩ : ∃ z, z = zs.getD k 0 := ⟨_, rfl⟩
      have hcell := (BK.out.cell (p := ⟨bb, off + k, none⟩) hbb).trans (hc k (by omega)).1
      rw [← hz] at hcell
      have HF := hide (show pokeAt (pkTo A zs k) (A + k) z = pkTo A zs (k + 1) by rw [hz]; rfl)
      clear hz hc
      go_wp2_with fail
      refine (poke_is g _ _ _ _ _ _ _ VK.out (A + k) z _ HF.out).mono ?_
      rintro e w4 ⟨rfl, h4, o4⟩
      have H4 := hide h4
      have B4 := hide (bonly BK.out o4 HG.out (Nat.le_refl _))
      clear h4 o4 VK BK hcell
      go_wp2_with fail
      go_roundw
      case rel => exact ⟨k + 1, by omega, by go_num, H4.out, B4.out⟩
      case measure => simp [intOf]; omega
    · obtain rfl : k = m := by omega
      clear hlt hk
      obtain ⟨F1, hF1⟩ : ∃ F, mvTo (pkTo A zs k) A 1 (A + 1000) 1 k = F := ⟨_, rfl⟩
      obtain ⟨F2, hF2⟩ : ∃ F, mvTo F1 (A + 1000) 1 (A + 2000 + (k - 1)) (-1) k = F := ⟨_, rfl⟩
      obtain ⟨F3, hF3⟩ : ∃ F, mvTo (wpTo F2 A k) (A + 1000) 1 A 1 k = F := ⟨_, rfl⟩
      have e2 : F2 = f2Of A zs k := by rw [← hF2, ← hF1]; rfl
      have T2 := hide (show ∀ i, i < k → wordAt (wpTo F2 A i) (A + i) = zs.getD i 0 % 65536 ∧ wordAt (wpTo F2 A i) (A + 1000 + i) = zs.getD i 0 % 65536 ∧ wordAt (wpTo F2 A i) (A + 2000 + (k - 1) - i) = zs.getD i 0 % 65536 by rw [e2]; exact wp2_at A zs k hA0 hA1 hm1)
      have T3 := hide (show ∀ i, i < k → wordAt F3 (A + i) = zs.getD i 0 % 65536 by rw [← hF3, e2]; exact f3_at A zs k hA0 hA1 hm1)
      have HF1 := hide hF1
      have HF2 := hide hF2
      have HF3 := hide hF3
      clear hF1 hF2 hF3 e2
      go_wp2_with fail
      refine (move_is g _ _ _ _ _ _ _ VK.out _ _ _ _ A 1 (A + 1000) 1 (A + (k - 1) + 1) (A + 1001 + (k - 1)) k F1 (by omega) (by omega) (farOf_0 _) (farOf_0 _) (by omega) (by rw [placeAt_on _ _ (by omega) (by omega)]; omega) (by rw [placeAt_on _ _ (by omega) (by omega)]; omega) HF1.out).mono ?_
      rintro e w3 ⟨rfl, h3, o3⟩
      have H3 := hide h3
      have B3 := hide (bonly BK.out o3 HG.out (Nat.le_refl _))
      clear h3 o3 VK BK HF1
      go_wp2_with fail
      refine under_calls fun w4 hw4 => ?_
      have n4 : Below w3.heap.size w3 w4 := by rw [hw4]; exact (Below.refl _ w3).alloc (Nat.le_refl _) _
      have E4 := hide (show HasE w4 w3.heap.size (A + (k - 1) + 1) (A + 1001 + (k - 1)) by rw [hw4]; exact heap_alloc_new _ _)
      have H4 := hide (H3.out.next n4)
      have B4 := hide (bnext B3.out n4)
      have GE := hide (show w3.heap.size ≠ g by have := H3.out.lt; omega)
      clear hw4 n4 H3 B3
      obtain ⟨g1, hg1⟩ : ∃ g1, w3.heap.size = g1 := ⟨_, rfl⟩
      rw [hg1] at E4 GE ⊢
      clear hg1
      refine (move_is g _ _ _ _ _ _ _ H4.out _ _ _ _ (A + 1000) 1 (A + 2000 + (k - 1)) (-1) (A + 1001 + (k - 1)) (A + 1999) k F2 (by omega) (by omega) farOf_8_2 farOf_8_3 (by omega) (by rw [placeAt_on _ _ (by omega) (by omega)]; omega) (by rw [placeAt_back _ _ (by omega) (by omega)]; omega) HF2.out).mono ?_
      rintro e w5 ⟨rfl, h5, o5⟩
      have H5 := hide h5
      have E5 := hide (E4.out.only o5 GE.out)
      have B5 := hide (bonly B4.out o5 HG.out (Nat.le_refl _))
      clear h5 o5 H4 E4 B4 HF2
      go_wp2_with fail
      refine under_name fun w6 hw6 => ?_
      have n6 : Below w5.heap.size w5 w6 := by rw [hw6]; exact (Below.refl _ w5).alloc (Nat.le_refl _) _
      have D6 := hide (show HasE w6 w5.heap.size (A + 1001 + (k - 1)) (A + 1999) by rw [hw6]; exact heap_alloc_new _ _)
      have E6 := hide (E5.out.next n6)
      have H6 := hide (H5.out.next n6)
      have B6 := hide (bnext B5.out n6)
      have GD := hide (show w5.heap.size ≠ g by have := H5.out.lt; omega)
      clear hw6 n6 H5 B5 E5
      obtain ⟨g2, hg2⟩ : ∃ g2, w5.heap.size = g2 := ⟨_, rfl⟩
      rw [hg2] at D6 GD ⊢
      clear hg2
      go_loopw [10] (fun si wr => ∃ (i : Nat), i ≤ k ∧ si = .int .i64 (i : Int) ∧ HasM wr g true (wpTo F2 A i) 0 0 1 0 0 ∧ HasE wr g1 (A + (k - 1) + 1) (A + 1001 + (k - 1)) ∧ HasE wr g2 (A + 1001 + (k - 1)) (A + 1999) ∧ Below w.heap.size w wr) (fun si _ => k - (intOf si).toNat)
      case atStart => exact ⟨0, Nat.zero_le _, rfl, H6.out, E6.out, D6.out, B6.out⟩
      case round =>
        obtain ⟨i, hi, rfl, hv, he, hd, hb⟩ := hrel
        have VI := hide hv
        have EI := hide he
        have DI := hide hd
        have BI := hide hb
        clear hv he hd hb H6 E6 D6 B6
        by_cases hit : i < k
        · obtain ⟨bb, off, rfl, hbb, _, _, hc⟩ := HR.out.cells (by omega)
          obtain ⟨z, hz⟩ : ∃ z, z = zs.getD i 0 := ⟨_, rfl⟩
          have hcell := (BI.out.cell (p := ⟨bb, off + i, none⟩) hbb).trans (hc i (by omega)).1
          have ht := T2.out i hit
          rw [← hz] at hcell ht
          clear hz hc
          obtain ⟨x, hx⟩ : ∃ x, z % 65536 = x := ⟨_, rfl⟩
          have ez := and_65535 z
          rw [hx] at ez ht
          have t1 := hide ht.1
          have t2 := hide ht.2.1
          have t3 := hide ht.2.2
          have HF := hide (show pokeAt (wpTo F2 A i) (A + i) 0 = wpTo F2 A (i + 1) from rfl)
          clear hx ht
          go_wp2_with fail
          refine (word_is g _ _ _ _ _ _ _ VI.out _ x t1.out).mono ?_
          rintro e w7 ⟨rfl, hw⟩
          subst w7
          go_wp2_with fail
          refine (word_is g _ _ _ _ _ _ _ VI.out _ x t2.out).mono ?_
          rintro e w7 ⟨rfl, hw⟩
          subst w7
          go_wp2_with fail
          refine (word_is g _ _ _ _ _ _ _ VI.out _ x t3.out).mono ?_
          rintro e w7 ⟨rfl, hw⟩
          subst w7
          go_wp2_with fail
          refine (poke_is g _ _ _ _ _ _ _ VI.out (A + i) 0 _ HF.out).mono ?_
          rintro e w7 ⟨rfl, h7, o7⟩
          have H7 := hide h7
          have E7 := hide (EI.out.only o7 GE.out)
          have D7 := hide (DI.out.only o7 GD.out)
          have B7 := hide (bonly BI.out o7 HG.out (Nat.le_refl _))
          clear h7 o7 VI EI DI BI hcell
          set_option maxRecDepth 20000 in
          go_wp2_with fail
          set_option maxRecDepth 20000 in
          go_roundw
          case rel => exact ⟨i + 1, by omega, by go_num, H7.out, E7.out, D7.out, B7.out⟩
          case measure => simp [intOf]; omega
        · obtain rfl : i = k := by omega
          clear hit hi
          go_wp2_with fail
          refine (move_is g _ _ _ _ _ _ _ VI.out _ _ _ _ (A + 1000) 1 A 1 (A + 1000 + i) (A + i) i F3 (by omega) (by omega) (farOf_0 _) (farOf_0 _) (by omega) (placeAt_on _ _ (by omega) (by omega)) (placeAt_on _ _ (by omega) (by omega)) HF3.out).mono ?_
          rintro e w7 ⟨rfl, h7, o7⟩
          have H7 := hide h7
          have E7 := hide (EI.out.only o7 GE.out)
          have D7 := hide (DI.out.only o7 GD.out)
          have B7 := hide (bonly BI.out o7 HG.out (Nat.le_refl _))
          clear h7 o7 VI EI DI BI HF3 T2
          have HQ1 := eqE (A + (i - 1) + 1) (A + 1001 + (i - 1))
          have HQ2 := eqE (A + 1001 + (i - 1)) (A + 1999)
          go_wp2_with fail
          go_loopw [12] (fun si wr => ∃ (j : Nat), j ≤ i ∧ si = .int .i64 (j : Int) ∧ HasM wr g true F3 0 0 1 0 0 ∧ HasE wr g1 (A + (i - 1) + 1) (A + 1001 + (i - 1)) ∧ HasE wr g2 (A + 1001 + (i - 1)) (A + 1999) ∧ Below w.heap.size w wr) (fun si _ => i - (intOf si).toNat)
          case atStart => exact ⟨0, Nat.zero_le _, rfl, H7.out, E7.out, D7.out, B7.out⟩
          case round =>
            obtain ⟨j, hj, rfl, hv, he, hd, hb⟩ := hrel
            have VJ := hide hv
            have EJ := hide he
            have DJ := hide hd
            have BJ := hide hb
            clear hv he hd hb H7 E7 D7 B7
            by_cases hjt : j < i
            · obtain ⟨bb, off, rfl, hbb, _, _, hc⟩ := HR.out.cells (by omega)
              obtain ⟨z, hz⟩ : ∃ z, z = zs.getD j 0 := ⟨_, rfl⟩
              have hcell := (BJ.out.cell (p := ⟨bb, off + j, none⟩) hbb).trans (hc j (by omega)).1
              have ht := T3.out j hjt
              rw [← hz] at hcell ht
              clear hz hc
              obtain ⟨x, hx⟩ : ∃ x, z % 65536 = x := ⟨_, rfl⟩
              have ez := and_65535 z
              rw [hx] at ez ht
              have HT := hide ht
              clear hx ht
              go_wp2_with fail
              have k0 := kept_cell hcell (Nat.lt_of_lt_of_le hbb BJ.out.size)
              clear hcell
              haveI := kept_some wr
              refine wp_region_kept (by kernel_rfl) (by kernel_rfl) ?_
              repeat (go_big_quiet_step ((first | (go_at_call 13; exact kept_same (word_is g _ _ _ _ _ _ _ (VJ.out.next (Kept.below _)) _ x HT.out)))))
              refine wpQuiet_nil ?_
              rintro _ ⟨wk, rfl⟩
              clear k0
              have H8 := hide (VJ.out.next wk.below)
              have E8 := hide (EJ.out.next wk.below)
              have D8 := hide (DJ.out.next wk.below)
              have B8 := hide (bnext BJ.out wk.below)
              clear VJ EJ DJ BJ
              set_option maxRecDepth 20000 in
              go_wp2_with fail
              set_option maxRecDepth 20000 in
              go_roundw
              case rel => exact ⟨j + 1, by omega, by go_num, H8.out, E8.out, D8.out, B8.out⟩
              case measure => simp [intOf]; omega
            · obtain rfl : j = i := by omega
              set_option maxRecDepth 20000 in
              go_wp2_with (first
                | (refine wpList_load_row rfl 29 (.tmp 8) rfl g1 rfl _ _ _ _ EJ.out Try.underlying29 rfl (by kernel_rfl) ?_)
                | (refine wpList_load_want rfl 29 (.tmp 9) rfl g2 rfl 29 _ (0, 0) _ DJ.out Try.underlying29 rfl (by kernel_rfl) ?_))
              go_ret
              exact ⟨rfl, BJ.out⟩
theorem back_none (a1 : Int) (s : Option Addr) (cap : Nat) (w : World) : Calls Try.prog 5 #[.slice s 0 cap, .int .i64 a1] w fun e w' => e = .returned (.bool true) ∧ Below w.heap.size w w' := by
  have HQ := eqE 2 2
  go_enter Try.func5, Try.ntmps5
  go_wp2_with fail
  refine (move_nil _ 0 0 1 0 0 1 0 1 2 2 2 rfl rfl (farOf_0 _) (farOf_0 _) rfl rfl rfl).mono ?_
  rintro e w1 ⟨rfl, b1⟩
  go_wp2_with fail
  go_ret
  exact ⟨rfl, b1⟩
theorem dmaBack_walk (a0 : Option Addr) (len0 cap0 : Nat) (z0 : List Int) (a1 : Int) (w : World) (w0 : IsRow .i64 w a0 len0 cap0 z0) (w1 : (Lit.int .i64 a1).wf = true) : Calls Try.prog 5 #[.slice a0 len0 cap0, .int .i64 a1] w fun e w' => e = .returned (.bool true) ∧ Below w.heap.size w w' := by
  by_cases h0 : len0 = 0
  · subst h0
    exact back_none a1 a0 cap0 w
  by_cases hm : len0 ≤ 60
  · exact back_short a1 (a1 % 16384) a0 len0 cap0 z0 w w0 (and_16383 a1) (by omega) (by omega) (by omega) hm
  · exact back_long a1 (a1 % 16384) a0 len0 cap0 z0 w w0 (and_16383 a1) (by omega) (by omega) (by omega)

set_option maxRecDepth 100000 in
theorem dmaBack_lifted (os : Os) (started : os.Started) (H : Type) (enc : TypeId × Value → H) :
    ReturnsInHanded {} Try.checked os 5 .any (Rows.dmaBackSpec.pre6 enc Try.prog Try.f5 Rows.dmaBackRow.domain false) (Rows.dmaBackSpec.post enc Try.prog Try.f5 false true false false) := by
  refine returnsInHanded_of_change (C := Try.checked) own started (by kernel_rfl) Try.func5
    (ChangeSpec.witness6 (enc := enc) (C := Try.checked) false ⟨#[], #[.slice none 0 0, .int .i64 0], []⟩ 8 (by kernel_rfl) (by kernel_rfl) (by kernel_rfl) (by kernel_rfl)) ?_
  intro W base args ds gs before hval0 hW hcnd _
  have hval : ∀ (j : Nat) t v, Try.f5.params[j]? = some t → args[j]? = some v → Value.okWide Try.prog W .any base t v := hval0
  have hW' := hW
  obtain ⟨p, q, hA0, hV, rfl, hfz, hnd⟩ := hW
  have hA : DataW.TrodAll enc Try.prog W 0 (fun _ => true) true Try.f5.params.toList args.toList ds p := hA0
  rw [Try.params5] at hA hval
  obtain ⟨v0, vs0, d0, ds0, p0, q0, hargs, rfl, rfl, h0, r0⟩ := trodAll_cons hA
  obtain ⟨v1, vs1, d1, ds1, p1, q1, rfl, rfl, rfl, h1, r1⟩ := trodAll_cons r0
  obtain ⟨rfl, rfl, rfl⟩ := trodAll_nil r1
  obtain rfl : args = #[v0, v1] := by cases args; simp_all
  obtain ⟨rfl, rfl⟩ := trodVars_none hV
  obtain ⟨a0, len0, cap0, rfl⟩ := okWide_slice Try.underlying22 (hval 0 22 v0 rfl rfl)
  have k0 := h0
  have lt0 : ∀ x ∈ p0, x.block < W.heap.size := by obtain ⟨m, hm⟩ := k0; exact DataW.trod_lt m _ _ _ hm
  obtain ⟨z0, w0⟩ : ∃ zs, IsRow .i64 W a0 len0 cap0 zs := by
    obtain ⟨fuel, hf⟩ := h0
    rcases open_ints Try.underlying22 Try.underlying3 (by kernel_rfl) hf with ⟨hcs, _⟩ | ⟨x, l, c, zs, hcs, _, hl, hm, hz, _, hcell, hwz⟩
    · simp [Value.cells] at hcs
      obtain ⟨rfl, rfl, rfl⟩ := hcs
      exact ⟨[], .inl ⟨rfl, rfl, rfl, rfl⟩⟩
    · simp [Value.cells] at hcs
      obtain ⟨rfl, rfl, rfl⟩ := hcs
      exact ⟨zs, .inr ⟨_, rfl, hl, hm, by simpa using hz, hcell, hwz⟩⟩
  obtain ⟨a1, rfl, rfl, rfl, w1⟩ := open_int Try.underlying3 (hval 1 3 v1 rfl rfl) h1
  clear hA0 hval0
  refine (dmaBack_walk a0 len0 cap0 z0 a1 W w0 w1).mono fun e W' ⟨he, bel⟩ => ?_
  subst he
  exact ⟨_, rfl, _, _, _, [], _, [], hW', trodAll_mk1 (shut_bool Try.underlying4 _), (trodAll_cons_mk (Below.trod laidOut (by kernel_rfl) (of_decide_eq_true (by kernel_rfl)) k0 bel lt0) (trodAll_cons_mk (shut_int Try.underlying3 w1) trodAll_mk0)), rfl, bel.frame _, fun h => by cases h⟩

theorem dmaBack_over : Rows.dmaBackRow.holds Try.pinned (OpenSpec.ofChange Rows.dmaBackSpec) :=
  OpenClaim.holds_of_wide 5 Try.f5 rfl rfl rfl rfl rfl rfl rfl ⟨rfl, rfl, rfl, rfl, rfl⟩ rfl rfl rfl rfl rfl (by kernel_rfl) Try.func5 (by kernel_rfl)
    (of_decide_eq_true (by kernel_rfl)) (by unfold Func.isWrapper; first | (rw [if_pos (by decide +kernel)]; kernel_rfl) | (rw [if_neg (by decide +kernel)]; exact ⟨rfl, rfl⟩))
    (fun os started H enc _ => dmaBack_lifted os started H enc)

theorem dmaBack_holds : Rows.DmaBackSaid := dmaBack_over
#print axioms dmaBack_holds

end Go.Proofs.Ytndphclogkmonaa
