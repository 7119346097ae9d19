/- VramBack, at the landed commit: whatever two integers and slice of integers come in, the call returns true: words that are written from a place on, with a step, are read from there on with that step, as they were, where there are words. No condition. -/
import Derived.Test.YtbeiphnlckflpaaBack13
import Derived.Test.YtbeiphnlckflpaaRowkit
import Derived.Test.YtbeiphnlckflpaaArrays
namespace Go.Proofs.Ytbeiphnlckflpaa
open Go.ChangeShapes Go.WideShapes Go.ChangeAt Go.RowKit
set_option linter.unusedVariables false

theorem back_short (a0 a1 A S q : Int) (s : Option Addr) (len cap : Nat) (zs : List Int) (w : World) (hr : IsRow .i64 w s len cap zs) (e0 : bits .and .i64 a0 65535 = A) (e1 : bits .and .i64 a1 3 = q) (hA0 : 0 ≤ A) (hA1 : A < 65536) (hq0 : 0 ≤ q) (hq1 : q < 4) (hS : Hid (S = 1 ∨ S = 32 ∨ S = 64 ∨ S = 128)) (cq : (w.alloc (.cells #[.int .i64 1, .int .i64 32, .int .i64 64, .int .i64 128] 3)).cell? ⟨w.heap.size, q.toNat, none⟩ = some (.int .i64 S)) (hm : len ≤ 60) : Calls Try.prog 6 #[.int .i64 a0, .int .i64 a1, .slice s len cap] w fun e w' => e = .returned (.bool true) ∧ Below w.heap.size w w' := by
  have HR := hide hr
  clear hr
  go_enter Try.func6, Try.ntmps6
  go_wp2_with fail
  obtain ⟨wa, hwa⟩ : ∃ wa, wa = w.alloc (.cells #[.int .i64 1, .int .i64 32, .int .i64 64, .int .i64 128] 3) := ⟨_, rfl⟩
  rw [← hwa]
  have BA := hide (show Below w.heap.size w wa by rw [hwa]; exact (Below.refl _ w).alloc (Nat.le_refl _) _)
  clear cq hwa
  have hS0 : 0 ≤ S := by have := hS.out; omega
  have hS1 : S ≤ 128 := by have := hS.out; omega
  refine (new_any _).mono ?_
  rintro e w1 ⟨rfl, h1, b1⟩
  have H1 := hide h1
  have B1 := hide (bnext BA.out b1)
  have HG := hide BA.out.size
  clear h1 b1 BA
  generalize wa.heap.size = g at *
  go_wp2_with fail
  refine (setWrite_is g _ _ _ _ _ _ _ H1.out A A (by omega)).mono ?_
  rintro e w2 ⟨rfl, h2, o2⟩
  have H2 := hide h2
  have B2 := hide (bonly B1.out o2 HG.out (Nat.le_refl _))
  clear h2 o2 H1 B1
  go_wp2_with fail
  refine (setStep_is g _ _ _ _ _ _ _ H2.out S S (by omega)).mono ?_
  rintro e w3 ⟨rfl, h3, o3⟩
  have H3 := hide (show HasM w3 g true (wrTo A S zs 0) (placeAt A S 0) 0 S 0 0 by rw [placeAt_zero A S hA0 hA1]; exact h3)
  have B3 := hide (bonly B2.out o3 HG.out (Nat.le_refl _))
  clear h3 o3 H2 B2
  go_wp2_with fail
  go_loopw [8] (fun si wr => ∃ (k : Nat) (lo : Int), k ≤ len ∧ si = .int .i64 (k : Int) ∧ HasM wr g true (wrTo A S zs k) (placeAt A S k) 0 S lo 0 ∧ Below w.heap.size w wr) (fun si _ => len - (intOf si).toNat)
  case atStart => exact ⟨0, 0, Nat.zero_le _, rfl, H3.out, B3.out⟩
  case round =>
    obtain ⟨k, lo, hk, rfl, hv, hb⟩ := hrel
    have VK := hide hv
    have BK := hide hb
    clear hv hb H3 B3
    by_cases hlt : k < len
    · obtain ⟨bb, off, rfl, hbb, _, _, hc⟩ := HR.out.cells (by omega)
      obtain ⟨z, hz⟩ : ∃ z, z = zs.getD k 0 := ⟨_, rfl⟩
      have hcell := (BK.out.cell (p := ⟨bb, off + k, none⟩) hbb).trans (hc k (by omega)).1
      have HC := hide ((hc k (by omega)).1)
      rw [← hz] at hcell HC
      have HF := hide (show pokeAt (wrTo A S zs k) (placeAt A S k) (z % 65536) = wrTo A S zs (k + 1) by rw [hz]; rfl)
      have HN := hide (placeAt_next A S k)
      have P0 := hide (placeAt_ge A S k)
      have P1 := hide (placeAt_lt A S k)
      clear hz hc
      go_wp2_with fail
      refine (putLow_is g _ _ _ _ _ _ _ VK.out z (z % 256) rfl).mono ?_
      rintro e w4 ⟨rfl, h4, o4⟩
      have H4 := hide h4
      have B4 := hide (bonly BK.out o4 HG.out (Nat.le_refl _))
      clear h4 o4 VK BK hcell
      have hcell := (B4.out.cell (p := ⟨bb, off + k, none⟩) hbb).trans HC.out
      go_wp2_with fail
      refine (putHigh_is g _ _ _ _ _ _ _ H4.out (z / 256) (z % 65536) _ _ (by omega) HF.out P0.out P1.out hS0 (by omega) HN.out).mono ?_
      rintro e w5 ⟨rfl, h5, o5⟩
      have H5 := hide h5
      have B5 := hide (bonly B4.out o5 HG.out (Nat.le_refl _))
      clear h5 o5 H4 B4 hcell
      go_wp2_with fail
      go_roundw
      case rel => exact ⟨k + 1, _, by omega, by go_num, H5.out, B5.out⟩
      case measure => simp [intOf]; omega
    · obtain rfl : k = len := by omega
      clear hlt hk
      obtain ⟨T, hT⟩ : ∃ T, T = wrTo A S zs k := ⟨_, rfl⟩
      rw [← hT] at VK
      have HT := hide (show ∀ i, i < k → wordAt T (placeAt A S i) = if placeAt A S i < 32768 then zs.getD i 0 % 65536 else 0 by rw [hT]; exact wrTo_at A S hS.out zs k (by omega))
      clear hT
      obtain ⟨u, hu⟩ : ∃ u, u = placeAt A S k := ⟨_, rfl⟩
      rw [← hu] at VK
      clear hu
      go_wp2_with fail
      refine (setRead_is g _ _ _ _ _ _ _ VK.out A A _ (by omega) rfl).mono ?_
      rintro e w4 ⟨rfl, h4, o4⟩
      have H4 := hide (show HasM w4 g true T u (placeAt A S 0) S lo (wordAt T (placeAt A S 0)) by rw [placeAt_zero A S hA0 hA1]; exact h4)
      have B4 := hide (bonly BK.out o4 HG.out (Nat.le_refl _))
      clear h4 o4 VK BK
      go_wp2_with fail
      go_loopw [9] (fun si wr => ∃ (i : Nat), i ≤ k ∧ si = .int .i64 (i : Int) ∧ HasM wr g true T u (placeAt A S i) S lo (wordAt T (placeAt A S i)) ∧ Below w.heap.size w wr) (fun si _ => k - (intOf si).toNat)
      case atStart => exact ⟨0, Nat.zero_le _, rfl, H4.out, B4.out⟩
      case round =>
        obtain ⟨i, hi, rfl, hv, hb⟩ := hrel
        have VI := hide hv
        have BI := hide hb
        clear hv hb H4 B4
        by_cases hit : i < k
        · obtain ⟨bb, off, rfl, hbb, _, _, hc⟩ := HR.out.cells (by omega)
          obtain ⟨z, hz⟩ : ∃ z, z = zs.getD i 0 := ⟨_, rfl⟩
          have hcell := (BI.out.cell (p := ⟨bb, off + i, none⟩) hbb).trans (hc i (by omega)).1
          have ht := HT.out i hit
          rw [← hz] at hcell ht
          clear hz hc
          obtain ⟨M, hM⟩ : ∃ M, (i : Int) * S = M := ⟨_, rfl⟩
          have hM0 : 0 ≤ M := by rw [← hM]; exact Int.mul_nonneg (by omega) hS0
          have hM1 : M ≤ 60 * 128 := by rw [← hM]; exact Int.mul_le_mul (by omega) hS1 hS0 (by omega)
          have HN := hide (placeAt_next A S i)
          have hr0 := placeAt_ge A S i
          have hr1 := placeAt_lt A S i
          have ep : bits .and .i64 (A + M) 65535 = placeAt A S i := by rw [and_65535, ← hM]; rfl
          obtain ⟨r, hr⟩ : ∃ r, placeAt A S i = r := ⟨_, rfl⟩
          obtain ⟨r2, hr2⟩ : ∃ r2, placeAt A S (i + 1) = r2 := ⟨_, rfl⟩
          rw [hr] at ep hr0 hr1 ht HN VI
          rw [hr2] at HN
          have HR2 := hide hr2
          clear hr hr2
          obtain ⟨x, hx⟩ : ∃ x, z % 65536 = x := ⟨_, rfl⟩
          have ez := and_65535 z
          rw [hx] at ez ht
          have hx0 : 0 ≤ x := by omega
          have hx1 : x < 65536 := by omega
          clear hx
          by_cases hrl : r < 32768
          · rw [if_pos hrl] at ht
            rw [ht] at VI
            have e255 := and_255 x
            clear ht
            have hd : (x / 256 % 256 = x / 256) := by omega
            go_wp2_with fail
            refine (getLow_is g _ _ _ _ _ _ _ VI.out).mono ?_
            rintro e w5 ⟨rfl, hw⟩
            subst w5
            go_wp2_with fail
            refine (getHigh_is g _ _ _ _ _ _ _ VI.out _ _ hr0 hr1 hS0 (by omega) HN.out rfl).mono ?_
            rintro e w6 ⟨rfl, h6, o6⟩
            have H6 := hide h6
            have B6 := hide (bonly BI.out o6 HG.out (Nat.le_refl _))
            clear h6 o6 VI BI hcell
            go_wp2_with fail
            go_roundw
            case rel => exact ⟨i + 1, by omega, by go_num, by rw [HR2.out]; exact H6.out, B6.out⟩
            case measure => simp [intOf]; omega
          · rw [if_neg hrl] at ht
            rw [ht] at VI
            clear ht
            have e255 : bits .and .i64 0 255 = 0 := by rw [and_255]; rfl
            go_wp2_with fail
            refine (getLow_is g _ _ _ _ _ _ _ VI.out).mono ?_
            rintro e w5 ⟨rfl, hw⟩
            subst w5
            go_wp2_with fail
            refine (getHigh_is g _ _ _ _ _ _ _ VI.out _ _ hr0 hr1 hS0 (by omega) HN.out rfl).mono ?_
            rintro e w6 ⟨rfl, h6, o6⟩
            have H6 := hide h6
            have B6 := hide (bonly BI.out o6 HG.out (Nat.le_refl _))
            clear h6 o6 VI BI hcell
            go_wp2_with fail
            go_roundw
            case rel => exact ⟨i + 1, by omega, by go_num, by rw [HR2.out]; exact H6.out, B6.out⟩
            case measure => simp [intOf]; omega
        · obtain rfl : i = k := by omega
          obtain ⟨F, hF⟩ : ∃ F, pokeAt T 7 74565 = F := ⟨_, rfl⟩
          have HW := hide (show wordAt F 7 = 9029 by rw [← hF, wordAt_same]; rfl)
          have HF := hide hF
          clear hF
          go_wp2_with fail
          refine (poke_is g _ _ _ _ _ _ _ VI.out 7 74565 F HF.out).mono ?_
          rintro e w5 ⟨rfl, h5, o5⟩
          have H5 := hide h5
          have B5 := hide (bonly BI.out o5 HG.out (Nat.le_refl _))
          clear h5 o5 VI BI
          go_wp2_with fail
          refine (word_is g _ _ _ _ _ _ _ H5.out 7 9029 HW.out).mono ?_
          rintro e w6 ⟨rfl, hw⟩
          subst w6
          go_wp2_with fail
          refine (words_is g _ _ _ _ _ _ _ H5.out 0 9 0 (by omega) (by omega) (by omega)).mono ?_
          rintro e w7 ⟨rfl, _, b7⟩
          have B7 := hide (bnext B5.out b7)
          clear b7
          go_wp2_with fail
          go_ret
          exact ⟨rfl, B7.out⟩
theorem back_long (a0 a1 A S q : Int) (s : Option Addr) (len cap : Nat) (zs : List Int) (w : World) (hr : IsRow .i64 w s len cap zs) (e0 : bits .and .i64 a0 65535 = A) (e1 : bits .and .i64 a1 3 = q) (hA0 : 0 ≤ A) (hA1 : A < 65536) (hq0 : 0 ≤ q) (hq1 : q < 4) (hS : Hid (S = 1 ∨ S = 32 ∨ S = 64 ∨ S = 128)) (cq : (w.alloc (.cells #[.int .i64 1, .int .i64 32, .int .i64 64, .int .i64 128] 3)).cell? ⟨w.heap.size, q.toNat, none⟩ = some (.int .i64 S)) (hm : 60 < len) : Calls Try.prog 6 #[.int .i64 a0, .int .i64 a1, .slice s len cap] w fun e w' => e = .returned (.bool true) ∧ Below w.heap.size w w' := by
  obtain ⟨b0, o0, rfl, _, hl1, hl2, _⟩ := hr.cells (by omega)
  have HR := hide hr
  clear hr
  go_enter Try.func6, Try.ntmps6
  go_wp2_with fail
  obtain ⟨s, hs⟩ : ∃ s, s = some (⟨b0, o0, none⟩ : Addr) := ⟨_, rfl⟩
  rw [← hs] at HR ⊢
  clear hs hl1 hl2
  obtain ⟨wa, hwa⟩ : ∃ wa, wa = w.alloc (.cells #[.int .i64 1, .int .i64 32, .int .i64 64, .int .i64 128] 3) := ⟨_, rfl⟩
  rw [← hwa]
  have BA := hide (show Below w.heap.size w wa by rw [hwa]; exact (Below.refl _ w).alloc (Nat.le_refl _) _)
  clear cq hwa
  have hS0 : 0 ≤ S := by have := hS.out; omega
  have hS1 : S ≤ 128 := by have := hS.out; omega
  refine (new_any _).mono ?_
  rintro e w1 ⟨rfl, h1, b1⟩
  have H1 := hide h1
  have B1 := hide (bnext BA.out b1)
  have HG := hide BA.out.size
  clear h1 b1 BA
  generalize wa.heap.size = g at *
  go_wp2_with fail
  refine (setWrite_is g _ _ _ _ _ _ _ H1.out A A (by omega)).mono ?_
  rintro e w2 ⟨rfl, h2, o2⟩
  have H2 := hide h2
  have B2 := hide (bonly B1.out o2 HG.out (Nat.le_refl _))
  clear h2 o2 H1 B1
  go_wp2_with fail
  refine (setStep_is g _ _ _ _ _ _ _ H2.out S S (by omega)).mono ?_
  rintro e w3 ⟨rfl, h3, o3⟩
  have H3 := hide (show HasM w3 g true (wrTo A S zs 0) (placeAt A S 0) 0 S 0 0 by rw [placeAt_zero A S hA0 hA1]; exact h3)
  have B3 := hide (bonly B2.out o3 HG.out (Nat.le_refl _))
  clear h3 o3 H2 B2
  go_wp2_with fail
  go_loopw [8] (fun si wr => ∃ (k : Nat) (lo : Int), k ≤ 60 ∧ si = .int .i64 (k : Int) ∧ HasM wr g true (wrTo A S zs k) (placeAt A S k) 0 S lo 0 ∧ Below w.heap.size w wr) (fun si _ => 60 - (intOf si).toNat)
  case atStart => exact ⟨0, 0, Nat.zero_le _, rfl, H3.out, B3.out⟩
  case round =>
    obtain ⟨k, lo, hk, rfl, hv, hb⟩ := hrel
    have VK := hide hv
    have BK := hide hb
    clear hv hb H3 B3
    by_cases hlt : k < 60
    · obtain ⟨bb, off, rfl, hbb, _, _, hc⟩ := HR.out.cells (by omega)
      obtain ⟨z, hz⟩ : ∃ z, z = zs.getD k 0 := ⟨_, rfl⟩
      have hcell := (BK.out.cell (p := ⟨bb, off + k, none⟩) hbb).trans (hc k (by omega)).1
      have HC := hide ((hc k (by omega)).1)
      rw [← hz] at hcell HC
      have HF := hide (show pokeAt (wrTo A S zs k) (placeAt A S k) (z % 65536) = wrTo A S zs (k + 1) by rw [hz]; rfl)
      have HN := hide (placeAt_next A S k)
      have P0 := hide (placeAt_ge A S k)
      have P1 := hide (placeAt_lt A S k)
      clear hz hc
      go_wp2_with fail
      refine (putLow_is g _ _ _ _ _ _ _ VK.out z (z % 256) rfl).mono ?_
      rintro e w4 ⟨rfl, h4, o4⟩
      have H4 := hide h4
      have B4 := hide (bonly BK.out o4 HG.out (Nat.le_refl _))
      clear h4 o4 VK BK hcell
      have hcell := (B4.out.cell (p := ⟨bb, off + k, none⟩) hbb).trans HC.out
      go_wp2_with fail
      refine (putHigh_is g _ _ _ _ _ _ _ H4.out (z / 256) (z % 65536) _ _ (by omega) HF.out P0.out P1.out hS0 (by omega) HN.out).mono ?_
      rintro e w5 ⟨rfl, h5, o5⟩
      have H5 := hide h5
      have B5 := hide (bonly B4.out o5 HG.out (Nat.le_refl _))
      clear h5 o5 H4 B4 hcell
      go_wp2_with fail
      go_roundw
      case rel => exact ⟨k + 1, _, by omega, by go_num, H5.out, B5.out⟩
      case measure => simp [intOf]; omega
    · obtain rfl : k = 60 := by omega
      clear hlt hk
      obtain ⟨T, hT⟩ : ∃ T, T = wrTo A S zs 60 := ⟨_, rfl⟩
      rw [← hT] at VK
      have HT := hide (show ∀ i, i < 60 → wordAt T (placeAt A S i) = if placeAt A S i < 32768 then zs.getD i 0 % 65536 else 0 by rw [hT]; exact wrTo_at A S hS.out zs 60 (by omega))
      clear hT
      obtain ⟨u, hu⟩ : ∃ u, u = placeAt A S 60 := ⟨_, rfl⟩
      rw [← hu] at VK
      clear hu
      go_wp2_with fail
      refine (setRead_is g _ _ _ _ _ _ _ VK.out A A _ (by omega) rfl).mono ?_
      rintro e w4 ⟨rfl, h4, o4⟩
      have H4 := hide (show HasM w4 g true T u (placeAt A S 0) S lo (wordAt T (placeAt A S 0)) by rw [placeAt_zero A S hA0 hA1]; exact h4)
      have B4 := hide (bonly BK.out o4 HG.out (Nat.le_refl _))
      clear h4 o4 VK BK
      go_wp2_with fail
      go_loopw [9] (fun si wr => ∃ (i : Nat), i ≤ 60 ∧ si = .int .i64 (i : Int) ∧ HasM wr g true T u (placeAt A S i) S lo (wordAt T (placeAt A S i)) ∧ Below w.heap.size w wr) (fun si _ => 60 - (intOf si).toNat)
      case atStart => exact ⟨0, Nat.zero_le _, rfl, H4.out, B4.out⟩
      case round =>
        obtain ⟨i, hi, rfl, hv, hb⟩ := hrel
        have VI := hide hv
        have BI := hide hb
        clear hv hb H4 B4
        by_cases hit : i < 60
        · obtain ⟨bb, off, rfl, hbb, _, _, hc⟩ := HR.out.cells (by omega)
          obtain ⟨z, hz⟩ : ∃ z, z = zs.getD i 0 := ⟨_, rfl⟩
          have hcell := (BI.out.cell (p := ⟨bb, off + i, none⟩) hbb).trans (hc i (by omega)).1
          have ht := HT.out i hit
          rw [← hz] at hcell ht
          clear hz hc
          obtain ⟨M, hM⟩ : ∃ M, (i : Int) * S = M := ⟨_, rfl⟩
          have hM0 : 0 ≤ M := by rw [← hM]; exact Int.mul_nonneg (by omega) hS0
          have hM1 : M ≤ 60 * 128 := by rw [← hM]; exact Int.mul_le_mul (by omega) hS1 hS0 (by omega)
          have HN := hide (placeAt_next A S i)
          have hr0 := placeAt_ge A S i
          have hr1 := placeAt_lt A S i
          have ep : bits .and .i64 (A + M) 65535 = placeAt A S i := by rw [and_65535, ← hM]; rfl
          obtain ⟨r, hr⟩ : ∃ r, placeAt A S i = r := ⟨_, rfl⟩
          obtain ⟨r2, hr2⟩ : ∃ r2, placeAt A S (i + 1) = r2 := ⟨_, rfl⟩
          rw [hr] at ep hr0 hr1 ht HN VI
          rw [hr2] at HN
          have HR2 := hide hr2
          clear hr hr2
          obtain ⟨x, hx⟩ : ∃ x, z % 65536 = x := ⟨_, rfl⟩
          have ez := and_65535 z
          rw [hx] at ez ht
          have hx0 : 0 ≤ x := by omega
          have hx1 : x < 65536 := by omega
          clear hx
          by_cases hrl : r < 32768
          · rw [if_pos hrl] at ht
            rw [ht] at VI
            have e255 := and_255 x
            clear ht
            have hd : (x / 256 % 256 = x / 256) := by omega
            go_wp2_with fail
            refine (getLow_is g _ _ _ _ _ _ _ VI.out).mono ?_
            rintro e w5 ⟨rfl, hw⟩
            subst w5
            go_wp2_with fail
            refine (getHigh_is g _ _ _ _ _ _ _ VI.out _ _ hr0 hr1 hS0 (by omega) HN.out rfl).mono ?_
            rintro e w6 ⟨rfl, h6, o6⟩
            have H6 := hide h6
            have B6 := hide (bonly BI.out o6 HG.out (Nat.le_refl _))
            clear h6 o6 VI BI hcell
            go_wp2_with fail
            go_roundw
            case rel => exact ⟨i + 1, by omega, by go_num, by rw [HR2.out]; exact H6.out, B6.out⟩
            case measure => simp [intOf]; omega
          · rw [if_neg hrl] at ht
            rw [ht] at VI
            clear ht
            have e255 : bits .and .i64 0 255 = 0 := by rw [and_255]; rfl
            go_wp2_with fail
            refine (getLow_is g _ _ _ _ _ _ _ VI.out).mono ?_
            rintro e w5 ⟨rfl, hw⟩
            subst w5
            go_wp2_with fail
            refine (getHigh_is g _ _ _ _ _ _ _ VI.out _ _ hr0 hr1 hS0 (by omega) HN.out rfl).mono ?_
            rintro e w6 ⟨rfl, h6, o6⟩
            have H6 := hide h6
            have B6 := hide (bonly BI.out o6 HG.out (Nat.le_refl _))
            clear h6 o6 VI BI hcell
            go_wp2_with fail
            go_roundw
            case rel => exact ⟨i + 1, by omega, by go_num, by rw [HR2.out]; exact H6.out, B6.out⟩
            case measure => simp [intOf]; omega
        · obtain rfl : i = 60 := by omega
          obtain ⟨F, hF⟩ : ∃ F, pokeAt T 7 74565 = F := ⟨_, rfl⟩
          have HW := hide (show wordAt F 7 = 9029 by rw [← hF, wordAt_same]; rfl)
          have HF := hide hF
          clear hF
          go_wp2_with fail
          refine (poke_is g _ _ _ _ _ _ _ VI.out 7 74565 F HF.out).mono ?_
          rintro e w5 ⟨rfl, h5, o5⟩
          have H5 := hide h5
          have B5 := hide (bonly BI.out o5 HG.out (Nat.le_refl _))
          clear h5 o5 VI BI
          go_wp2_with fail
          refine (word_is g _ _ _ _ _ _ _ H5.out 7 9029 HW.out).mono ?_
          rintro e w6 ⟨rfl, hw⟩
          subst w6
          go_wp2_with fail
          refine (words_is g _ _ _ _ _ _ _ H5.out 0 9 0 (by omega) (by omega) (by omega)).mono ?_
          rintro e w7 ⟨rfl, _, b7⟩
          have B7 := hide (bnext B5.out b7)
          clear b7
          go_wp2_with fail
          go_ret
          exact ⟨rfl, B7.out⟩
theorem vramBack_walk (a0 a1 : Int) (a2 : Option Addr) (len2 cap2 : Nat) (z2 : List Int) (w : World) (w0 : (Lit.int .i64 a0).wf = true) (w1 : (Lit.int .i64 a1).wf = true) (w2 : IsRow .i64 w a2 len2 cap2 z2) : Calls Try.prog 6 #[.int .i64 a0, .int .i64 a1, .slice a2 len2 cap2] w fun e w' => e = .returned (.bool true) ∧ Below w.heap.size w w' := by
  obtain ⟨S, hS, cq⟩ := step_in (a1 % 4) (by omega) (by omega) w
  by_cases hm : len2 ≤ 60
  · exact back_short a0 a1 (a0 % 65536) S (a1 % 4) a2 len2 cap2 z2 w w2 (and_65535 a0) (and_3 a1) (by omega) (by omega) (by omega) (by omega) (hide hS) cq hm
  · exact back_long a0 a1 (a0 % 65536) S (a1 % 4) a2 len2 cap2 z2 w w2 (and_65535 a0) (and_3 a1) (by omega) (by omega) (by omega) (by omega) (hide hS) cq (by omega)

set_option maxRecDepth 100000 in
theorem vramBack_lifted (os : Os) (started : os.Started) (H : Type) (enc : TypeId × Value → H) :
    ReturnsInHanded {} Try.checked os 6 .any (Rows.vramBackSpec.pre6 enc Try.prog Try.f6 Rows.vramBackRow.domain false) (Rows.vramBackSpec.post enc Try.prog Try.f6 false true false false) := by
  refine returnsInHanded_of_change (C := Try.checked) own started (by kernel_rfl) Try.func6
    (ChangeSpec.witness6 (enc := enc) (C := Try.checked) false ⟨#[], #[.int .i64 0, .int .i64 0, .slice none 0 0], []⟩ 8 (by kernel_rfl) (by kernel_rfl) (by kernel_rfl) (by kernel_rfl)) ?_
  intro W base args ds gs before hval0 hW hcnd _
  have hval : ∀ (j : Nat) t v, Try.f6.params[j]? = some t → args[j]? = some v → Value.okWide Try.prog W .any base t v := hval0
  have hW' := hW
  obtain ⟨p, q, hA0, hV, rfl, hfz, hnd⟩ := hW
  have hA : DataW.TrodAll enc Try.prog W 0 (fun _ => true) true Try.f6.params.toList args.toList ds p := hA0
  rw [Try.params6] at hA hval
  obtain ⟨v0, vs0, d0, ds0, p0, q0, hargs, rfl, rfl, h0, r0⟩ := trodAll_cons hA
  obtain ⟨v1, vs1, d1, ds1, p1, q1, rfl, rfl, rfl, h1, r1⟩ := trodAll_cons r0
  obtain ⟨v2, vs2, d2, ds2, p2, q2, rfl, rfl, rfl, h2, r2⟩ := trodAll_cons r1
  obtain ⟨rfl, rfl, rfl⟩ := trodAll_nil r2
  obtain rfl : args = #[v0, v1, v2] := by cases args; simp_all
  obtain ⟨rfl, rfl⟩ := trodVars_none hV
  obtain ⟨a0, rfl, rfl, rfl, w0⟩ := open_int Try.underlying3 (hval 0 3 v0 rfl rfl) h0
  obtain ⟨a1, rfl, rfl, rfl, w1⟩ := open_int Try.underlying3 (hval 1 3 v1 rfl rfl) h1
  obtain ⟨a2, len2, cap2, rfl⟩ := okWide_slice Try.underlying30 (hval 2 30 v2 rfl rfl)
  have k2 := h2
  have lt2 : ∀ x ∈ p2, x.block < W.heap.size := by obtain ⟨m, hm⟩ := k2; exact DataW.trod_lt m _ _ _ hm
  obtain ⟨z2, w2⟩ : ∃ zs, IsRow .i64 W a2 len2 cap2 zs := by
    obtain ⟨fuel, hf⟩ := h2
    rcases open_ints Try.underlying30 Try.underlying3 (by kernel_rfl) hf with ⟨hcs, _⟩ | ⟨x, l, c, zs, hcs, _, hl, hm, hz, _, hcell, hwz⟩
    · simp [Value.cells] at hcs
      obtain ⟨rfl, rfl, rfl⟩ := hcs
      exact ⟨[], .inl ⟨rfl, rfl, rfl, rfl⟩⟩
    · simp [Value.cells] at hcs
      obtain ⟨rfl, rfl, rfl⟩ := hcs
      exact ⟨zs, .inr ⟨_, rfl, hl, hm, by simpa using hz, hcell, hwz⟩⟩
  clear hA0 hval0
  refine (vramBack_walk a0 a1 a2 len2 cap2 z2 W w0 w1 w2).mono fun e W' ⟨he, bel⟩ => ?_
  subst he
  exact ⟨_, rfl, _, _, _, [], _, [], hW', trodAll_mk1 (shut_bool Try.underlying4 _), (trodAll_cons_mk (shut_int Try.underlying3 w0) (trodAll_cons_mk (shut_int Try.underlying3 w1) (trodAll_cons_mk (Below.trod laidOut (by kernel_rfl) (of_decide_eq_true (by kernel_rfl)) k2 bel lt2) trodAll_mk0))), rfl, bel.frame _, fun h => by cases h⟩

theorem vramBack_over : Rows.vramBackRow.holds Try.pinned (OpenSpec.ofChange Rows.vramBackSpec) :=
  OpenClaim.holds_of_wide 6 Try.f6 rfl rfl rfl rfl rfl rfl rfl ⟨rfl, rfl, rfl, rfl, rfl⟩ rfl rfl rfl rfl rfl (by kernel_rfl) Try.func6 (by kernel_rfl)
    (of_decide_eq_true (by kernel_rfl)) (by unfold Func.isWrapper; first | (rw [if_pos (by decide +kernel)]; kernel_rfl) | (rw [if_neg (by decide +kernel)]; exact ⟨rfl, rfl⟩))
    (fun os started H enc _ => vramBack_lifted os started H enc)

theorem vramBack_holds : Rows.VramBackSaid := vramBack_over
#print axioms vramBack_holds

end Go.Proofs.Ytbeiphnlckflpaa
