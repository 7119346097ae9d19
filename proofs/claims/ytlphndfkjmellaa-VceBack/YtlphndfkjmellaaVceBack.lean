/- VceBack, at the landed commit: whatever integer and slice of integers come in, the call returns true: colours that are written, one behind the other, from any place on, are read from there on as they were. No condition. -/
import Derived.Test.YtlphndfkjmellaaBack12
import Derived.Test.YtlphndfkjmellaaArrays
import Derived.Deep.RegionWith
namespace Go.Proofs.Ytlphndfkjmellaa
open Go.ChangeShapes Go.WideShapes Go.ChangeAt Go.RowKit
set_option linter.unusedVariables false
theorem own : ownKnob Try.prog.godebug = none := by kernel_rfl
theorem wrap_512 (m : Int) : wrap64 m % 512 = m % 512 := by unfold wrap64; omega

theorem back_short (p A x : Int) (s : Option Addr) (len cap : Nat) (zs : List Int) (w : World) (hr : IsRow .i64 w s len cap zs) (hm : len ≤ 100) (hA : p % 512 = A) (CA : Hid (∀ w, Calls Try.prog 7 #[.agg zeroC, .int .i64 2, .int .i64 p] w fun e w' => e = .returned (.agg (rowV 0 x (fun _ => 0))) ∧ Below w.heap.size w w')) (CA2 : Hid (∀ w, Calls Try.prog 7 #[.agg (rowV 0 x (fun _ => 0)), .int .i64 3, .int .i64 (p / 256)] w fun e w' => e = .returned (.agg (rowV 0 A (fun _ => 0))) ∧ Below w.heap.size w w')) : Calls Try.prog 3 #[.int .i64 p, .slice s len cap] w fun e w' => e = .returned (.bool true) ∧ Below w.heap.size w w' := by
  have HR := hide hr
  clear hr
  try have hzz := zero_same w (Try.zeroValue25 w)
  go_enter Try.func3, Try.ntmps3
  go_wp2_with fail
  have b1 : Below w.heap.size w w := Below.refl _ w
  refine (CA.out _).mono ?_
  rintro e w1 ⟨rfl, b1⟩
  have B1 := hide b1
  clear b1 CA
  go_wp2_with fail
  refine (CA2.out _).mono ?_
  rintro e w2 ⟨rfl, b2⟩
  have B2 := hide (bnext B1.out b2)
  clear b2 B1 CA2
  have N2 := hide (hasV_new 25 w2 0 0 (fun _ => 0))
  go_wp2_with (first
    | (refine wpList_store_row rfl 25 (.tmp 5) (.tmp 22) rfl w2.heap.size _ rfl rfl 25 _ N2.out (info_V _ _ _) (by rw [rowV_size, rowV_size]) (rowV_one _ _ _) ?_))
  obtain ⟨w3, hw3⟩ : ∃ w3, w3 = (w2.alloc (.cells zeroC 25)).setRow w2.heap.size (rowV 0 A (fun _ => 0)) := ⟨_, rfl⟩
  have b3 : Below w2.heap.size w2 w3 := by rw [hw3]; exact below_setRow ((Below.refl _ w2).alloc (Nat.le_refl _) _) (Nat.le_refl _) _
  have V3 := hide (show HasV 25 w3 w2.heap.size 0 A (fun _ => 0) by rw [hw3]; exact setRow_heap _ _ _ _ _ _ N2.out)
  have hg : w.heap.size ≤ w2.heap.size := B2.out.size
  have B3 := hide (bnext B2.out b3)
  rw [← hw3]
  clear hw3 b3 B2 N2
  generalize w2.heap.size = g1 at *
  have HG := hide hg
  clear hg
  have V30 := hide (show HasV 25 w3 g1 0 (adr A 0) (wrTo A zs 0) by rw [adr_zero A (by omega) (by omega)]; exact V3.out)
  clear V3
  go_loopw [6] (fun si wr => ∃ k : Nat, k ≤ len ∧ si = .int .i64 (k : Int) ∧ HasV 25 wr g1 0 (adr A k) (wrTo A zs k) ∧ Below w.heap.size w wr) (fun si _ => len - (intOf si).toNat)
  case atStart => exact ⟨0, Nat.zero_le _, rfl, V30.out, B3.out⟩
  case round =>
    obtain ⟨k, hk, rfl, hv, hb⟩ := hrel
    have VK := hide hv
    have BK := hide hb
    clear hv hb V30 B3
    by_cases hlt : k < len
    · obtain ⟨bb, off, rfl, hbb, _, _, hc⟩ := HR.out.cells (by omega)
      have hcell := kept_cell ((BK.out.cell (p := ⟨bb, off + k, none⟩) hbb).trans (hc k (by omega)).1) (Nat.lt_of_lt_of_le hbb BK.out.size)
      obtain ⟨G, p4, p5⟩ := puts A zs k
      obtain ⟨z, hz⟩ : ∃ z, z = zs.getD k 0 := ⟨_, rfl⟩
      rw [← hz] at hcell p4 p5
      have P4 := hide p4
      have P5 := hide p5
      clear p4 p5 hz hc
      go_wp2_with fail
      haveI := kept_some wr
      refine wp_region_kept_last _ _ (show _ = [_, _, _, _, _, _, _, _, _, _, _, _] ++ [_] from rfl) (by kernel_rfl) (by kernel_rfl) (by kernel_rfl) ?_
      repeat (first
        | (refine wpQuiet_row rfl 25 (.tmp 5) rfl g1 rfl 25 _ (0, 0) _ (fun w' ⟨x, hx⟩ => by rw [hx]; exact (x.block _ VK.out.lt).trans VK.out) Try.underlying25 rfl (info_V _ _ _) ?_; simp only [Act.put, List.setIfInBounds_toArray, List.set_cons_succ, List.set_cons_zero])
        | go_big_quiet_step ((first | (go_at_call_of 7 (Value.int .i64 4); exact kept_call (P4.out _)) | (go_at_call_of 7 (Value.int .i64 5); exact kept_call (P5.out _)))))
      refine wpQuiet_nil ?_
      rintro _ ⟨wk, rfl⟩
      have V2 := hide (VK.out.next wk.below)
      have B2 := hide (bnext BK.out wk.below)
      go_wp2_with (first
        | (refine wpList_store_row rfl 25 (.tmp 5) (.tmp 40) rfl g1 _ rfl rfl 25 _ V2.out (info_V _ _ _) (by rw [rowV_size, rowV_size]) (rowV_one _ _ _) ?_))
      go_roundw
      case rel => exact ⟨k + 1, by omega, by go_num, setRow_heap _ _ _ _ _ _ V2.out, below_setRow B2.out HG.out _⟩
      case measure => simp [intOf]; omega
    · obtain rfl : k = len := by omega
      clear hlt hk
      have c1 := VK.out.c1
      have hn : bits .and .i64 (wrap64 (p + (k : Int))) 511 = adr A k := by rw [and_511, wrap_512]; unfold adr; omega
      obtain ⟨x3, q2, q3⟩ := laid p (adr A k) (wrTo A zs k)
      rw [hA] at q3
      have Q2 := hide q2
      have Q3 := hide q3
      clear q2 q3
      obtain ⟨T, hT⟩ : ∃ T, T = wrTo A zs k := ⟨_, rfl⟩
      rw [← hT] at VK Q2 Q3
      have HT := hide hT
      clear hT
      go_wp2_with (first
        | (refine wpList_load_row rfl 25 (.tmp 5) rfl g1 rfl 25 _ (0, 0) _ VK.out Try.underlying25 rfl (info_V _ _ _) ?_))
      refine (Q2.out _).mono ?_
      rintro e w4 ⟨rfl, b4⟩
      have V4 := hide (VK.out.next b4)
      have B4 := hide (bnext BK.out b4)
      clear b4 VK BK Q2 c1 hn
      go_wp2_with fail
      refine (Q3.out _).mono ?_
      rintro e w5 ⟨rfl, b5⟩
      have V5 := hide (V4.out.next b5)
      have B5 := hide (bnext B4.out b5)
      clear b5 V4 B4 Q3
      go_wp2_with (first
        | (refine wpList_store_row rfl 25 (.tmp 5) (.tmp 54) rfl g1 _ rfl rfl 25 _ V5.out (info_V _ _ _) (by rw [rowV_size, rowV_size]) (rowV_one _ _ _) ?_))
      obtain ⟨w6, hw6⟩ : ∃ w6, w6 = w5.setRow g1 (rowV 0 A T) := ⟨_, rfl⟩
      have V6 := hide (show HasV 25 w6 g1 0 (adr A 0) T by rw [hw6, adr_zero A (by omega) (by omega)]; exact setRow_heap _ _ _ _ _ _ V5.out)
      have B6 := hide (show Below w.heap.size w w6 by rw [hw6]; exact below_setRow B5.out HG.out _)
      rw [← hw6]
      clear hw6 V5 B5
      go_loopw [7] (fun si wr => ∃ i : Nat, i ≤ k ∧ si = .int .i64 (i : Int) ∧ HasV 25 wr g1 0 (adr A i) T ∧ Below w.heap.size w wr) (fun si _ => k - (intOf si).toNat)
      case atStart => exact ⟨0, Nat.zero_le _, rfl, V6.out, B6.out⟩
      case round =>
        obtain ⟨i, hi, rfl, hv, hb⟩ := hrel
        have VI := hide hv
        have BI := hide hb
        clear hv hb V6 B6
        by_cases hit : i < k
        · obtain ⟨bb, off, rfl, hbb, _, _, hc⟩ := HR.out.cells (by omega)
          obtain ⟨z, hz⟩ : ∃ z, z = zs.getD i 0 := ⟨_, rfl⟩
          obtain ⟨r4, r5, rc⟩ := gets A p hA zs k i (by omega) hit T HT.out z hz
          have R4 := hide r4
          have R5 := hide r5
          have RC := hide rc
          clear r4 r5 rc
          have HC := hide ((hc i (by omega)).1)
          rw [← hz] at HC
          clear hc hz
          go_wp2_with (first
            | (refine wpList_load_row rfl 25 (.tmp 5) rfl g1 rfl 25 _ (0, 0) _ VI.out Try.underlying25 rfl (info_V _ _ _) ?_))
          refine (R4.out _).mono ?_
          rintro e w7 ⟨rfl, b7⟩
          have V7 := hide (VI.out.next b7)
          have B7 := hide (bnext BI.out b7)
          clear b7 VI BI R4
          have N7 := hide (hasV_new 25 w7 0 0 (fun _ => 0))
          have X7 := hide (show HasV 25 ((w7.alloc (.cells zeroC 25)).setRow w7.heap.size (rowV 0 (adr A i) T)) w7.heap.size 0 (adr A i) T from setRow_heap _ _ _ _ _ _ N7.out)
          go_wp2_with (first
            | (refine wpList_store_row rfl 25 (.tmp 9) (.tmp 65) rfl w7.heap.size _ rfl rfl 25 _ N7.out (info_V _ _ _) (by rw [rowV_size, rowV_size]) (rowV_one _ _ _) ?_)
            | (refine wpList_load_row rfl 25 (.tmp 9) rfl w7.heap.size rfl 25 _ (0, 0) _ X7.out Try.underlying25 rfl (info_V _ _ _) ?_))
          obtain ⟨w8, hw8⟩ : ∃ w8, w8 = (w7.alloc (.cells zeroC 25)).setRow w7.heap.size (rowV 0 (adr A i) T) := ⟨_, rfl⟩
          have b8 : Below w7.heap.size w7 w8 := by rw [hw8]; exact below_setRow ((Below.refl _ w7).alloc (Nat.le_refl _) _) (Nat.le_refl _) _
          have V8 := hide (V7.out.next b8)
          have B8 := hide (bnext B7.out b8)
          rw [← hw8]
          clear hw8 b8 V7 B7 N7 X7
          generalize w7.heap.size = g2
          refine (R5.out _).mono ?_
          rintro e w9 ⟨rfl, b9⟩
          have V9 := hide (V8.out.next b9)
          have B9 := hide (bnext B8.out b9)
          clear b9 V8 B8 R5
          have N9 := hide (hasV_new 25 w9 0 0 (fun _ => 0))
          go_wp2_with (first
            | (refine wpList_store_row rfl 25 (.tmp 11) (.tmp 70) rfl w9.heap.size _ rfl rfl 25 _ N9.out (info_V _ _ _) (by rw [rowV_size, rowV_size]) (rowV_one _ _ _) ?_))
          obtain ⟨wa, hwa⟩ : ∃ wa, wa = (w9.alloc (.cells zeroC 25)).setRow w9.heap.size (rowV 0 (adr A (i + 1)) T) := ⟨_, rfl⟩
          have ba : Below w9.heap.size w9 wa := by rw [hwa]; exact below_setRow ((Below.refl _ w9).alloc (Nat.le_refl _) _) (Nat.le_refl _) _
          have Xa := hide (show HasV 25 wa w9.heap.size 0 (adr A (i + 1)) T by rw [hwa]; exact setRow_heap _ _ _ _ _ _ N9.out)
          have Va := hide (V9.out.next ba)
          have Ba := hide (bnext B9.out ba)
          have hne : g1 ≠ w9.heap.size := Nat.ne_of_lt V9.out.lt
          rw [← hwa]
          clear hwa ba V9 B9 N9
          generalize w9.heap.size = g3 at *
          have hcell := kept_cell ((Ba.out.cell (p := ⟨bb, off + i, none⟩) hbb).trans HC.out) (Nat.lt_of_lt_of_le hbb Ba.out.size)
          have u1 := and_255 z
          have u2 := and_1 (z / 256)
          have u3 := and_511 z
          have u4 := or_254 (z / 256 % 2) (by omega)
          haveI := kept_some wa
          refine wp_region_kept (by kernel_rfl) (by kernel_rfl) ?_
          simp only [Act.put]
          repeat (first
            | (refine wpQuiet_row rfl 25 (.tmp 11) rfl g3 rfl 25 _ (0, 0) _ (fun w' ⟨x, hx⟩ => by rw [hx]; exact (x.block _ Xa.out.lt).trans Xa.out) Try.underlying25 rfl (info_V _ _ _) ?_; simp only [Act.put, List.setIfInBounds_toArray, List.set_cons_succ, List.set_cons_zero])
            | go_big_quiet_step ((go_at_call 9; exact kept_call (RC.out _ _ (by first | rfl | exact wrap_512 _) _))))
          refine wpQuiet_nil ?_
          rintro _ ⟨wk, rfl⟩
          have Vb := hide (Va.out.next wk.below)
          have Xb := hide (Xa.out.next wk.below)
          have Bb := hide (bnext Ba.out wk.below)
          clear Va Xa Ba hcell u1 u2 u3 u4 RC
          go_wp2_with (first
            | (refine wpList_load_row rfl 25 (.tmp 11) rfl g3 rfl 25 _ (0, 0) _ Xb.out Try.underlying25 rfl (info_V _ _ _) ?_)
            | (refine wpList_store_row rfl 25 (.tmp 5) (.tmp 102) rfl g1 _ rfl rfl 25 _ Vb.out (info_V _ _ _) (by rw [rowV_size, rowV_size]) (rowV_one _ _ _) ?_))
          go_roundw
          case rel => exact ⟨i + 1, by omega, by go_num, setRow_heap _ _ _ _ _ _ Vb.out, below_setRow Bb.out HG.out _⟩
          case measure => simp [intOf]; omega
        · obtain rfl : i = k := by omega
          have hl : bitOf 0 2 = 0 := by decide +kernel
          have hd : dotOf 0 = 4 := by decide
          have CL := hide (fun a w => lines_any 0 a T w)
          have CD := hide (fun a w => dot_any 0 a T w)
          rw [hl] at CL
          rw [hd] at CD
          clear hl hd
          go_wp2_with (first
            | (refine wpList_load_want rfl 25 (.tmp 5) rfl g1 rfl 25 _ (0, 0) _ VI.out Try.underlying25 rfl (info_V _ _ _) ?_))
          refine (CL.out _ _).mono ?_
          rintro e w7 ⟨rfl, b7⟩
          have V7 := hide (VI.out.next b7)
          have B7 := hide (bnext BI.out b7)
          clear b7 VI BI CL
          go_wp2_with (first
            | (refine wpList_load_want rfl 25 (.tmp 5) rfl g1 rfl 25 _ (0, 0) _ V7.out Try.underlying25 rfl (info_V _ _ _) ?_))
          refine (CD.out _ _).mono ?_
          rintro e w8 ⟨rfl, b8⟩
          have B8 := hide (bnext B7.out b8)
          clear b8 V7 B7 CD
          go_wp2_with fail
          go_ret
          exact ⟨rfl, B8.out⟩
theorem back_long (p A x : Int) (s : Option Addr) (len cap : Nat) (zs : List Int) (w : World) (hr : IsRow .i64 w s len cap zs) (hm : 100 < len) (hA : p % 512 = A) (CA : Hid (∀ w, Calls Try.prog 7 #[.agg zeroC, .int .i64 2, .int .i64 p] w fun e w' => e = .returned (.agg (rowV 0 x (fun _ => 0))) ∧ Below w.heap.size w w')) (CA2 : Hid (∀ w, Calls Try.prog 7 #[.agg (rowV 0 x (fun _ => 0)), .int .i64 3, .int .i64 (p / 256)] w fun e w' => e = .returned (.agg (rowV 0 A (fun _ => 0))) ∧ Below w.heap.size w w')) : Calls Try.prog 3 #[.int .i64 p, .slice s len cap] w fun e w' => e = .returned (.bool true) ∧ Below w.heap.size w w' := by
  obtain ⟨b0, o0, rfl, _, hl1, hl2, _⟩ := hr.cells (by omega)
  have HR := hide hr
  clear hr
  try have hzz := zero_same w (Try.zeroValue25 w)
  go_enter Try.func3, Try.ntmps3
  go_wp2_with fail
  obtain ⟨s, hs⟩ : ∃ s, s = some (⟨b0, o0, none⟩ : Addr) := ⟨_, rfl⟩
  rw [← hs] at HR ⊢
  clear hs hl1 hl2
  have b1 : Below w.heap.size w w := Below.refl _ w
  refine (CA.out _).mono ?_
  rintro e w1 ⟨rfl, b1⟩
  have B1 := hide b1
  clear b1 CA
  go_wp2_with fail
  refine (CA2.out _).mono ?_
  rintro e w2 ⟨rfl, b2⟩
  have B2 := hide (bnext B1.out b2)
  clear b2 B1 CA2
  have N2 := hide (hasV_new 25 w2 0 0 (fun _ => 0))
  go_wp2_with (first
    | (refine wpList_store_row rfl 25 (.tmp 5) (.tmp 22) rfl w2.heap.size _ rfl rfl 25 _ N2.out (info_V _ _ _) (by rw [rowV_size, rowV_size]) (rowV_one _ _ _) ?_))
  obtain ⟨w3, hw3⟩ : ∃ w3, w3 = (w2.alloc (.cells zeroC 25)).setRow w2.heap.size (rowV 0 A (fun _ => 0)) := ⟨_, rfl⟩
  have b3 : Below w2.heap.size w2 w3 := by rw [hw3]; exact below_setRow ((Below.refl _ w2).alloc (Nat.le_refl _) _) (Nat.le_refl _) _
  have V3 := hide (show HasV 25 w3 w2.heap.size 0 A (fun _ => 0) by rw [hw3]; exact setRow_heap _ _ _ _ _ _ N2.out)
  have hg : w.heap.size ≤ w2.heap.size := B2.out.size
  have B3 := hide (bnext B2.out b3)
  rw [← hw3]
  clear hw3 b3 B2 N2
  generalize w2.heap.size = g1 at *
  have HG := hide hg
  clear hg
  have V30 := hide (show HasV 25 w3 g1 0 (adr A 0) (wrTo A zs 0) by rw [adr_zero A (by omega) (by omega)]; exact V3.out)
  clear V3
  go_loopw [6] (fun si wr => ∃ k : Nat, k ≤ 100 ∧ si = .int .i64 (k : Int) ∧ HasV 25 wr g1 0 (adr A k) (wrTo A zs k) ∧ Below w.heap.size w wr) (fun si _ => 100 - (intOf si).toNat)
  case atStart => exact ⟨0, Nat.zero_le _, rfl, V30.out, B3.out⟩
  case round =>
    obtain ⟨k, hk, rfl, hv, hb⟩ := hrel
    have VK := hide hv
    have BK := hide hb
    clear hv hb V30 B3
    by_cases hlt : k < 100
    · obtain ⟨bb, off, rfl, hbb, _, _, hc⟩ := HR.out.cells (by omega)
      have hcell := kept_cell ((BK.out.cell (p := ⟨bb, off + k, none⟩) hbb).trans (hc k (by omega)).1) (Nat.lt_of_lt_of_le hbb BK.out.size)
      obtain ⟨G, p4, p5⟩ := puts A zs k
      obtain ⟨z, hz⟩ : ∃ z, z = zs.getD k 0 := ⟨_, rfl⟩
      rw [← hz] at hcell p4 p5
      have P4 := hide p4
      have P5 := hide p5
      clear p4 p5 hz hc
      go_wp2_with fail
      haveI := kept_some wr
      refine wp_region_kept_last _ _ (show _ = [_, _, _, _, _, _, _, _, _, _, _, _] ++ [_] from rfl) (by kernel_rfl) (by kernel_rfl) (by kernel_rfl) ?_
      repeat (first
        | (refine wpQuiet_row rfl 25 (.tmp 5) rfl g1 rfl 25 _ (0, 0) _ (fun w' ⟨x, hx⟩ => by rw [hx]; exact (x.block _ VK.out.lt).trans VK.out) Try.underlying25 rfl (info_V _ _ _) ?_; simp only [Act.put, List.setIfInBounds_toArray, List.set_cons_succ, List.set_cons_zero])
        | go_big_quiet_step ((first | (go_at_call_of 7 (Value.int .i64 4); exact kept_call (P4.out _)) | (go_at_call_of 7 (Value.int .i64 5); exact kept_call (P5.out _)))))
      refine wpQuiet_nil ?_
      rintro _ ⟨wk, rfl⟩
      have V2 := hide (VK.out.next wk.below)
      have B2 := hide (bnext BK.out wk.below)
      go_wp2_with (first
        | (refine wpList_store_row rfl 25 (.tmp 5) (.tmp 40) rfl g1 _ rfl rfl 25 _ V2.out (info_V _ _ _) (by rw [rowV_size, rowV_size]) (rowV_one _ _ _) ?_))
      go_roundw
      case rel => exact ⟨k + 1, by omega, by go_num, setRow_heap _ _ _ _ _ _ V2.out, below_setRow B2.out HG.out _⟩
      case measure => simp [intOf]; omega
    · obtain rfl : k = 100 := by omega
      clear hlt hk
      have c1 := VK.out.c1
      have hn : bits .and .i64 (wrap64 (p + (100 : Int))) 511 = adr A 100 := by rw [and_511, wrap_512]; unfold adr; omega
      obtain ⟨x3, q2, q3⟩ := laid p (adr A 100) (wrTo A zs 100)
      rw [hA] at q3
      have Q2 := hide q2
      have Q3 := hide q3
      clear q2 q3
      obtain ⟨T, hT⟩ : ∃ T, T = wrTo A zs 100 := ⟨_, rfl⟩
      rw [← hT] at VK Q2 Q3
      have HT := hide hT
      clear hT
      go_wp2_with (first
        | (refine wpList_load_row rfl 25 (.tmp 5) rfl g1 rfl 25 _ (0, 0) _ VK.out Try.underlying25 rfl (info_V _ _ _) ?_))
      refine (Q2.out _).mono ?_
      rintro e w4 ⟨rfl, b4⟩
      have V4 := hide (VK.out.next b4)
      have B4 := hide (bnext BK.out b4)
      clear b4 VK BK Q2 c1 hn
      go_wp2_with fail
      refine (Q3.out _).mono ?_
      rintro e w5 ⟨rfl, b5⟩
      have V5 := hide (V4.out.next b5)
      have B5 := hide (bnext B4.out b5)
      clear b5 V4 B4 Q3
      go_wp2_with (first
        | (refine wpList_store_row rfl 25 (.tmp 5) (.tmp 54) rfl g1 _ rfl rfl 25 _ V5.out (info_V _ _ _) (by rw [rowV_size, rowV_size]) (rowV_one _ _ _) ?_))
      obtain ⟨w6, hw6⟩ : ∃ w6, w6 = w5.setRow g1 (rowV 0 A T) := ⟨_, rfl⟩
      have V6 := hide (show HasV 25 w6 g1 0 (adr A 0) T by rw [hw6, adr_zero A (by omega) (by omega)]; exact setRow_heap _ _ _ _ _ _ V5.out)
      have B6 := hide (show Below w.heap.size w w6 by rw [hw6]; exact below_setRow B5.out HG.out _)
      rw [← hw6]
      clear hw6 V5 B5
      go_loopw [7] (fun si wr => ∃ i : Nat, i ≤ 100 ∧ si = .int .i64 (i : Int) ∧ HasV 25 wr g1 0 (adr A i) T ∧ Below w.heap.size w wr) (fun si _ => 100 - (intOf si).toNat)
      case atStart => exact ⟨0, Nat.zero_le _, rfl, V6.out, B6.out⟩
      case round =>
        obtain ⟨i, hi, rfl, hv, hb⟩ := hrel
        have VI := hide hv
        have BI := hide hb
        clear hv hb V6 B6
        by_cases hit : i < 100
        · obtain ⟨bb, off, rfl, hbb, _, _, hc⟩ := HR.out.cells (by omega)
          obtain ⟨z, hz⟩ : ∃ z, z = zs.getD i 0 := ⟨_, rfl⟩
          obtain ⟨r4, r5, rc⟩ := gets A p hA zs 100 i (by omega) hit T HT.out z hz
          have R4 := hide r4
          have R5 := hide r5
          have RC := hide rc
          clear r4 r5 rc
          have HC := hide ((hc i (by omega)).1)
          rw [← hz] at HC
          clear hc hz
          go_wp2_with (first
            | (refine wpList_load_row rfl 25 (.tmp 5) rfl g1 rfl 25 _ (0, 0) _ VI.out Try.underlying25 rfl (info_V _ _ _) ?_))
          refine (R4.out _).mono ?_
          rintro e w7 ⟨rfl, b7⟩
          have V7 := hide (VI.out.next b7)
          have B7 := hide (bnext BI.out b7)
          clear b7 VI BI R4
          have N7 := hide (hasV_new 25 w7 0 0 (fun _ => 0))
          have X7 := hide (show HasV 25 ((w7.alloc (.cells zeroC 25)).setRow w7.heap.size (rowV 0 (adr A i) T)) w7.heap.size 0 (adr A i) T from setRow_heap _ _ _ _ _ _ N7.out)
          go_wp2_with (first
            | (refine wpList_store_row rfl 25 (.tmp 9) (.tmp 65) rfl w7.heap.size _ rfl rfl 25 _ N7.out (info_V _ _ _) (by rw [rowV_size, rowV_size]) (rowV_one _ _ _) ?_)
            | (refine wpList_load_row rfl 25 (.tmp 9) rfl w7.heap.size rfl 25 _ (0, 0) _ X7.out Try.underlying25 rfl (info_V _ _ _) ?_))
          obtain ⟨w8, hw8⟩ : ∃ w8, w8 = (w7.alloc (.cells zeroC 25)).setRow w7.heap.size (rowV 0 (adr A i) T) := ⟨_, rfl⟩
          have b8 : Below w7.heap.size w7 w8 := by rw [hw8]; exact below_setRow ((Below.refl _ w7).alloc (Nat.le_refl _) _) (Nat.le_refl _) _
          have V8 := hide (V7.out.next b8)
          have B8 := hide (bnext B7.out b8)
          rw [← hw8]
          clear hw8 b8 V7 B7 N7 X7
          generalize w7.heap.size = g2
          refine (R5.out _).mono ?_
          rintro e w9 ⟨rfl, b9⟩
          have V9 := hide (V8.out.next b9)
          have B9 := hide (bnext B8.out b9)
          clear b9 V8 B8 R5
          have N9 := hide (hasV_new 25 w9 0 0 (fun _ => 0))
          go_wp2_with (first
            | (refine wpList_store_row rfl 25 (.tmp 11) (.tmp 70) rfl w9.heap.size _ rfl rfl 25 _ N9.out (info_V _ _ _) (by rw [rowV_size, rowV_size]) (rowV_one _ _ _) ?_))
          obtain ⟨wa, hwa⟩ : ∃ wa, wa = (w9.alloc (.cells zeroC 25)).setRow w9.heap.size (rowV 0 (adr A (i + 1)) T) := ⟨_, rfl⟩
          have ba : Below w9.heap.size w9 wa := by rw [hwa]; exact below_setRow ((Below.refl _ w9).alloc (Nat.le_refl _) _) (Nat.le_refl _) _
          have Xa := hide (show HasV 25 wa w9.heap.size 0 (adr A (i + 1)) T by rw [hwa]; exact setRow_heap _ _ _ _ _ _ N9.out)
          have Va := hide (V9.out.next ba)
          have Ba := hide (bnext B9.out ba)
          have hne : g1 ≠ w9.heap.size := Nat.ne_of_lt V9.out.lt
          rw [← hwa]
          clear hwa ba V9 B9 N9
          generalize w9.heap.size = g3 at *
          have hcell := kept_cell ((Ba.out.cell (p := ⟨bb, off + i, none⟩) hbb).trans HC.out) (Nat.lt_of_lt_of_le hbb Ba.out.size)
          have u1 := and_255 z
          have u2 := and_1 (z / 256)
          have u3 := and_511 z
          have u4 := or_254 (z / 256 % 2) (by omega)
          haveI := kept_some wa
          refine wp_region_kept (by kernel_rfl) (by kernel_rfl) ?_
          simp only [Act.put]
          repeat (first
            | (refine wpQuiet_row rfl 25 (.tmp 11) rfl g3 rfl 25 _ (0, 0) _ (fun w' ⟨x, hx⟩ => by rw [hx]; exact (x.block _ Xa.out.lt).trans Xa.out) Try.underlying25 rfl (info_V _ _ _) ?_; simp only [Act.put, List.setIfInBounds_toArray, List.set_cons_succ, List.set_cons_zero])
            | go_big_quiet_step ((go_at_call 9; exact kept_call (RC.out _ _ (by first | rfl | exact wrap_512 _) _))))
          refine wpQuiet_nil ?_
          rintro _ ⟨wk, rfl⟩
          have Vb := hide (Va.out.next wk.below)
          have Xb := hide (Xa.out.next wk.below)
          have Bb := hide (bnext Ba.out wk.below)
          clear Va Xa Ba hcell u1 u2 u3 u4 RC
          go_wp2_with (first
            | (refine wpList_load_row rfl 25 (.tmp 11) rfl g3 rfl 25 _ (0, 0) _ Xb.out Try.underlying25 rfl (info_V _ _ _) ?_)
            | (refine wpList_store_row rfl 25 (.tmp 5) (.tmp 102) rfl g1 _ rfl rfl 25 _ Vb.out (info_V _ _ _) (by rw [rowV_size, rowV_size]) (rowV_one _ _ _) ?_))
          go_roundw
          case rel => exact ⟨i + 1, by omega, by go_num, setRow_heap _ _ _ _ _ _ Vb.out, below_setRow Bb.out HG.out _⟩
          case measure => simp [intOf]; omega
        · obtain rfl : i = 100 := by omega
          have hl : bitOf 0 2 = 0 := by decide +kernel
          have hd : dotOf 0 = 4 := by decide
          have CL := hide (fun a w => lines_any 0 a T w)
          have CD := hide (fun a w => dot_any 0 a T w)
          rw [hl] at CL
          rw [hd] at CD
          clear hl hd
          go_wp2_with (first
            | (refine wpList_load_want rfl 25 (.tmp 5) rfl g1 rfl 25 _ (0, 0) _ VI.out Try.underlying25 rfl (info_V _ _ _) ?_))
          refine (CL.out _ _).mono ?_
          rintro e w7 ⟨rfl, b7⟩
          have V7 := hide (VI.out.next b7)
          have B7 := hide (bnext BI.out b7)
          clear b7 VI BI CL
          go_wp2_with (first
            | (refine wpList_load_want rfl 25 (.tmp 5) rfl g1 rfl 25 _ (0, 0) _ V7.out Try.underlying25 rfl (info_V _ _ _) ?_))
          refine (CD.out _ _).mono ?_
          rintro e w8 ⟨rfl, b8⟩
          have B8 := hide (bnext B7.out b8)
          clear b8 V7 B7 CD
          go_wp2_with fail
          go_ret
          exact ⟨rfl, B8.out⟩
theorem vceBack_walk (a0 : Int) (a1 : Option Addr) (len1 cap1 : Nat) (z1 : List Int) (w : World) (w0 : (Lit.int .i64 a0).wf = true) (w1 : IsRow .i64 w a1 len1 cap1 z1) : Calls Try.prog 3 #[.int .i64 a0, .slice a1 len1 cap1] w fun e w' => e = .returned (.bool true) ∧ Below w.heap.size w w' := by
  obtain ⟨x, h2, h3⟩ := laid a0 0 (fun _ => 0)
  by_cases hm : len1 ≤ 100
  · exact back_short a0 _ x a1 len1 cap1 z1 w w1 hm rfl (hide h2) (hide h3)
  · exact back_long a0 _ x a1 len1 cap1 z1 w w1 (by omega) rfl (hide h2) (hide h3)

set_option maxRecDepth 100000 in
theorem vceBack_lifted (os : Os) (started : os.Started) (H : Type) (enc : TypeId × Value → H) :
    ReturnsInHanded {} Try.checked os 3 .any (Rows.vceBackSpec.pre6 enc Try.prog Try.f3 Rows.vceBackRow.domain false) (Rows.vceBackSpec.post enc Try.prog Try.f3 false true false false) := by
  refine returnsInHanded_of_change (C := Try.checked) own started (by kernel_rfl) Try.func3
    (ChangeSpec.witness6 (enc := enc) (C := Try.checked) false ⟨#[], #[.int .i64 0, .slice none 0 0], []⟩ 8 (by kernel_rfl) (by kernel_rfl) (by kernel_rfl) (by kernel_rfl)) ?_
  intro W base args ds gs before hval0 hW hcnd _
  have hval : ∀ (j : Nat) t v, Try.f3.params[j]? = some t → args[j]? = some v → Value.okWide Try.prog W .any base t v := hval0
  have hW' := hW
  obtain ⟨p, q, hA0, hV, rfl, hfz, hnd⟩ := hW
  have hA : DataW.TrodAll enc Try.prog W 0 (fun _ => true) true Try.f3.params.toList args.toList ds p := hA0
  rw [Try.params3] at hA hval
  obtain ⟨v0, vs0, d0, ds0, p0, q0, hargs, rfl, rfl, h0, r0⟩ := trodAll_cons hA
  obtain ⟨v1, vs1, d1, ds1, p1, q1, rfl, rfl, rfl, h1, r1⟩ := trodAll_cons r0
  obtain ⟨rfl, rfl, rfl⟩ := trodAll_nil r1
  obtain rfl : args = #[v0, v1] := by cases args; simp_all
  obtain ⟨rfl, rfl⟩ := trodVars_none hV
  obtain ⟨a0, rfl, rfl, rfl, w0⟩ := open_int Try.underlying3 (hval 0 3 v0 rfl rfl) h0
  obtain ⟨a1, len1, cap1, rfl⟩ := okWide_slice Try.underlying22 (hval 1 22 v1 rfl rfl)
  have k1 := h1
  have lt1 : ∀ x ∈ p1, x.block < W.heap.size := by obtain ⟨m, hm⟩ := k1; exact DataW.trod_lt m _ _ _ hm
  obtain ⟨z1, w1⟩ : ∃ zs, IsRow .i64 W a1 len1 cap1 zs := by
    obtain ⟨fuel, hf⟩ := h1
    rcases open_ints Try.underlying22 Try.underlying3 (by kernel_rfl) hf with ⟨hcs, _⟩ | ⟨x, l, c, zs, hcs, _, hl, hm, hz, _, hcell, hwz⟩
    · simp [Value.cells] at hcs
      obtain ⟨rfl, rfl, rfl⟩ := hcs
      exact ⟨[], .inl ⟨rfl, rfl, rfl, rfl⟩⟩
    · simp [Value.cells] at hcs
      obtain ⟨rfl, rfl, rfl⟩ := hcs
      exact ⟨zs, .inr ⟨_, rfl, hl, hm, by simpa using hz, hcell, hwz⟩⟩
  clear hA0 hval0
  refine (vceBack_walk a0 a1 len1 cap1 z1 W w0 w1).mono fun e W' ⟨he, bel⟩ => ?_
  subst he
  exact ⟨_, rfl, _, _, _, [], _, [], hW', trodAll_mk1 (shut_bool Try.underlying4 _), (trodAll_cons_mk (shut_int Try.underlying3 w0) (trodAll_cons_mk (Below.trod laidOut (by kernel_rfl) (of_decide_eq_true (by kernel_rfl)) k1 bel lt1) trodAll_mk0)), rfl, bel.frame _, fun h => by cases h⟩

theorem vceBack_over : Rows.vceBackRow.holds Try.pinned (OpenSpec.ofChange Rows.vceBackSpec) :=
  OpenClaim.holds_of_wide 3 Try.f3 rfl rfl rfl rfl rfl rfl rfl ⟨rfl, rfl, rfl, rfl, rfl⟩ rfl rfl rfl rfl rfl (by kernel_rfl) Try.func3 (by kernel_rfl)
    (of_decide_eq_true (by kernel_rfl)) (by unfold Func.isWrapper; first | (rw [if_pos (by decide +kernel)]; kernel_rfl) | (rw [if_neg (by decide +kernel)]; exact ⟨rfl, rfl⟩))
    (fun os started H enc _ => vceBack_lifted os started H enc)

theorem vceBack_holds : Rows.VceBackSaid := vceBack_over
#print axioms vceBack_holds

end Go.Proofs.Ytlphndfkjmellaa
