/- VceControls, at the landed commit: whatever integers and slice of integers come in, the call returns true: Control tells the pixel's ticks, the frame's lines, and whether colours are grey. No condition. -/
import Derived.Test.YtlphndfkjmellaaLaw12
import Derived.Test.YtlphndfkjmellaaArrays
namespace Go.Proofs.Ytlphndfkjmellaa
open Go.ChangeShapes Go.WideShapes Go.ChangeAt Go.RowKit
set_option linter.unusedVariables false
theorem own : ownKnob Try.prog.godebug = none := by kernel_rfl

set_option maxHeartbeats 400000 in
theorem controls_grey (c k : Int) (s : Option Addr) (len cap : Nat) (zs : List Int) (w : World) (hr : IsRow .i64 w s len cap zs) (F : Nat → Int) (x q d y g : Int) (hq : bits .and .i64 c 3 = q) (q0 : 0 ≤ q) (q3 : q < 4) (hd : ∀ w, (Instr.index 36 (.agg #[.int .i64 4, .int .i64 3, .int .i64 2, .int .i64 2]) (.int .i64 q)).run Try.prog w = .ok (.int .i64 d) w) (hy : bits .and .i64 (c / 4) 1 = y) (y0 : 0 ≤ y) (y1 : y ≤ 1) (hb : bits .and .i64 c 128 = 128) (g0 : 0 ≤ g) (g1 : g ≤ 511) (g7 : g % 73 = 0) (CM : Hid (∀ w, IsRow .i64 w s len cap zs → Calls Try.prog 12 #[.int .i64 0, .int .i64 0, .slice s len cap] w fun e w' => e = .returned (.agg (rowV 0 0 F)) ∧ Below w.heap.size w w')) (CW : Hid (∀ w, Calls Try.prog 7 #[.agg (rowV 0 0 F), .int .i64 0, .int .i64 c] w fun e w' => e = .returned (.agg (rowV x 0 F)) ∧ Below w.heap.size w w')) (CD : Hid (∀ w, Calls Try.prog 11 #[.agg (rowV x 0 F)] w fun e w' => e = .returned (.int .i64 d) ∧ Below w.heap.size w w')) (CL : Hid (∀ w, Calls Try.prog 10 #[.agg (rowV x 0 F)] w fun e w' => e = .returned (.int .i64 (262 + y)) ∧ Below w.heap.size w w')) (CC : Hid (∀ w, Calls Try.prog 9 #[.agg (rowV x 0 F), .int .i64 k] w fun e w' => e = .returned (.int .i64 g) ∧ Below w.heap.size w w')) : Calls Try.prog 6 #[.int .i64 c, .slice s len cap, .int .i64 k] w fun e w' => e = .returned (.bool true) ∧ Below w.heap.size w w' := by
  have HR := hide hr
  clear hr
  try have hzz := zero_same w (Try.zeroValue25 w)
  go_enter Try.func6, Try.ntmps6
  go_wp2_with fail
  refine (CM.out _ HR.out).mono ?_
  rintro e w1 ⟨rfl, b1⟩
  have B1 := hide b1
  clear b1
  go_wp2_with fail
  refine (CW.out _).mono ?_
  rintro e w2 ⟨rfl, b2⟩
  have B2 := hide (bnext B1.out b2)
  have HS := hide ((HR.out.next B1.out).next b2)
  clear b2 B1
  have N0 := hide (show HasV 25 (w2.alloc (.cells zeroC 25)) w2.heap.size 0 0 (fun _ => 0) from hasV_new 25 w2 0 0 (fun _ => 0))
  go_wp2_with (first
    | (refine wpList_store_row rfl 25 (.tmp 7) (.tmp 14) rfl w2.heap.size _ rfl rfl 25 _ N0.out (info_V _ _ _) (by rw [rowV_size, rowV_size]) (rowV_one _ _ _) ?_))
  obtain ⟨w3, hw3⟩ : ∃ w3, w3 = (w2.alloc (.cells zeroC 25)).setRow w2.heap.size (rowV x 0 F) := ⟨_, rfl⟩
  have V3 := hide (show HasV 25 w3 w2.heap.size x 0 F by rw [hw3]; exact setRow_heap _ _ _ _ _ _ N0.out)
  have b3 : Below w2.heap.size w2 w3 := by rw [hw3]; exact below_setRow ((Below.refl _ w2).alloc (Nat.le_refl _) _) (Nat.le_refl _) _
  have B3 := hide (bnext B2.out b3)
  have HT := hide (HS.out.next b3)
  rw [← hw3]
  clear hw3 N0 HS B2 b3 HR
  generalize w2.heap.size = g1 at *
  refine (CM.out _ HT.out).mono ?_
  rintro e w4 ⟨rfl, b4⟩
  have V4 := hide (V3.out.next b4)
  have B4 := hide (bnext B3.out b4)
  clear b4 B3 V3 HT CM
  have N1 := hide (show HasV 25 (w4.alloc (.cells zeroC 25)) w4.heap.size 0 0 (fun _ => 0) from hasV_new 25 w4 0 0 (fun _ => 0))
  have hlt := V4.out.lt
  go_wp2_with (first
    | (refine wpList_store_row rfl 25 (.tmp 8) (.tmp 16) rfl w4.heap.size _ rfl rfl 25 _ N1.out (info_V _ _ _) (by rw [rowV_size, rowV_size]) (rowV_one _ _ _) ?_)
    | (refine wpList_load_want rfl 25 (.tmp 7) rfl g1 rfl 25 _ (0, 0) _ ((setRow_other _ _ _ _ (Nat.ne_of_lt hlt)).trans (V4.out.alloc _)) Try.underlying25 rfl (info_V _ _ _) ?_))
  obtain ⟨w5, hw5⟩ : ∃ w5, w5 = (w4.alloc (.cells zeroC 25)).setRow w4.heap.size (rowV 0 0 F) := ⟨_, rfl⟩
  have P5 := hide (show HasV 25 w5 w4.heap.size 0 0 F by rw [hw5]; exact setRow_heap _ _ _ _ _ _ N1.out)
  have V5 := hide (show HasV 25 w5 g1 x 0 F by rw [hw5]; exact (setRow_other _ _ _ _ (Nat.ne_of_lt hlt)).trans (V4.out.alloc _))
  have b5 : Below w4.heap.size w4 w5 := by rw [hw5]; exact below_setRow ((Below.refl _ w4).alloc (Nat.le_refl _) _) (Nat.le_refl _) _
  have B5 := hide (bnext B4.out b5)
  rw [← hw5]
  clear hw5 N1 B4 V4 b5 hlt
  generalize w4.heap.size = g2 at *
  refine (CD.out _).mono ?_
  rintro e w6 ⟨rfl, b6⟩
  have V6 := hide (V5.out.next b6)
  have P6 := hide (P5.out.next b6)
  have B6 := hide (bnext B5.out b6)
  clear b6 V5 P5 B5 CD hd
  go_wp2_with (first
    | (refine wpList_load_want rfl 25 (.tmp 7) rfl g1 rfl 25 _ (0, 0) _ V6.out Try.underlying25 rfl (info_V _ _ _) ?_))
  refine (CL.out _).mono ?_
  rintro e w7 ⟨rfl, b7⟩
  have V7 := hide (V6.out.next b7)
  have P7 := hide (P6.out.next b7)
  have B7 := hide (bnext B6.out b7)
  clear b7 V6 P6 B6 CL
  have hn := neq_tab F
  go_wp2_with (first
    | (refine wpList_load_want rfl 25 (.tmp 7) rfl g1 rfl 25 _ (0, 0) _ V7.out Try.underlying25 rfl (info_V _ _ _) ?_)
    | (refine wpList_mid_want rfl 23 (.tmp 35) rfl g1 2 rfl _ _ V7.out.range Try.underlying23 rfl (info_T _) ?_)
    | (refine wpList_mid_want rfl 23 (.tmp 37) rfl g2 2 rfl _ _ P7.out.range Try.underlying23 rfl (info_T _) ?_))
  refine (CC.out _).mono ?_
  rintro e w8 ⟨rfl, b8⟩
  have P8 := hide (P7.out.next b8)
  have B8 := hide (bnext B7.out b8)
  clear b8 V7 P7 B7 hn
  go_wp2_with fail
  go_ret
  exact ⟨rfl, B8.out⟩
set_option maxHeartbeats 400000 in
theorem controls_plain (c k : Int) (s : Option Addr) (len cap : Nat) (zs : List Int) (w : World) (hr : IsRow .i64 w s len cap zs) (F : Nat → Int) (x q d y g : Int) (hq : bits .and .i64 c 3 = q) (q0 : 0 ≤ q) (q3 : q < 4) (hd : ∀ w, (Instr.index 36 (.agg #[.int .i64 4, .int .i64 3, .int .i64 2, .int .i64 2]) (.int .i64 q)).run Try.prog w = .ok (.int .i64 d) w) (hy : bits .and .i64 (c / 4) 1 = y) (y0 : 0 ≤ y) (y1 : y ≤ 1) (hb : bits .and .i64 c 128 = 0) (CM : Hid (∀ w, IsRow .i64 w s len cap zs → Calls Try.prog 12 #[.int .i64 0, .int .i64 0, .slice s len cap] w fun e w' => e = .returned (.agg (rowV 0 0 F)) ∧ Below w.heap.size w w')) (CW : Hid (∀ w, Calls Try.prog 7 #[.agg (rowV 0 0 F), .int .i64 0, .int .i64 c] w fun e w' => e = .returned (.agg (rowV x 0 F)) ∧ Below w.heap.size w w')) (CD : Hid (∀ w, Calls Try.prog 11 #[.agg (rowV x 0 F)] w fun e w' => e = .returned (.int .i64 d) ∧ Below w.heap.size w w')) (CL : Hid (∀ w, Calls Try.prog 10 #[.agg (rowV x 0 F)] w fun e w' => e = .returned (.int .i64 (262 + y)) ∧ Below w.heap.size w w')) (CC : Hid (∀ w, Calls Try.prog 9 #[.agg (rowV x 0 F), .int .i64 k] w fun e w' => e = .returned (.int .i64 g) ∧ Below w.heap.size w w')) (CP : Hid (∀ w, Calls Try.prog 9 #[.agg (rowV 0 0 F), .int .i64 k] w fun e w' => e = .returned (.int .i64 g) ∧ Below w.heap.size w w')) : Calls Try.prog 6 #[.int .i64 c, .slice s len cap, .int .i64 k] w fun e w' => e = .returned (.bool true) ∧ Below w.heap.size w w' := by
  have HR := hide hr
  clear hr
  try have hzz := zero_same w (Try.zeroValue25 w)
  go_enter Try.func6, Try.ntmps6
  go_wp2_with fail
  refine (CM.out _ HR.out).mono ?_
  rintro e w1 ⟨rfl, b1⟩
  have B1 := hide b1
  clear b1
  go_wp2_with fail
  refine (CW.out _).mono ?_
  rintro e w2 ⟨rfl, b2⟩
  have B2 := hide (bnext B1.out b2)
  have HS := hide ((HR.out.next B1.out).next b2)
  clear b2 B1
  have N0 := hide (show HasV 25 (w2.alloc (.cells zeroC 25)) w2.heap.size 0 0 (fun _ => 0) from hasV_new 25 w2 0 0 (fun _ => 0))
  go_wp2_with (first
    | (refine wpList_store_row rfl 25 (.tmp 7) (.tmp 14) rfl w2.heap.size _ rfl rfl 25 _ N0.out (info_V _ _ _) (by rw [rowV_size, rowV_size]) (rowV_one _ _ _) ?_))
  obtain ⟨w3, hw3⟩ : ∃ w3, w3 = (w2.alloc (.cells zeroC 25)).setRow w2.heap.size (rowV x 0 F) := ⟨_, rfl⟩
  have V3 := hide (show HasV 25 w3 w2.heap.size x 0 F by rw [hw3]; exact setRow_heap _ _ _ _ _ _ N0.out)
  have b3 : Below w2.heap.size w2 w3 := by rw [hw3]; exact below_setRow ((Below.refl _ w2).alloc (Nat.le_refl _) _) (Nat.le_refl _) _
  have B3 := hide (bnext B2.out b3)
  have HT := hide (HS.out.next b3)
  rw [← hw3]
  clear hw3 N0 HS B2 b3 HR
  generalize w2.heap.size = g1 at *
  refine (CM.out _ HT.out).mono ?_
  rintro e w4 ⟨rfl, b4⟩
  have V4 := hide (V3.out.next b4)
  have B4 := hide (bnext B3.out b4)
  clear b4 B3 V3 HT CM
  have N1 := hide (show HasV 25 (w4.alloc (.cells zeroC 25)) w4.heap.size 0 0 (fun _ => 0) from hasV_new 25 w4 0 0 (fun _ => 0))
  have hlt := V4.out.lt
  go_wp2_with (first
    | (refine wpList_store_row rfl 25 (.tmp 8) (.tmp 16) rfl w4.heap.size _ rfl rfl 25 _ N1.out (info_V _ _ _) (by rw [rowV_size, rowV_size]) (rowV_one _ _ _) ?_)
    | (refine wpList_load_want rfl 25 (.tmp 7) rfl g1 rfl 25 _ (0, 0) _ ((setRow_other _ _ _ _ (Nat.ne_of_lt hlt)).trans (V4.out.alloc _)) Try.underlying25 rfl (info_V _ _ _) ?_))
  obtain ⟨w5, hw5⟩ : ∃ w5, w5 = (w4.alloc (.cells zeroC 25)).setRow w4.heap.size (rowV 0 0 F) := ⟨_, rfl⟩
  have P5 := hide (show HasV 25 w5 w4.heap.size 0 0 F by rw [hw5]; exact setRow_heap _ _ _ _ _ _ N1.out)
  have V5 := hide (show HasV 25 w5 g1 x 0 F by rw [hw5]; exact (setRow_other _ _ _ _ (Nat.ne_of_lt hlt)).trans (V4.out.alloc _))
  have b5 : Below w4.heap.size w4 w5 := by rw [hw5]; exact below_setRow ((Below.refl _ w4).alloc (Nat.le_refl _) _) (Nat.le_refl _) _
  have B5 := hide (bnext B4.out b5)
  rw [← hw5]
  clear hw5 N1 B4 V4 b5 hlt
  generalize w4.heap.size = g2 at *
  refine (CD.out _).mono ?_
  rintro e w6 ⟨rfl, b6⟩
  have V6 := hide (V5.out.next b6)
  have P6 := hide (P5.out.next b6)
  have B6 := hide (bnext B5.out b6)
  clear b6 V5 P5 B5 CD hd
  go_wp2_with (first
    | (refine wpList_load_want rfl 25 (.tmp 7) rfl g1 rfl 25 _ (0, 0) _ V6.out Try.underlying25 rfl (info_V _ _ _) ?_))
  refine (CL.out _).mono ?_
  rintro e w7 ⟨rfl, b7⟩
  have V7 := hide (V6.out.next b7)
  have P7 := hide (P6.out.next b7)
  have B7 := hide (bnext B6.out b7)
  clear b7 V6 P6 B6 CL
  have hn := neq_tab F
  go_wp2_with (first
    | (refine wpList_load_want rfl 25 (.tmp 7) rfl g1 rfl 25 _ (0, 0) _ V7.out Try.underlying25 rfl (info_V _ _ _) ?_)
    | (refine wpList_mid_want rfl 23 (.tmp 35) rfl g1 2 rfl _ _ V7.out.range Try.underlying23 rfl (info_T _) ?_)
    | (refine wpList_mid_want rfl 23 (.tmp 37) rfl g2 2 rfl _ _ P7.out.range Try.underlying23 rfl (info_T _) ?_))
  refine (CC.out _).mono ?_
  rintro e w8 ⟨rfl, b8⟩
  have P8 := hide (P7.out.next b8)
  have B8 := hide (bnext B7.out b8)
  clear b8 V7 P7 B7 hn
  go_wp2_with (first
    | (refine wpList_load_want rfl 25 (.tmp 8) rfl g2 rfl 25 _ (0, 0) _ P8.out Try.underlying25 rfl (info_V _ _ _) ?_))
  refine (CP.out _).mono ?_
  rintro e w9 ⟨rfl, b9⟩
  go_wp2_with fail
  go_ret
  exact ⟨rfl, bnext B8.out b9⟩
theorem vceControls_walk (a0 : Int) (a1 : Option Addr) (len1 cap1 : Nat) (z1 : List Int) (a2 : Int) (w : World) (w0 : (Lit.int .i64 a0).wf = true) (w1 : IsRow .i64 w a1 len1 cap1 z1) (w2 : (Lit.int .i64 a2).wf = true) : Calls Try.prog 6 #[.int .i64 a0, .slice a1 len1 cap1, .int .i64 a2] w fun e w' => e = .returned (.bool true) ∧ Below w.heap.size w w' := by
  obtain ⟨F, hF⟩ : ∃ F, F = madeTo z1 (min len1 512) := ⟨_, rfl⟩
  obtain ⟨x, hx⟩ : ∃ x, a0 % 256 = x := ⟨_, rfl⟩
  have CM := hide (fun w (h : IsRow .i64 w a1 len1 cap1 z1) => made_any 0 0 a1 len1 cap1 z1 w h)
  rw [← hF] at CM
  have CW := hide (write_0 0 0 a0 x F 0 rfl hx)
  have CD := hide (dot_any x 0 F)
  have CL := hide (lines_any x 0 F)
  have hy : bitOf x 2 = a0 / 4 % 2 := by rw [bit_2]; omega
  have h7 : bitOf x 7 = a0 / 128 % 2 := by rw [bit_7]; omega
  rw [hy] at CL
  have hb := and_128 a0
  have hq : bits .and .i64 a0 3 = a0 % 4 := and_3 a0
  have hl := and_1 (a0 / 4)
  have hdot : dotOf x = dotOf a0 := by unfold dotOf; rw [show x % 4 = a0 % 4 by omega]
  rw [hdot] at CD
  have hd : ∀ w, (Instr.index 36 (.agg #[.int .i64 4, .int .i64 3, .int .i64 2, .int .i64 2]) (.int .i64 (a0 % 4))).run Try.prog w = .ok (.int .i64 (dotOf a0)) w := by
    intro w
    unfold dotOf
    obtain ⟨q, hq, q0, q1⟩ : ∃ q, a0 % 4 = q ∧ 0 ≤ q ∧ q < 4 := ⟨_, rfl, by omega, by omega⟩
    rw [hq]
    have hc : q = 0 ∨ q = 1 ∨ q = 2 ∨ q = 3 := by omega
    rcases hc with rfl | rfl | rfl | rfl
    all_goals rfl
  have h01 : a0 / 128 % 2 = 0 ∨ a0 / 128 % 2 = 1 := by omega
  obtain ⟨t, ht, t0, t1⟩ : ∃ t, F (a2 % 512).toNat % 512 = t ∧ 0 ≤ t ∧ t < 512 := ⟨_, rfl, by omega, by omega⟩
  have CC := hide (colour_does x 0 F a2)
  rw [h7, ht] at CC
  rcases h01 with h | h
  · rw [h] at CC hb
    have CP := hide (colour_does 0 0 F a2)
    rw [ht] at CP
    exact controls_plain a0 a2 a1 len1 cap1 z1 w w1 F x _ _ _ t hq (by omega) (by omega) hd hl (by omega) (by omega) hb CM CW CD CL CC CP
  · rw [h] at CC hb
    have g := grey_le t t0 t1
    have g7 : colOf t true % 73 = 0 := by rw [← Int.tmod_eq_emod_of_nonneg g.1]; exact grey_73 t
    exact controls_grey a0 a2 a1 len1 cap1 z1 w w1 F x _ _ _ (colOf t true) hq (by omega) (by omega) hd hl (by omega) (by omega) hb g.1 g.2 g7 CM CW CD CL CC

set_option maxRecDepth 100000 in
theorem vceControls_lifted (os : Os) (started : os.Started) (H : Type) (enc : TypeId × Value → H) :
    ReturnsInHanded {} Try.checked os 6 .any (Rows.vceControlsSpec.pre6 enc Try.prog Try.f6 Rows.vceControlsRow.domain false) (Rows.vceControlsSpec.post enc Try.prog Try.f6 false true false false) := by
  refine returnsInHanded_of_change (C := Try.checked) own started (by kernel_rfl) Try.func6
    (ChangeSpec.witness6 (enc := enc) (C := Try.checked) false ⟨#[], #[.int .i64 0, .slice none 0 0, .int .i64 0], []⟩ 8 (by kernel_rfl) (by kernel_rfl) (by kernel_rfl) (by kernel_rfl)) ?_
  intro W base args ds gs before hval0 hW hcnd _
  have hval : ∀ (j : Nat) t v, Try.f6.params[j]? = some t → args[j]? = some v → Value.okWide Try.prog W .any base t v := hval0
  have hW' := hW
  obtain ⟨p, q, hA0, hV, rfl, hfz, hnd⟩ := hW
  have hA : DataW.TrodAll enc Try.prog W 0 (fun _ => true) true Try.f6.params.toList args.toList ds p := hA0
  rw [Try.params6] at hA hval
  obtain ⟨v0, vs0, d0, ds0, p0, q0, hargs, rfl, rfl, h0, r0⟩ := trodAll_cons hA
  obtain ⟨v1, vs1, d1, ds1, p1, q1, rfl, rfl, rfl, h1, r1⟩ := trodAll_cons r0
  obtain ⟨v2, vs2, d2, ds2, p2, q2, rfl, rfl, rfl, h2, r2⟩ := trodAll_cons r1
  obtain ⟨rfl, rfl, rfl⟩ := trodAll_nil r2
  obtain rfl : args = #[v0, v1, v2] := by cases args; simp_all
  obtain ⟨rfl, rfl⟩ := trodVars_none hV
  obtain ⟨a0, rfl, rfl, rfl, w0⟩ := open_int Try.underlying3 (hval 0 3 v0 rfl rfl) h0
  obtain ⟨a1, len1, cap1, rfl⟩ := okWide_slice Try.underlying22 (hval 1 22 v1 rfl rfl)
  have k1 := h1
  have lt1 : ∀ x ∈ p1, x.block < W.heap.size := by obtain ⟨m, hm⟩ := k1; exact DataW.trod_lt m _ _ _ hm
  obtain ⟨z1, w1⟩ : ∃ zs, IsRow .i64 W a1 len1 cap1 zs := by
    obtain ⟨fuel, hf⟩ := h1
    rcases open_ints Try.underlying22 Try.underlying3 (by kernel_rfl) hf with ⟨hcs, _⟩ | ⟨x, l, c, zs, hcs, _, hl, hm, hz, _, hcell, hwz⟩
    · simp [Value.cells] at hcs
      obtain ⟨rfl, rfl, rfl⟩ := hcs
      exact ⟨[], .inl ⟨rfl, rfl, rfl, rfl⟩⟩
    · simp [Value.cells] at hcs
      obtain ⟨rfl, rfl, rfl⟩ := hcs
      exact ⟨zs, .inr ⟨_, rfl, hl, hm, by simpa using hz, hcell, hwz⟩⟩
  obtain ⟨a2, rfl, rfl, rfl, w2⟩ := open_int Try.underlying3 (hval 2 3 v2 rfl rfl) h2
  clear hA0 hval0
  refine (vceControls_walk a0 a1 len1 cap1 z1 a2 W w0 w1 w2).mono fun e W' ⟨he, bel⟩ => ?_
  subst he
  exact ⟨_, rfl, _, _, _, [], _, [], hW', trodAll_mk1 (shut_bool Try.underlying4 _), (trodAll_cons_mk (shut_int Try.underlying3 w0) (trodAll_cons_mk (Below.trod laidOut (by kernel_rfl) (of_decide_eq_true (by kernel_rfl)) k1 bel lt1) (trodAll_cons_mk (shut_int Try.underlying3 w2) trodAll_mk0))), rfl, bel.frame _, fun h => by cases h⟩

theorem vceControls_over : Rows.vceControlsRow.holds Try.pinned (OpenSpec.ofChange Rows.vceControlsSpec) :=
  OpenClaim.holds_of_wide 6 Try.f6 rfl rfl rfl rfl rfl rfl rfl ⟨rfl, rfl, rfl, rfl, rfl⟩ rfl rfl rfl rfl rfl (by kernel_rfl) Try.func6 (by kernel_rfl)
    (of_decide_eq_true (by kernel_rfl)) (by unfold Func.isWrapper; first | (rw [if_pos (by decide +kernel)]; kernel_rfl) | (rw [if_neg (by decide +kernel)]; exact ⟨rfl, rfl⟩))
    (fun os started H enc _ => vceControls_lifted os started H enc)

theorem vceControls_holds : Rows.VceControlsSaid := vceControls_over
#print axioms vceControls_holds

end Go.Proofs.Ytlphndfkjmellaa
