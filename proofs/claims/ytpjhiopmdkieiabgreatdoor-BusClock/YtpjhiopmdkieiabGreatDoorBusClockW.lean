/- The walk of BusClock. -/
import Derived.Test.YtpjhiopmdkieiabGreatDoorBus24c
import Derived.Test.YtpjhiopmdkieiabGreatDoorPlainAlu
import Derived.Test.YtpjhiopmdkieiabGreatDoorBusLaid
namespace Go.Proofs.YtpjhiopmdkieiabGreatDoor
open Go.Proofs.YtpjhiopmdkieiabGreatDoor.B4 Go.Proofs.YtpjhiopmdkieiabGreatDoor.C3 Go.Proofs.YtpjhiopmdkieiabGreatDoor.G6 Go.Proofs.YtpjhiopmdkieiabGreatDoor.I11 Go.Proofs.YtpjhiopmdkieiabGreatDoor.J23 Go.Proofs.YtpjhiopmdkieiabGreatDoor.L24 Go.Proofs.YtpjhiopmdkieiabGreatDoor.M5 Go.Proofs.YtpjhiopmdkieiabGreatDoor.P22 Go.Proofs.YtpjhiopmdkieiabGreatDoor.R15 Go.Proofs.YtpjhiopmdkieiabGreatDoor.T10 Go.Proofs.YtpjhiopmdkieiabGreatDoor.V12 Go.Proofs.YtpjhiopmdkieiabGreatDoor.W13
open Go.RowKit
set_option linter.unusedVariables false
/-! ### Numbers -/
theorem clock_go (r t : Int) (r0 : 0 ≤ r) (r1 : r ≤ 127) (t0 : 0 ≤ t) (t1 : t < 1048576) : cT r r true 0 t = r - t / 3072 % (r + 1) ∧ kT r r true 0 t = t / 3072 / (r + 1) := by
  have h1 : rndOf r r (t / 3072) = t / 3072 / (r + 1) := by
    unfold rndOf
    rw [show t / 3072 - r + r = t / 3072 by omega, Int.max_eq_right (by omega)]
  have h2 : cntOf r r (t / 3072) = r - t / 3072 % (r + 1) := by
    unfold cntOf
    rw [h1]
    have e := Int.mul_ediv_add_emod (t / 3072) (r + 1)
    have e2 : t / 3072 / (r + 1) * (r + 1) = (r + 1) * (t / 3072 / (r + 1)) := Int.mul_comm _ _
    omega
  by_cases h : 1 ≤ t
  · have g : goT r r true 0 t = true := by
      unfold goT okT T10.preOf
      simp
      omega
    unfold cT kT
    rw [if_pos g, if_pos g, Int.add_zero]
    exact ⟨h2, h1⟩
  · obtain rfl : t = 0 := by omega
    have g : goT r r true 0 0 = false := by
      unfold goT
      simp
    unfold cT kT
    rw [g]
    simp
theorem u_two (n : Int) : bits .and .i64 n 128 = 0 ∨ bits .and .i64 n 128 = 128 := by
  have h := and_low n 128 (by unfold IsByte; omega)
  rw [h]
  exact fin_byte (P := fun x => andB x 128 = 0 ∨ andB x 128 = 128) (by decide +kernel) n
theorem u_same (n : Int) : bits .and .i64 (n % 256) 128 = bits .and .i64 n 128 := by
  rw [and_low _ 128 (by unfold IsByte; omega), and_low n 128 (by unfold IsByte; omega), Int.emod_emod_of_dvd _ (Int.dvd_refl _)]
theorem u_join (u c : Int) (hu : u = 0 ∨ u = 128) (c0 : 0 ≤ c) (c1 : c ≤ 127) : bits .or .i64 u c = u + c ∧ bits .and .i64 (u + c) 127 = c ∧ bits .and .i64 (u + c) 128 = u := by
  refine ⟨or_add 7 u c (by omega) (by omega) (by omega) c0 (by omega) (by omega), ?_, ?_⟩
  · rw [show bits .and .i64 (u + c) 127 = (u + c) % 128 from and_mask 7 (by decide) _]
    omega
  · rw [and_low _ 128 (by unfold IsByte; omega)]
    obtain ⟨k, rfl⟩ : ∃ k : Nat, c = (k : Int) := ⟨c.toNat, by omega⟩
    have hk : k < 128 := by omega
    rcases hu with rfl | rfl
    · have q : ∀ x : Fin 128, andB ((0 + (x.val : Int)) % 256) 128 = 0 := by decide +kernel
      exact q ⟨k, hk⟩
    · have q : ∀ x : Fin 128, andB ((128 + (x.val : Int)) % 256) 128 = 128 := by decide +kernel
      exact q ⟨k, hk⟩
theorem kT_zero (r n : Int) (o : Bool) (p : Int) : kT r n o p 0 = 0 := by
  unfold kT goT
  simp
theorem mT_zero (m : Int) : mT m 0 = m := rfl
theorem lT_zero (l : Int) : lT l 0 = l := rfl
set_option maxHeartbeats 4000000 in
theorem busClock_walk (a0 a1 a2 : Int) (W : World) (w0 : (Lit.int .i64 a0).wf = true) (w1 : (Lit.int .i64 a1).wf = true) (w2 : (Lit.int .i64 a2).wf = true) (hL : Tabs W ∧ HasErr W) :
    Calls Tryz.prog 3 #[.int .i64 a0, .int .i64 a1, .int .i64 a2] W fun e w' => e = .returned (.bool true) ∧ Below W.heap.size W w' := by
  have M := hide (machine_1 hL.1 hL.2)
  obtain ⟨r, hr⟩ : ∃ r, bits .and .i64 a0 127 = r := ⟨_, rfl⟩
  have r0 : 0 ≤ r ∧ r ≤ 127 := by rw [← hr, show bits .and .i64 a0 127 = a0 % 128 from and_mask 7 (by decide) _]; omega
  obtain ⟨t, ht⟩ : ∃ t, bits .and .i64 a1 1048575 = t := ⟨_, rfl⟩
  have t0 : 0 ≤ t ∧ t < 1048576 := by rw [← ht, show bits .and .i64 a1 1048575 = a1 % 1048576 from and_mask 20 (by decide) _]; omega
  obtain ⟨y, hy⟩ : ∃ y, a2 % 256 = y := ⟨_, rfl⟩
  have HY := hide hy
  obtain ⟨u, hu⟩ : ∃ u, bits .and .i64 a2 128 = u := ⟨_, rfl⟩
  have u0 := u_two a2
  rw [hu] at u0
  have uy := u_same a2
  rw [hy, hu] at uy
  have UY := hide uy
  have CK := clock_go r t r0.1 r0.2 t0.1 t0.2
  obtain ⟨s, hs⟩ : ∃ s, t / 3072 = s := ⟨_, rfl⟩
  have s0 : 0 ≤ s ∧ s ≤ 341 := by omega
  rw [hs] at CK
  have e1 : Int.tdiv t 3072 = s := by rw [Int.tdiv_eq_ediv_of_nonneg t0.1, hs]
  obtain ⟨q, hq⟩ : ∃ q, s % (r + 1) = q := ⟨_, rfl⟩
  have q0 : 0 ≤ q ∧ q ≤ r := by
    have h1 := Int.emod_nonneg s (show r + 1 ≠ 0 by omega)
    have h2 := Int.emod_lt_of_pos s (show 0 < r + 1 by omega)
    rw [hq] at h1 h2
    omega
  have e2 : Int.tmod s (r + 1) = q := by rw [Int.tmod_eq_emod_of_nonneg s0.1, hq]
  rw [hq] at CK
  obtain ⟨K, hK⟩ : ∃ K, s / (r + 1) = K := ⟨_, rfl⟩
  have KP : 0 < K ↔ (r + 1) * 3072 ≤ t := by
    rw [← hK]
    constructor
    · intro h
      have h1 := (Int.le_ediv_iff_mul_le (show 0 < r + 1 by omega)).1 (show 1 ≤ s / (r + 1) by omega)
      omega
    · intro h
      have h1 := (Int.le_ediv_iff_mul_le (a := 1) (b := s) (show 0 < r + 1 by omega)).2 (by omega)
      omega
  rw [hK] at CK
  obtain ⟨C, hC⟩ : ∃ C, r - q = C := ⟨_, rfl⟩
  have C0 : 0 ≤ C ∧ C ≤ 127 := by omega
  rw [hC] at CK
  obtain ⟨x, hx⟩ : ∃ x, u + C = x := ⟨_, rfl⟩
  obtain ⟨j1, j2, j3⟩ := u_join u C u0 C0.1 C0.2
  rw [hx] at j1 j2 j3
  have KC := hide CK
  have J1 := hide j1
  have nz : ¬ r + 1 = 0 := by omega
  clear hL w0 w1 w2 uy CK hs hq hK hx j1 hy
  set_option maxRecDepth 20000 in
  go_enter Tryz.func3, Tryz.ntmps3
  set_option maxRecDepth 20000 in
  go_wp2_with fail
  refine M.out.mono ?_
  rintro e w1 ⟨b, v, c, d, bs, rfl, hl, x1, ⟨lb, lv⟩, b1⟩
  rw [lb_ml] at x1
  have X1 := hide x1
  have B1 := hide b1
  have NB := hide (show ∀ k, EX b v k → W.heap.size ≤ k from fun k e => by rcases e with rfl | rfl; exact lb; exact lv)
  clear x1 b1 lb lv hl M
  set_option maxRecDepth 20000 in
  go_wp2_with fail
  refine (wr_timer X1.out 2092032 0 0 r (r % 256) (by decide) (by decide) (by decide) rfl ml_12 ml_13 ml_17 ml_16 (u := tv (r % 256 % 128) 0 false 0) (fun w => T10.write_0 0 0 false 0 (r % 256) w) (tv_one _ _ _ _)).mono ?_
  rintro e w2 ⟨rfl, x2, o2⟩
  replace x2 : HasX w2 b v c d (ML v c (fun _ => 0) 0 false 0 (fun _ => .int .u8 0) (iv freshF) (tv (r % 256 % 128) 0 false 0) p0C 0 0 (r % 256) 0) bs (fun _ => 0) 0 0 1 0 0 := x2
  rw [show r % 256 % 128 = r by omega] at x2
  have X2 := hide x2
  have B2 := hide (B1.out.trans (o2.below NB.out B1.out.size))
  clear x2 o2 X1 B1
  set_option maxRecDepth 20000 in
  go_wp2_with fail
  refine (wr_timer X2.out 2092033 0 1 1 1 (by decide) (by decide) (by decide) (by decide) ml_12 ml_13 ml_17 ml_16 (u := tv r r true 0) (fun w => T10.write_1 r 0 false 0 1 true rfl w) (tv_one _ _ _ _)).mono ?_
  rintro e w3 ⟨rfl, x3, o3⟩
  replace x3 : HasX w3 b v c d (ML v c (fun _ => 0) 0 false 0 (fun _ => .int .u8 0) (iv freshF) (tv r r true 0) p0C 0 0 1 0) bs (fun _ => 0) 0 0 1 0 0 := x3
  have X3 := hide x3
  have B3 := hide (B2.out.trans (o3.below NB.out B2.out.size))
  clear x3 o3 X2 B2
  set_option maxRecDepth 20000 in
  go_wp2_with fail
  refine (wr_psg X3.out 2091008 0 0 a2 y (by decide) (by decide) (by decide) HY.out ml_11 P22.fresh_ok ml_16).mono ?_
  rintro e w4 ⟨rfl, x4, o4⟩
  replace x4 : ∃ ps, HasX w4 b v c d (ML v c (fun _ => 0) 0 false 0 (fun _ => .int .u8 0) ps (tv r r true 0) p0C 0 0 y 0) bs (fun _ => 0) 0 0 1 0 0 := ⟨_, x4⟩
  have X4 := hide x4
  have B4 := hide (B3.out.trans (o4.below NB.out B3.out.size))
  clear x4 o4 X3 B3
  obtain ⟨ps, x4⟩ := X4.out
  have KG := x4.lag ml_17 t
  have G5 := hide (show HasX (w4.setCell ⟨b, 9262, none⟩ (.int .i64 t)) b v c d (ML v c (fun _ => 0) 0 false 0 (fun _ => .int .u8 0) ps (tv r r true 0) p0C 0 0 y t) bs (fun _ => 0) 0 0 1 0 0 from KG.1)
  have O5 := hide KG.2.1
  have g3 := KG.2.2.1
  have g4 := KG.2.2.2
  clear KG x4 X4
  set_option maxRecDepth 20000 in
  go_wp2_with fail
  clear g3 g4
  have R7 := rd_timer G5.out 2092032 0 0 (by decide) (by decide) (by decide) ml_12 ml_13 ml_17 ml_16 UY.out (x := x) (by rw [KC.out.1]; exact J1.out)
  refine R7.mono ?_
  rintro e w7 ⟨rfl, x7, o7⟩
  clear R7
  obtain ⟨p, hp⟩ : ∃ p, pT r r true 0 t = p := ⟨_, rfl⟩
  replace x7 : HasX w7 b v c d (ML v c (fun _ => 0) 0 false 0 (fun _ => .int .u8 0) ps (tv r C true p) p0C (mT 0 K) (lT 0 K) x 0) bs (fun _ => 0) 0 0 1 0 0 := by
    rw [← KC.out.1, ← KC.out.2, ← hp]
    exact x7
  have B7 := hide (B4.out.trans ((O5.out.trans o7).below NB.out B4.out.size))
  obtain ⟨tt, htt⟩ : ∃ tt, tv r C true p = tt := ⟨_, rfl⟩
  rw [htt] at x7
  have TTE := hide htt
  rw [show mT 0 K = 0 by unfold mT; split <;> rfl] at x7
  clear o7 hp htt O5 G5 B4 KC J1 UY
  by_cases hk : 0 < K
  · rw [show lT 0 K = 4 by unfold lT; rw [if_pos hk]; decide] at x7
    have X7 := hide x7
    have ta := KP.1 hk
    have td : decide ((r + 1) * 3072 ≤ t) = true := by simp [ta]
    have KI := hide (fun w => I11.write_3 0 4 y w)
    clear x7 hk KP
    have cl := X7.out.lines ml_13
    have cg : w7.cell? ⟨b, 9262, none⟩ = some (.int .i64 0) := X7.out.1.get1 17 ml_17 (a := 9262) (X7.out.isB.off 17 rfl) (by decide)
    set_option maxRecDepth 20000 in
    go_wp2_with fail
    clear cl cg
    refine (rd_status X7.out 2088960 0 (by decide) (by decide) (by decide) ml_3 ml_13 (x := 0) (by decide)).mono ?_
    rintro e w8 ⟨rfl, x8, o8⟩
    replace x8 : HasX w8 b v c d (ML v c (fun _ => 0) 0 false 0 (fun _ => .int .u8 0) ps tt p0C 0 4 x 0) bs (fun _ => 0) 0 0 1 0 0 := x8
    have cl := x8.lines ml_13
    have X8 := hide x8
    have B8 := hide (B7.out.trans (o8.below NB.out B7.out.size))
    clear x8 o8 X7 B7
    set_option maxRecDepth 20000 in
    go_wp2_with fail
    clear cl
    refine (wr_irq (r := r) (n := C) (o := true) (q := p) X8.out 2094083 0 3 a2 y (by decide) (by decide) (by decide) HY.out (by rw [TTE.out]; exact ml_12) ml_13 ml_17 ml_16 (u := sv 0 0) (fun w => by rw [kT_zero, mT_zero, lT_zero]; simp only [sv_row]; exact KI.out w) (sv_one _ _)).mono ?_
    rintro e w9 ⟨rfl, x9, o9⟩
    have cl := x9.lines (k := 0) (l := 0) (set_other (set_same (setL_13 ml_13) _) _ (by decide))
    have B9 := hide (B8.out.trans (o9.below NB.out B8.out.size))
    clear x9 o9 X8 B8
    set_option maxRecDepth 20000 in
    go_wp2_with fail
    go_ret
    exact ⟨rfl, B9.out⟩
  · rw [show lT 0 K = 0 by unfold lT; rw [if_neg hk]] at x7
    have X7 := hide x7
    have ta : ¬ (r + 1) * 3072 ≤ t := fun h => hk (KP.2 h)
    have td : decide ((r + 1) * 3072 ≤ t) = false := by simp [ta]
    have KI := hide (fun w => I11.write_3 0 0 y w)
    clear x7 hk KP
    have cl := X7.out.lines ml_13
    have cg : w7.cell? ⟨b, 9262, none⟩ = some (.int .i64 0) := X7.out.1.get1 17 ml_17 (a := 9262) (X7.out.isB.off 17 rfl) (by decide)
    set_option maxRecDepth 20000 in
    go_wp2_with fail
    clear cl cg
    refine (rd_status X7.out 2088960 0 (by decide) (by decide) (by decide) ml_3 ml_13 (x := 0) (by decide)).mono ?_
    rintro e w8 ⟨rfl, x8, o8⟩
    replace x8 : HasX w8 b v c d (ML v c (fun _ => 0) 0 false 0 (fun _ => .int .u8 0) ps tt p0C 0 0 x 0) bs (fun _ => 0) 0 0 1 0 0 := x8
    have cl := x8.lines ml_13
    have X8 := hide x8
    have B8 := hide (B7.out.trans (o8.below NB.out B7.out.size))
    clear x8 o8 X7 B7
    set_option maxRecDepth 20000 in
    go_wp2_with fail
    clear cl
    refine (wr_irq (r := r) (n := C) (o := true) (q := p) X8.out 2094083 0 3 a2 y (by decide) (by decide) (by decide) HY.out (by rw [TTE.out]; exact ml_12) ml_13 ml_17 ml_16 (u := sv 0 0) (fun w => by rw [kT_zero, mT_zero, lT_zero]; simp only [sv_row]; exact KI.out w) (sv_one _ _)).mono ?_
    rintro e w9 ⟨rfl, x9, o9⟩
    have cl := x9.lines (k := 0) (l := 0) (set_other (set_same (setL_13 ml_13) _) _ (by decide))
    have B9 := hide (B8.out.trans (o9.below NB.out B8.out.size))
    clear x9 o9 X8 B8
    set_option maxRecDepth 20000 in
    go_wp2_with fail
    go_ret
    exact ⟨rfl, B9.out⟩
end Go.Proofs.YtpjhiopmdkieiabGreatDoor
