/- Package psg: what a voice says, what is heard of all, the frequency that is swayed, and how all go on. -/
import Derived.Test.YtcpilhbinkamiaaDoorVoice22
namespace Go.Proofs.YtcpilhbinkamiaaDoor
open Go.RowKit
set_option linter.unusedVariables false

theorem value_any {w : World} {b : Nat} {f A P : Nat → Int} (h : HasF 53 w b 288 (vrow f A P)) {k : Nat} (hk : k < 6) (ok : okP f) : Calls Tryd.prog 38 #[.pointer (some ⟨b, k * 48, none⟩)] w fun e w' => e = Ending.returned (.int .i64 (valK f k)) ∧ Below w.heap.size w w' := by
  obtain ⟨x0, x1, x2, x3, x4, x5, x6, x7, x8⟩ := ok.chan hk
  have cd := v_dr h hk
  have cn := v_ny h hk
  rcases hd : drOf f k with _ | _
  · rw [hd] at cd
    rcases hn : nyOf f k with _ | _
    · rw [hn] at cn
      have c0 := v_cell h hk 36 (by decide) (by decide)
      have c1 := v_cell h hk (4 + (ch f k 36).toNat) (by omega) (by omega)
      have HQ : Hid (valK f k = ch f k (4 + (ch f k 36).toNat)) := hide (by unfold valK; rw [hd, hn]; rfl)
      rw [show k * 48 + 2 + (4 + (ch f k 36).toNat) = k * 48 + 2 + 4 + (ch f k 36).toNat by omega] at c1
      clear h hd hn x8
      generalize ch f k (4 + (ch f k 36).toNat) = v at *
      generalize ch f k 36 = ix at *
      generalize k * 48 = o at *
      go_enter Tryd.func38, Tryd.ntmps38
      go_wp2_with fail
      go_quiet (fail)
      go_wp2_with fail
      go_ret
      exact ⟨ret_int HQ.out.symm, below_drew (Below.refl _ _) _⟩
    · rw [hn] at cn
      have c0 := v_cell h hk 38 (by decide) (by decide)
      have HQ : Hid (valK f k = 31 * (ch f k 38 % 2)) := hide (by unfold valK; rw [hd, hn]; rfl)
      have es : ((stOf (ch f k 38) : Nat) : Int) = ch f k 38 := by
        have e := stOf_same (s := (ch f k 38).toNat) (by omega) (by omega)
        rw [show (((ch f k 38).toNat : Nat) : Int) = ch f k 38 by omega] at e
        rw [e]
        omega
      have KO := hide (fun w => out_any (ch f k 38) w)
      rw [es] at KO
      clear h hd hn x8 es
      generalize ch f k 38 = rn at *
      generalize k * 48 = o at *
      go_enter Tryd.func38, Tryd.ntmps38
      go_wp2_with (go_at_call 53; refine (KO.out _).mono ?_; rintro e w' ⟨rfl, hw⟩; subst w')
      go_ret
      exact ⟨ret_int HQ.out.symm, Below.refl _ _⟩
  · rw [hd] at cd
    have c0 := v_cell h hk 39 (by decide) (by decide)
    have HQ : Hid (valK f k = ch f k 39) := hide (by unfold valK; rw [hd]; rfl)
    clear h hd x8
    generalize ch f k 39 = v at *
    generalize k * 48 = o at *
    go_enter Tryd.func38, Tryd.ntmps38
    go_wp2_with fail
    go_ret
    exact ⟨ret_int HQ.out.symm, Below.refl _ _⟩

theorem swayed_any {w : World} {b : Nat} {f A P : Nat → Int} (h : HasF 53 w b 288 (vrow f A P)) (ok : okP f) (h0 : lfoOf f ≠ 0) : Calls Tryd.prog 37 #[.pointer (some ⟨b, 0, none⟩), .int .i64 (lfoOf f)] w fun e w' => e = Ending.returned (.int .i64 (frq f)) ∧ Below w.heap.size w w' := by
  obtain ⟨x0, x1, x2, x3, x4, x5, x6, x7, x8⟩ := ok.chan (k := 1) (by decide)
  have y0 := (ok.chan (k := 0) (by decide)).1
  have hl := lfoOf_in ok
  have c0 := v_cell h (k := 1) (by decide) 36 (by decide) (by decide)
  have c1 := v_cell h (k := 1) (by decide) (4 + (ch f 1 36).toNat) (by omega) (by omega)
  have c2 := v_cell h (k := 0) (by decide) 0 (by decide) (by decide)
  have w8 := x8 (ch f 1 36).toNat (by omega)
  have HQ := hide (show frq f = (ch f 0 0 + (ch f 1 (4 + (ch f 1 36).toNat) - 16) * 4 ^ (lfoOf f - 1).toNat) % 4096 from rfl)
  rw [show 1 * 48 + 2 + (4 + (ch f 1 36).toNat) = 54 + (ch f 1 36).toNat by omega] at c1
  rw [show 1 * 48 + 2 + 36 = 86 by rfl] at c0
  rw [show 0 * 48 + 2 + 0 = 2 by rfl] at c2
  have HH := hide h.lt
  clear h x8
  generalize ch f 1 (4 + (ch f 1 36).toNat) = v at *
  generalize ch f 1 36 = ix at *
  generalize ch f 0 0 = fr at *
  generalize lfoOf f = m at *
  obtain ⟨N, hN⟩ : ∃ N : Nat, m = (N : Int) + 1 := ⟨(m - 1).toNat, by omega⟩
  have hN2 : N ≤ 2 := by omega
  rw [show (m - 1).toNat = N by omega] at HQ
  subst hN
  have HM := hide (fun d : Int => mask_4095 (fr + d))
  clear hl h0
  go_enter Tryd.func37, Tryd.ntmps37
  go_wp2_with fail
  go_quiet (fail)
  go_wp2_with fail
  go_loopw [6, 23] (fun d i w' => ∃ j : Nat, j ≤ N ∧ i = .int .i64 j ∧ d = .int .i64 ((v - 16) * 4 ^ j) ∧ w' = w.drewN nq) (fun _ i _ => N - (intOf i).toNat)
  case atStart => exact ⟨0, Nat.zero_le _, rfl, by rw [Int.pow_zero, Int.mul_one], rfl⟩
  case round =>
    obtain ⟨j, hj, rfl, rfl, hw⟩ := hrel
    by_cases hlt : j < N
    · have e4 : (v - 16) * 4 ^ (j + 1) = (v - 16) * 4 ^ j * 4 := by rw [Int.pow_succ, Int.mul_assoc]
      have hb : -64 ≤ (v - 16) * 4 ^ j ∧ (v - 16) * 4 ^ j ≤ 64 := by
        rcases (show j = 0 ∨ j = 1 by omega) with rfl | rfl
        · rw [Int.pow_zero]; omega
        · rw [Int.pow_succ, Int.pow_zero]; omega
      have HE := hide e4
      clear e4
      generalize (v - 16) * 4 ^ j = d at *
      go_wp2_with fail
      exact ⟨⟨j + 1, by omega, by go_num, by rw [HE.out], trivial⟩, by simp [intOf]; omega⟩
    · obtain rfl : j = N := by omega
      have hb : -256 ≤ (v - 16) * 4 ^ j ∧ (v - 16) * 4 ^ j ≤ 256 := by
        rcases (show j = 0 ∨ j = 1 ∨ j = 2 by omega) with rfl | rfl | rfl
        · rw [Int.pow_zero]; omega
        · rw [Int.pow_succ, Int.pow_zero]; omega
        · rw [Int.pow_succ, Int.pow_succ, Int.pow_zero]; omega
      have m := HM.out ((v - 16) * 4 ^ j)
      have c3 : wr.cell? ⟨b, 2, none⟩ = some (.int .i64 fr) := by rw [hw]; exact c2
      have HB : Hid (Below w.heap.size w wr) := hide (by rw [hw]; exact below_drew (Below.refl _ _) _)
      clear hw c0 c1 c2
      generalize (v - 16) * 4 ^ j = d at *
      go_wp2_with fail
      go_ret
      exact ⟨ret_int (by rw [HQ.out]), HB.out⟩

theorem pair_0 (x y : Int) (w : World) : (Instr.index 40 (.agg #[.int .i64 x, .int .i64 y]) (.int .i64 0)).run Tryd.prog w = .ok (.int .i64 x) w := by kernel_rfl
theorem pair_1 (x y : Int) (w : World) : (Instr.index 40 (.agg #[.int .i64 x, .int .i64 y]) (.int .i64 1)).run Tryd.prog w = .ok (.int .i64 y) w := by kernel_rfl
def Smp (w : World) (g : Nat) (x y : Int) : Prop := w.heap[g]? = some (.cells #[.int .i64 x, .int .i64 y] 40 (0, 0))
theorem Smp.c0 {w : World} {g : Nat} {x y : Int} (h : Smp w g x y) : w.cell? ⟨g, 0, none⟩ = some (.int .i64 x) := (cell_of_row w g 0 _ _ _ h).trans rfl
theorem Smp.c1 {w : World} {g : Nat} {x y : Int} (h : Smp w g x y) : w.cell? ⟨g, 1, none⟩ = some (.int .i64 y) := (cell_of_row w g 1 _ _ _ h).trans rfl
theorem Smp.frozen {w : World} {g : Nat} {x y : Int} (h : Smp w g x y) (j : Nat) : w.frozen? ⟨g, j, none⟩ = false := frozen_of_row w g j _ _ h
theorem Smp.next {w w' : World} {g : Nat} {x y : Int} (h : Smp w g x y) (k : Below w.heap.size w w') : Smp w' g x y := (k.block g (lt_of_block h)).trans h
theorem Smp.set0 {w : World} {g : Nat} {x y : Int} (h : Smp w g x y) (v : Int) : Smp (w.setCell ⟨g, 0, none⟩ (.int .i64 v)) g v y := heap_setCell_same w g 0 _ _ (.int .i64 v) h
theorem Smp.set1 {w : World} {g : Nat} {x y : Int} (h : Smp w g x y) (v : Int) : Smp (w.setCell ⟨g, 1, none⟩ (.int .i64 v)) g x v := heap_setCell_same w g 1 _ _ (.int .i64 v) h
theorem set_below {B : Nat} {w a : World} {g : Nat} (h : Below B w a) (hg : B ≤ g) (o : Nat) (v : Value) : Below B w (a.setCell ⟨g, o, none⟩ v) := Below.setCell (p := ⟨g, o, none⟩) h hg _
theorem sum_any {w : World} {b : Nat} {f A P : Nat → Int} (h : HasF 53 w b 288 (vrow f A P)) (ok : okP f) : Calls Tryd.prog 19 #[.pointer (some ⟨b, 0, none⟩)] w fun e w' => e = Ending.returned (.agg #[.int .i64 (leftOf f), .int .i64 (rightOf f)]) ∧ Below w.heap.size w w' := by
  have HO := hide ok
  have HH := hide h
  have HL := hide h.lt
  clear ok h
  go_enter Tryd.func19, Tryd.ntmps19
  go_wp2_with fail
  refine under_name fun wa hwa => ?_
  obtain ⟨n0, n1, n2, n3⟩ := two_named hwa
  have R0 := hide n0
  have S0 : Hid (Smp wa (w.heap.size + 1) (sumTo (leftK f) 0) (sumTo (rightK f) 0)) := hide n1
  have BA := hide n3
  clear n0 n1 n2 n3 hwa
  generalize hg : w.heap.size = g0 at *
  go_loopw [9] (fun i w' => ∃ k : Nat, k ≤ 6 ∧ i = .int .i64 k ∧ Smp w' (g0 + 1) (sumTo (leftK f) k) (sumTo (rightK f) k) ∧ w'.heap[g0]? = some (.cells #[.int .i64 0, .int .i64 0] 40 (0, 0)) ∧ Below g0 w w') (fun i _ => 6 - (intOf i).toNat)
  case atStart => exact ⟨0, by decide, rfl, S0.out, R0.out, BA.out⟩
  case round =>
    clear S0 R0 BA
    obtain ⟨k, hk, rfl, hs, hr, hb⟩ := hrel
    have S1 := hide hs
    have R1 := hide hr
    have B1 := hide hb
    by_cases hlt : k < 6
    · have H1 : Hid (HasF 53 wr b 288 (vrow f A P)) := hide (HH.out.next (by rw [hg]; exact hb))
      have ch := v_he H1.out hlt
      clear hs hr hb
      rcases hh : heOf f k with _ | _
      · have E1 : Hid (sumTo (leftK f) (k + 1) = sumTo (leftK f) k) := hide (by simp only [sumTo, leftK, hh]; simp)
        have E2 : Hid (sumTo (rightK f) (k + 1) = sumTo (rightK f) k) := hide (by simp only [sumTo, rightK, hh]; simp)
        rw [hh] at ch
        go_wp2_with fail
        exact ⟨⟨k + 1, by omega, by go_num, by rw [E1.out, E2.out]; exact S1.out, R1.out, B1.out⟩, by simp [intOf]; omega⟩
      · have E1 : Hid (sumTo (leftK f) (k + 1) = sumTo (leftK f) k + (valK f k - 16) * glOf f k) := hide (by simp only [sumTo, leftK, hh]; simp)
        have E2 : Hid (sumTo (rightK f) (k + 1) = sumTo (rightK f) k + (valK f k - 16) * grOf f k) := hide (by simp only [sumTo, rightK, hh]; simp)
        rw [hh] at ch
        have KV := hide (value_any H1.out hlt HO.out)
        have v0 := valK_in HO.out hlt
        have gl0 : 0 ≤ glOf f k ∧ glOf f k ≤ 1024 := gain_in _ _ _
        have gr0 : 0 ≤ grOf f k ∧ grOf f k ≤ 1024 := gain_in _ _ _
        have pl := prod_in (a := valK f k - 16) (by omega) (by omega) gl0.1 gl0.2
        have pr := prod_in (a := valK f k - 16) (by omega) (by omega) gr0.1 gr0.2
        have sl := sumTo_in (g := leftK f) k fun j hj => leftK_in HO.out (by omega)
        have sr := sumTo_in (g := rightK f) k fun j hj => rightK_in HO.out (by omega)
        have VL := hide (fun (u : World) (hu : HasF 53 u b 288 (vrow f A P)) => v_gl hu hlt)
        have VR := hide (fun (u : World) (hu : HasF 53 u b 288 (vrow f A P)) => v_gr hu hlt)
        clear hh
        generalize valK f k = v at *
        generalize glOf f k = gl at *
        generalize grOf f k = gr at *
        generalize sumTo (leftK f) k = L at *
        generalize sumTo (rightK f) k = R at *
        go_wp2_with (first
          | (go_at_call 38; refine KV.out.mono ?_; rintro e w2 ⟨rfl, b2⟩; have S2 := hide (S1.out.next b2); have R2 := hide ((b2.block g0 (lt_of_block R1.out)).trans R1.out); have B2 : Hid (Below g0 w w2) := hide (B1.out.trans (b2.mono (by have := B1.out.size; omega))); have c46 := VL.out _ (H1.out.next b2); have c47 := VR.out _ (H1.out.next b2); clear b2))
        have hd : decide ((k : Int) < 6) = true := by simp; omega
        try simp only [hd]
        go_loopw [28] (fun i w' => ∃ x y : Int, ((i = .int .i64 0 ∧ x = L ∧ y = R) ∨ (i = .int .i64 1 ∧ x = L + (v - 16) * gl ∧ y = R) ∨ (i = .int .i64 2 ∧ x = L + (v - 16) * gl ∧ y = R + (v - 16) * gr)) ∧ Smp w' (g0 + 1) x y ∧ w'.heap[g0]? = some (.cells #[.int .i64 0, .int .i64 0] 40 (0, 0)) ∧ Below g0 w w') (fun i _ => 2 - (intOf i).toNat)
        case atStart => exact ⟨L, R, .inl ⟨rfl, rfl, rfl⟩, S2.out, R2.out, B2.out⟩
        case round =>
          clear S2 R2 B2 c46 c47 KV VL VR
          obtain ⟨x, y, hxy, hs, hr, hb⟩ := hrel
          have S3 := hide hs
          have R3 := hide hr
          have B3 := hide hb
          have d0 := hs.c0
          have d1 := hs.c1
          have z0 := hs.frozen 0
          have z1 := hs.frozen 1
          clear hs hr hb
          rcases hxy with ⟨rfl, hx, hy⟩ | ⟨rfl, hx, hy⟩ | ⟨rfl, hx, hy⟩
          · rw [hx] at d0 S3
            rw [hy] at d1 S3
            clear hx hy
            have i0 := pair_0 gl gr
            have i1 := pair_1 gl gr
            go_wp2_with fail
            exact ⟨⟨L + (v - 16) * gl, R, .inr (.inl ⟨rfl, rfl, rfl⟩), S3.out.set0 _, (heap_setCell_other _ _ _ _ (by simp)).trans R3.out, set_below B3.out (Nat.le_succ _) _ _⟩, by simp [intOf]⟩
          · rw [hx] at d0 S3
            rw [hy] at d1 S3
            clear hx hy
            have i0 := pair_0 gl gr
            have i1 := pair_1 gl gr
            go_wp2_with fail
            exact ⟨⟨L + (v - 16) * gl, R + (v - 16) * gr, .inr (.inr ⟨rfl, rfl, rfl⟩), S3.out.set1 _, (heap_setCell_other _ _ _ _ (by simp)).trans R3.out, set_below B3.out (Nat.le_succ _) _ _⟩, by simp [intOf]⟩
          · rw [hx] at d0 S3
            rw [hy] at d1 S3
            clear hx hy
            go_wp2_with fail
            exact ⟨⟨k + 1, by omega, by go_num, by rw [E1.out, E2.out]; exact S3.out, R3.out, B3.out⟩, by simp [intOf]; omega⟩
    · obtain rfl : k = 6 := by omega
      have E1 : Hid (leftOf f = sumTo (leftK f) 6 ∧ rightOf f = sumTo (rightK f) 6) := hide ⟨rfl, rfl⟩
      clear hs hr hb
      generalize sumTo (leftK f) 6 = L at *
      generalize sumTo (rightK f) 6 = R at *
      go_wp2_with (first
        | (refine wpList_load_row rfl 40 (.tmp 3) rfl (g0 + 1) rfl _ _ _ _ S1.out Tryd.underlying40 rfl (by kernel_rfl) ?_)
        | (refine wpList_store_row rfl 40 (.tmp 2) (.tmp 42) rfl g0 _ rfl rfl 40 _ R1.out (by kernel_rfl) rfl (by kernel_rfl) ?_))
      refine bodyPost_ret (results_cell_row rfl _ _ g0 40 _ (0, 0) _ rfl (setRow_heap _ _ _ _ _ _ R1.out) Tryd.underlying40 rfl (by kernel_rfl)) rfl ?_
      subst hg
      exact ⟨by rw [E1.out.1, E1.out.2], below_setRow B1.out (Nat.le_refl _) _⟩
end Go.Proofs.YtcpilhbinkamiaaDoor
