/- The document's own line of sprites, as wide as it may be: its contract. -/
import Derived.Test.YtnhjhmfiapjenaaDoorRLine18
namespace Go.Proofs.YtnhjhmfiapjenaaDoor
open Go.RowKit
set_option linter.unusedVariables false

set_option maxHeartbeats 1000000 in
theorem rline_is (mc md : Nat) (m : Nat → Int) (po rd st lo bu : Int) (w : World) (h : HasR w mc md m po rd st lo bu) (T : Nat → Int) (y : Int) (N : Nat) (hN0 : 1 ≤ N) (hN1 : N ≤ 512) : Calls Tryd.prog 25 #[.pointer (some ⟨mc, 0, none⟩), .agg (tabL T).toArray, .int .i64 y, .int .i64 (N : Int)] w fun e w' => ∃ c f : Nat, e = .returned (.tuple #[.slice (some ⟨c, 0, none⟩) N N, .slice (some ⟨f, 0, none⟩) N N, .bool (runT (wordAt m) T y 64).2.2, .bool (anyHit N (runT (wordAt m) T y 64).1)]) ∧ Shown w' c f N (runT (wordAt m) T y 64).1 ∧ Below w.heap.size w w' := by
  have HM := hide h
  clear h
  have hmk := make_ints (N : Int) (by omega) (by omega)
  simp only [Int.toNat_natCast] at hmk
  have hmb := mk_bools N (by omega)
  have hd1 : decide ((N : Int) < 1) = false := decide_eq_false (by omega)
  have hd2 : decide ((512 : Int) < N) = false := decide_eq_false (by omega)
  go_enter Tryd.func25, Tryd.ntmps25
  go_wp2_with fail
  refine under_name fun wd hwd => ?_
  obtain ⟨b0, b1, b2, b3, hs, BB⟩ := four_named hwd
  have TD := hide (show HasTb wd w.heap.size T from b0)
  have RD := hide (show Rows3 wd (w.heap.size + 1) (w.heap.size + 2) (w.heap.size + 3) N (runT (wordAt m) T y 0).1 from by
    refine ⟨⟨?_, ?_⟩, ?_⟩
    · rw [b1, valsOf_zeros]; rfl
    · rw [b2, valsOf_falses]; rfl
    · rw [b3, valsOf_falses]; rfl)
  have A0 : anyHit N (runT (wordAt m) T y 0).1 = false := anyHit_none fun x => rfl
  have BD := hide BB
  obtain ⟨z0, hz0⟩ : ∃ z, w.heap.size = z := ⟨_, rfl⟩
  obtain ⟨c, hc⟩ : ∃ z, w.heap.size + 1 = z := ⟨_, rfl⟩
  obtain ⟨f, hf⟩ : ∃ z, w.heap.size + 2 = z := ⟨_, rfl⟩
  obtain ⟨o, ho⟩ : ∃ z, w.heap.size + 3 = z := ⟨_, rfl⟩
  obtain ⟨D, hD⟩ : ∃ D, wd.heap.size = D := ⟨_, rfl⟩
  have HZ := hide (show (w.heap.size ≤ z0 ∧ w.heap.size ≤ c ∧ w.heap.size ≤ f ∧ w.heap.size ≤ o) ∧ (z0 ≠ c ∧ z0 ≠ f ∧ z0 ≠ o ∧ c ≠ f ∧ c ≠ o ∧ f ≠ o) ∧ (c < D ∧ f < D ∧ o < D ∧ z0 < D) by omega)
  have HD := hide hD
  try simp only [World.alloc_size, Nat.add_assoc]
  rw [hc, hf, ho] at RD
  rw [hz0] at TD
  rw [ho, hf, hc, hz0]
  clear hwd b0 b1 b2 b3 hs BB hz0 hc hf ho hD hmk hmb
  obtain ⟨G, hG⟩ : ∃ G, wordAt m = G := ⟨_, rfl⟩
  rw [hG] at RD A0
  have HG := hide hG
  clear hG
  have EA := hide A0
  clear A0
  go_loopw [15, 16, 17] (fun s15 s16 s17 wr => ∃ k : Nat, k ≤ 64 ∧ s17 = .int .i64 (k : Int) ∧ s15 = .bool (anyHit N (runT G T y k).1) ∧ s16 = .int .i64 (runT G T y k).2.1 ∧ (runT G T y k).2.2 = false ∧ Rows3 wr c f o N (runT G T y k).1 ∧ HasTb wr z0 T ∧ D ≤ wr.heap.size ∧ Below w.heap.size w wr) (fun _ _ s17 _ => 64 - (intOf s17).toNat)
  case atStart => exact ⟨0, Nat.zero_le _, rfl, by rw [EA.out], rfl, rfl, RD.out, TD.out, Nat.le_of_eq HD.out.symm, BD.out⟩
  case round =>
    obtain ⟨k, hk, rfl, rfl, rfl, hov, hr, ht, hdd, hb⟩ := hrel
    have RK := hide hr
    have TK := hide ht
    have DK := hide hdd
    have BK := hide hb
    have VK := hide hov
    clear hr ht hdd hb hov RD TD BD HD
    obtain ⟨hv0, ehv⟩ : ∃ v, anyHit N (runT G T y k).1 = v := ⟨_, rfl⟩
    have EV := hide ehv
    rw [ehv]
    clear ehv
    by_cases hlt : k < 64
    · have MZ := hide (fun u => rof_is T k hlt u)
      obtain ⟨a0, ha0⟩ : ∃ a, T (4 * k) = a := ⟨_, rfl⟩
      obtain ⟨a1, ha1⟩ : ∃ a, T (4 * k + 1) = a := ⟨_, rfl⟩
      obtain ⟨a2, ha2⟩ : ∃ a, T (4 * k + 2) = a := ⟨_, rfl⟩
      obtain ⟨a3, ha3⟩ : ∃ a, T (4 * k + 3) = a := ⟨_, rfl⟩
      rw [ha0, ha1, ha2, ha3] at MZ
      unfold oneV at MZ
      obtain ⟨X, hX⟩ : ∃ X, sprX a1 = X := ⟨_, rfl⟩
      obtain ⟨Y, hY⟩ : ∃ Y, sprY a0 = Y := ⟨_, rfl⟩
      obtain ⟨W, hW⟩ : ∃ W, sprW a3 = W := ⟨_, rfl⟩
      obtain ⟨H, hH⟩ : ∃ H, sprH a3 = H := ⟨_, rfl⟩
      obtain ⟨C, hC⟩ : ∃ C, sprC a2 W H = C := ⟨_, rfl⟩
      obtain ⟨P, hP⟩ : ∃ P, sprP a3 = P := ⟨_, rfl⟩
      obtain ⟨fr, hfr⟩ : ∃ f, sprB a3 7 = f := ⟨_, rfl⟩
      obtain ⟨fx, hfx⟩ : ∃ f, sprB a3 11 = f := ⟨_, rfl⟩
      obtain ⟨fy, hfy⟩ : ∃ f, sprB a3 15 = f := ⟨_, rfl⟩
      rw [hX, hY, hW, hH, hC, hP, hfr, hfx, hfy] at MZ
      have bX := sprX_le a1
      have bY := sprY_le a0
      have bW := sprW_is a3
      have bH := sprH_is a3
      have bC := sprC_le a2 W H
      have bP := sprP_le a3
      rw [hX] at bX
      rw [hY] at bY
      rw [hW] at bW
      rw [hH] at bH
      rw [hC] at bC
      rw [hP] at bP
      have EON := hide (show onT T y k = (decide (Y ≤ y) && decide (y < Y + H)) by unfold onT; rw [ha0, ha3, hY, hH])
      have ECE := hide (show cellsT T k = W / 16 by unfold cellsT; rw [ha3, hW])
      have EST := hide (show ∀ S, stepT G T y k S = partS (k == 0) P fr (fun i => pixS G C W H fx fy (y - Y) i) X S W from fun S => by
        unfold stepT
        rw [ha1, ha3, hP, hfr, hX, hW, show dotT G T y k = fun i => pixS G C W H fx fy (y - Y) i from funext fun i => by unfold dotT; rw [ha0, ha2, ha3, hW, hH, hC, hfx, hfy, hY]])
      clear ha0 ha1 ha2 ha3 hX hY hW hH hC hP hfr hfx hfy
      obtain ⟨tk, htk⟩ : ∃ tk, (runT G T y k).2.1 = tk := ⟨_, rfl⟩
      have btk := runT_taken G T y k
      rw [htk] at btk ⊢
      have ETK := hide htk
      clear htk
      have I5 := hide (info_T T)
      set_option maxRecDepth 20000 in
      go_wp2_with (first | (refine wpList_load_row rfl 30 (.tmp 5) rfl z0 rfl _ _ _ _ TK.out Tryd.underlying30 rfl I5.out ?_))
      have hd64 : decide ((k : Int) < 64) = true := decide_eq_true (by omega)
      try simp only [hd64]
      clear hd64
      refine (MZ.out wr).mono ?_
      rintro e w3 ⟨rfl, b3⟩
      have n4 := bnext b3 ((Below.refl _ w3).alloc (Nat.le_refl _) (.cells #[.int .i64 X, .int .i64 Y, .int .i64 C, .int .i64 W, .int .i64 H, .int .i64 P, .bool fr, .bool fx, .bool fy] 99))
      have G4 := hide (show HasQ (w3.alloc (.cells #[.int .i64 X, .int .i64 Y, .int .i64 C, .int .i64 W, .int .i64 H, .int .i64 P, .bool fr, .bool fx, .bool fy] 99)) w3.heap.size #[.int .i64 X, .int .i64 Y, .int .i64 C, .int .i64 W, .int .i64 H, .int .i64 P, .bool fr, .bool fx, .bool fy] from heap_alloc_new _ _)
      have R4 := hide (RK.out.next n4)
      have T4 := hide (TK.out.next n4)
      have B4 := hide (bnext BK.out n4)
      have D4 := hide (show D ≤ w3.heap.size ∧ D ≤ (w3.alloc (.cells #[.int .i64 X, .int .i64 Y, .int .i64 C, .int .i64 W, .int .i64 H, .int .i64 P, .bool fr, .bool fx, .bool fy] 99)).heap.size from ⟨Nat.le_trans DK.out b3.size, Nat.le_trans DK.out n4.size⟩)
      clear b3 n4 RK TK BK DK MZ I5
      have e16 : Int.tdiv W 16 = W / 16 := Int.tdiv_eq_ediv_of_nonneg (by omega)
      have bW2 : W / 16 = 1 ∨ W / 16 = 2 := by omega
      by_cases hY : y < Y
      · have hd1 : decide (y < Y) = true := decide_eq_true hY
        have EN := hide (runT_off G T y k (by rw [EON.out, decide_eq_false (by omega)]; rfl))
        set_option maxRecDepth 20000 in
        go_wp2_with fail
        go_roundw
        case rel => exact ⟨k + 1, by omega, by go_num, by rw [EN.out, EV.out], by rw [EN.out, ETK.out], by rw [EN.out]; exact VK.out, by rw [EN.out]; exact R4.out, T4.out, D4.out.2, B4.out⟩
        case measure => simp [intOf]; omega
      · have hd1 : decide (y < Y) = false := decide_eq_false hY
        by_cases hY2 : Y + H ≤ y
        · have hd2 : decide (Y + H ≤ y) = true := decide_eq_true hY2
          have EN := hide (runT_off G T y k (by rw [EON.out, decide_eq_false (show ¬ y < Y + H by omega)]; simp))
          set_option maxRecDepth 20000 in
          go_wp2_with fail
          go_roundw
          case rel => exact ⟨k + 1, by omega, by go_num, by rw [EN.out, EV.out], by rw [EN.out, ETK.out], by rw [EN.out]; exact VK.out, by rw [EN.out]; exact R4.out, T4.out, D4.out.2, B4.out⟩
          case measure => simp [intOf]; omega
        · have hd2 : decide (Y + H ≤ y) = false := decide_eq_false hY2
          have EO := hide (show onT T y k = true by rw [EON.out, decide_eq_true (show Y ≤ y by omega), decide_eq_true (show y < Y + H by omega)]; rfl)
          by_cases hm : 16 < tk + W / 16
          · have hd3 : decide (16 < tk + W / 16) = true := decide_eq_true hm
            have E64 : Hid (runT G T y 64 = ((runT G T y k).1, (runT G T y k).2.1, true)) := by
              have e1 := runT_many G T y k VK.out EO.out (by rw [ETK.out, ECE.out]; exact hm)
              have e2 := runT_over G T y (k + 1) (by rw [e1]) (63 - k)
              rw [show k + 1 + (63 - k) = 64 by omega] at e2
              rw [e2, e1]
              exact hide rfl
            set_option maxRecDepth 20000 in
            go_wp2_with fail
            go_returns
            exact ⟨c, f, by rw [HG.out, E64.out, EV.out], by rw [HG.out, E64.out]; exact R4.out.1, B4.out⟩
          · have hd3 : decide (16 < tk + W / 16) = false := decide_eq_false hm
            set_option maxRecDepth 20000 in
            go_wp2_with fail
            refine under_name fun w4 hw4 => ?_
            rw [← hw4] at G4 R4 T4 B4 D4
            clear hw4
            obtain ⟨g, hg⟩ : ∃ g, w3.heap.size = g := ⟨_, rfl⟩
            rw [hg] at G4 D4 ⊢
            clear hg
            have F0 : Hid (∀ i : Int, 0 ≤ pixS G C W H fx fy (y - Y) i ∧ pixS G C W H fx fy (y - Y) i < 16) := hide (pixS_le G C W H fx fy (y - Y))
            have KC := hide (fun (i : Int) (u : World) (hu : HasR u mc md m po rd st lo bu) (h0 : 0 ≤ i) (h1 : i < W) => rcol_is mc md m po rd st lo bu u hu G HG.out X Y C W H P y i fr fx fy bC.1 bC.2 bY bW bH (by omega) (by omega) h0 h1)
            obtain ⟨F, hF⟩ : ∃ F : Int → Int, (fun i => pixS G C W H fx fy (y - Y) i) = F := ⟨_, rfl⟩
            have hFi : ∀ i, pixS G C W H fx fy (y - Y) i = F i := fun i => congrFun hF i
            have FF : Hid (∀ i : Int, 0 ≤ F i ∧ F i < 16) := hide fun i => by rw [← hFi i]; exact F0.out i
            simp only [hFi] at KC
            rw [hF] at EST
            clear F0 hF hFi
            obtain ⟨L, hL, hL2⟩ : ∃ L : Nat, W = (L : Int) ∧ (L = 16 ∨ L = 32) := by
              rcases bW with e | e
              · exact ⟨16, e, .inl rfl⟩
              · exact ⟨32, e, .inr rfl⟩
            have HL := hide (show W = (L : Int) ∧ (L = 16 ∨ L = 32) from ⟨hL, hL2⟩)
            clear hL hL2
            have FS := hide (runT_fst G T y k)
            have ZS := hide (show k = 0 → ∀ x, (runT G T y k).1 x = (0, false, false, false) from fun e x => by subst e; rfl)
            obtain ⟨SK, hSK⟩ : ∃ S, (runT G T y k).1 = S := ⟨_, rfl⟩
            have EK := hide hSK
            rw [hSK] at R4 EV FS ZS
            clear hSK
            obtain ⟨first, hfi⟩ : ∃ first, (k == 0) = first := ⟨_, rfl⟩
            have EF := hide hfi
            rw [hfi] at EST
            clear hfi
            go_loopw [15, 19] (fun s15 s19 wr => ∃ i : Nat, i ≤ L ∧ s19 = .int .i64 (i : Int) ∧ s15 = .bool (anyHit N (partS first P fr F X SK (i : Int))) ∧ Rows3 wr c f o N (partS first P fr F X SK (i : Int)) ∧ HasQ wr g #[.int .i64 X, .int .i64 Y, .int .i64 C, .int .i64 W, .int .i64 H, .int .i64 P, .bool fr, .bool fx, .bool fy] ∧ HasTb wr z0 T ∧ D ≤ wr.heap.size ∧ Below w.heap.size w wr) (fun _ s19 _ => L - (intOf s19).toNat)
            case atStart => exact ⟨0, Nat.zero_le _, rfl, by rw [show ((0 : Nat) : Int) = 0 from rfl, partS_zero, EV.out], by rw [show ((0 : Nat) : Int) = 0 from rfl, partS_zero]; exact R4.out, G4.out, T4.out, D4.out.2, B4.out⟩
            case round =>
              obtain ⟨i, hi, rfl, rfl, hr, hq, ht, hd, hb⟩ := hrel
              have RI := hide hr
              have QI := hide hq
              have TI := hide ht
              have DI := hide hd
              have BI := hide hb
              clear hr hq ht hd hb R4 G4 T4 B4 EV
              obtain ⟨hv, ehv⟩ : ∃ v, anyHit N (partS first P fr F X SK (i : Int)) = v := ⟨_, rfl⟩
              rw [ehv]
              have EH := hide ehv
              clear ehv
              have d3 := (QI.out.cell 3).trans rfl
              have d0 := (QI.out.cell 0).trans rfl
              by_cases hli : i < L
              · have hLL := HL.out
                have hiW : (i : Int) < W := by omega
                clear hLL
                have hdW : decide ((i : Int) < W) = true := decide_eq_true hiW
                have NX := hide (partS_next first P fr F X SK (i : Int) (by omega))
                by_cases hx0 : X + (i : Int) < 0 ∨ (N : Int) ≤ X + (i : Int)
                · have ES := hide (show ∀ j, j < N → partS first P fr F X SK ((i : Int) + 1) j = partS first P fr F X SK (i : Int) j from fun j hj => by rw [NX.out, if_neg (by omega)])
                  by_cases hx1 : X + (i : Int) < 0
                  · have hd4 : decide (0 ≤ X + (i : Int)) = false := decide_eq_false (by omega)
                    set_option maxRecDepth 20000 in
                    go_wp2_with fail
                    go_roundw
                    case rel => exact ⟨i + 1, by omega, by go_num, by rw [Int.natCast_add, ← EH.out]; exact congrArg Value.bool (anyHit_ext fun j hj => by rw [show ((1 : Nat) : Int) = 1 from rfl, ES.out j hj]), by rw [Int.natCast_add]; exact RI.out.ext ES.out, QI.out, TI.out, DI.out, BI.out⟩
                    case measure => simp [intOf]; omega
                  · have hd4 : decide (0 ≤ X + (i : Int)) = true := decide_eq_true (by omega)
                    have hd5 : decide (X + (i : Int) < (N : Int)) = false := decide_eq_false (by omega)
                    set_option maxRecDepth 20000 in
                    go_wp2_with fail
                    go_roundw
                    case rel => exact ⟨i + 1, by omega, by go_num, by rw [Int.natCast_add, ← EH.out]; exact congrArg Value.bool (anyHit_ext fun j hj => by rw [show ((1 : Nat) : Int) = 1 from rfl, ES.out j hj]), by rw [Int.natCast_add]; exact RI.out.ext ES.out, QI.out, TI.out, DI.out, BI.out⟩
                    case measure => simp [intOf]; omega
                · obtain ⟨n, hn⟩ : ∃ n : Nat, X + (i : Int) = (n : Int) := ⟨(X + (i : Int)).toNat, by omega⟩
                  have hnN : n < N := by omega
                  have hd4 : decide (0 ≤ (n : Int)) = true := decide_eq_true (by omega)
                  have hd5 : decide ((n : Int) < (N : Int)) = true := decide_eq_true (by omega)
                  have bv := FF.out (i : Int)
                  have KV := hide (KC.out (i : Int) _ (HM.out.next BI.out) (by omega) hiW)
                  obtain ⟨v, hv'⟩ : ∃ v, F (i : Int) = v := ⟨_, rfl⟩
                  rw [hv'] at bv KV
                  have EVV := hide hv'
                  clear hv'
                  have NY := hide (show ∀ j, j < N → partS first P fr F X SK ((i : Int) + 1) j = if j = n then layP first P fr v (partS first P fr F X SK (i : Int) j) else partS first P fr F X SK (i : Int) j from fun j hj => by
                    rw [NX.out, EVV.out, hn]
                    by_cases e : j = n
                    · rw [if_pos e, if_pos (by omega)]
                    · rw [if_neg e, if_neg (by omega)])
                  have SN := hide (show partS first P fr F X SK (i : Int) n = SK n by unfold partS; rw [if_neg (by omega)])
                  set_option maxRecDepth 20000 in
                  go_wp2_with (first | (refine wpList_load_row rfl 99 (.tmp 18) rfl g rfl _ _ _ _ QI.out Tryd.underlying99 rfl (by kernel_rfl) ?_))
                  refine KV.out.mono ?_
                  rintro e w5 ⟨rfl, b5⟩
                  have R5 := hide (RI.out.next b5)
                  have Q5 := hide (show HasQ w5 g #[.int .i64 X, .int .i64 Y, .int .i64 C, .int .i64 W, .int .i64 H, .int .i64 P, .bool fr, .bool fx, .bool fy] from (b5.block _ (lt_of_block QI.out)).trans QI.out)
                  have T5 := hide (TI.out.next b5)
                  have B5 := hide (bnext BI.out b5)
                  have D5 := hide (Nat.le_trans DI.out b5.size)
                  clear b5 RI QI TI BI DI KV d3 d0
                  by_cases hv0 : v = 0
                  · have ES := hide (show ∀ j, j < N → partS first P fr F X SK ((i : Int) + 1) j = partS first P fr F X SK (i : Int) j from fun j hj => by
                      rw [NY.out j hj]
                      split
                      · unfold layP; rw [if_pos hv0]
                      · rfl)
                    set_option maxRecDepth 20000 in
                    go_wp2_with fail
                    go_roundw
                    case rel => exact ⟨i + 1, by omega, by go_num, by rw [Int.natCast_add, ← EH.out]; exact congrArg Value.bool (anyHit_ext fun j hj => by rw [show ((1 : Nat) : Int) = 1 from rfl, ES.out j hj]), by rw [Int.natCast_add]; exact R5.out.ext ES.out, Q5.out, T5.out, D5.out, B5.out⟩
                    case measure => simp [intOf]; omega
                  · have hvb : (v == 0) = false := by simpa using hv0
                    obtain ⟨pv, hpv⟩ : ∃ pv, 16 * P + v = pv := ⟨_, rfl⟩
                    have hpb : 0 ≤ pv ∧ pv < 300 := by omega
                    have EP := hide (show P * 16 + v = pv by omega)
                    have d5 := (Q5.out.cell 5).trans rfl
                    have d6 := (Q5.out.cell 6).trans rfl
                    have cj := R5.out.1.cj n hnN
                    have oj := R5.out.oj n hnN
                    have fj := R5.out.1.fj n hnN
                    rw [SN.out] at cj oj fj
                    have yc := R5.out.zc n
                    have yf := R5.out.zf n
                    have yo := R5.out.zo n
                    have nE : ∀ j, D ≤ j → j ≠ c ∧ j ≠ f ∧ j ≠ o := fun j hj => by have := HZ.out.2.2; omega
                    obtain ⟨hgc, hgf, hgo⟩ := nE g D4.out.1
                    have hcf := HZ.out.2.1.2.2.2.1
                    have hco := HZ.out.2.1.2.2.2.2.1
                    have hfo := HZ.out.2.1.2.2.2.2.2
                    have lco := R5.out.1.lc
                    have llf := R5.out.1.lf
                    have llo := lt_of_block R5.out.2
                    by_cases hk0 : k = 0
                    · have sn := ZS.out hk0 n
                      have hkb : ((k : Int) == 0) = true := by rw [hk0]; rfl
                      have hfirst : first = true := by rw [← EF.out, hk0]; rfl
                      rw [sn] at cj oj fj
                      have RN := hide (R5.out.first hcf hco hfo n pv fr (partS first P fr F X SK ((i : Int) + 1)) (fun j hj => by
                        rw [NY.out j hj]
                        by_cases e : j = n
                        · rw [if_pos e, if_pos e, e, SN.out, sn]
                          unfold layP
                          rw [if_neg hv0, if_pos rfl, EP.out, hfirst]
                        · rw [if_neg e, if_neg e]))
                      have AN := hide (show anyHit N (partS first P fr F X SK ((i : Int) + 1)) = hv by
                        rw [← EH.out]
                        exact anyHit_ext fun j hj => by
                          rw [NY.out j hj]
                          by_cases e : j = n
                          · rw [if_pos e, e, SN.out, sn]
                            unfold layP
                            rw [if_neg hv0, if_pos rfl]
                          · rw [if_neg e])
                      have QN := hide (HasQ.far (HasQ.far (HasQ.far Q5.out n (.bool true) (nE g D4.out.1).2.2) n (.int .i64 pv) (nE g D4.out.1).1) n (.bool fr) (nE g D4.out.1).2.1)
                      have TN := hide (show HasTb (((w5.setCell ⟨o, n, none⟩ (.bool true)).setCell ⟨c, n, none⟩ (.int .i64 pv)).setCell ⟨f, n, none⟩ (.bool fr)) z0 T from set_far (set_far (set_far T5.out HZ.out.2.1.2.2.1) HZ.out.2.1.1) HZ.out.2.1.2.1)
                      have BN := hide (((B5.out.setCell (p := ⟨o, n, none⟩) HZ.out.1.2.2.2 (.bool true)).setCell (p := ⟨c, n, none⟩) HZ.out.1.2.1 (.int .i64 pv)).setCell (p := ⟨f, n, none⟩) HZ.out.1.2.2.1 (.bool fr))
                      clear nE sn hfirst hk0 R5
                      set_option maxRecDepth 20000 in
                      go_wp2_with fail
                      go_roundw
                      case rel => exact ⟨i + 1, by omega, by go_num, by rw [Int.natCast_add]; exact congrArg Value.bool AN.out.symm, by rw [Int.natCast_add]; exact RN.out, QN.out, TN.out, by have := D5.out; simpa [World.setCell] using this, BN.out⟩
                      case measure => simp [intOf]; omega
                    · have hkb : ((k : Int) == 0) = false := by simpa using hk0
                      have hfirst : first = false := by rw [← EF.out]; simpa using hk0
                      by_cases h0 : (SK n).1 = 0
                      · have hf0 : (SK n).2.2.1 = false := by
                          cases q : (SK n).2.2.1 with
                          | false => rfl
                          | true => exact absurd h0 (FS.out n q)
                        rw [h0] at cj
                        rw [hf0] at oj
                        have RN := hide (R5.out.lay hcf hco hfo n pv fr (partS first P fr F X SK ((i : Int) + 1)) (fun j hj => by
                          rw [NY.out j hj]
                          by_cases e : j = n
                          · rw [if_pos e, if_pos e, e, SN.out]
                            unfold layP
                            rw [if_neg hv0, if_pos h0, EP.out, hfirst, hf0]
                          · rw [if_neg e, if_neg e]))
                        have AN := hide (show anyHit N (partS first P fr F X SK ((i : Int) + 1)) = hv by
                          rw [← EH.out]
                          exact anyHit_ext fun j hj => by
                            rw [NY.out j hj]
                            by_cases e : j = n
                            · rw [if_pos e, e, SN.out]
                              unfold layP
                              rw [if_neg hv0, if_pos h0]
                            · rw [if_neg e])
                        have QN := hide (HasQ.far (HasQ.far Q5.out n (.int .i64 pv) (nE g D4.out.1).1) n (.bool fr) (nE g D4.out.1).2.1)
                        have TN := hide (show HasTb ((w5.setCell ⟨c, n, none⟩ (.int .i64 pv)).setCell ⟨f, n, none⟩ (.bool fr)) z0 T from set_far (set_far T5.out HZ.out.2.1.1) HZ.out.2.1.2.1)
                        have BN := hide ((B5.out.setCell (p := ⟨c, n, none⟩) HZ.out.1.2.1 (.int .i64 pv)).setCell (p := ⟨f, n, none⟩) HZ.out.1.2.2.1 (.bool fr))
                        clear nE h0 hf0 hfirst hk0 R5
                        set_option maxRecDepth 20000 in
                        go_wp2_with fail
                        go_roundw
                        case rel => exact ⟨i + 1, by omega, by go_num, by rw [Int.natCast_add]; exact congrArg Value.bool AN.out.symm, by rw [Int.natCast_add]; exact RN.out, QN.out, TN.out, by have := D5.out; simpa [World.setCell] using this, BN.out⟩
                        case measure => simp [intOf]; omega
                      · have hcb : ((SK n).1 == 0) = false := by simpa using h0
                        cases h1 : (SK n).2.2.1 with
                        | true =>
                          rw [h1] at oj
                          have EE : ∀ j, j < N → partS first P fr F X SK ((i : Int) + 1) j = if j = n then ((partS first P fr F X SK (i : Int) j).1, (partS first P fr F X SK (i : Int) j).2.1, (partS first P fr F X SK (i : Int) j).2.2.1, true) else partS first P fr F X SK (i : Int) j := fun j hj => by
                            rw [NY.out j hj]
                            by_cases e : j = n
                            · rw [if_pos e, if_pos e, e, SN.out]
                              unfold layP
                              rw [if_neg hv0, if_neg h0, if_pos h1]
                            · rw [if_neg e, if_neg e]
                          have RN := hide (R5.out.same n (partS first P fr F X SK ((i : Int) + 1)) EE)
                          have AN := hide (show anyHit N (partS first P fr F X SK ((i : Int) + 1)) = true from anyHit_true n hnN (by rw [EE n hnN, if_pos rfl]))
                          generalize (SK n).1 = cv at *
                          clear nE h0 h1 hfirst hk0 R5 EE
                          set_option maxRecDepth 20000 in
                          go_wp2_with fail
                          go_roundw
                          case rel => exact ⟨i + 1, by omega, by go_num, by rw [Int.natCast_add]; exact congrArg Value.bool AN.out.symm, by rw [Int.natCast_add]; exact RN.out, Q5.out, T5.out, D5.out, B5.out⟩
                          case measure => simp [intOf]; omega
                        | false =>
                          rw [h1] at oj
                          have EE : ∀ j, j < N → partS first P fr F X SK ((i : Int) + 1) j = partS first P fr F X SK (i : Int) j := fun j hj => by
                            rw [NY.out j hj]
                            by_cases e : j = n
                            · rw [if_pos e, e, SN.out]
                              unfold layP
                              rw [if_neg hv0, if_neg h0, if_neg (by rw [h1]; decide)]
                            · rw [if_neg e]
                          have RN := hide (R5.out.ext EE)
                          have AN := hide (show anyHit N (partS first P fr F X SK ((i : Int) + 1)) = hv by rw [← EH.out]; exact anyHit_ext fun j hj => by rw [EE j hj])
                          generalize (SK n).1 = cv at *
                          clear nE h0 h1 hfirst hk0 R5 EE
                          set_option maxRecDepth 20000 in
                          go_wp2_with fail
                          go_roundw
                          case rel => exact ⟨i + 1, by omega, by go_num, by rw [Int.natCast_add]; exact congrArg Value.bool AN.out.symm, by rw [Int.natCast_add]; exact RN.out, Q5.out, T5.out, D5.out, B5.out⟩
                          case measure => simp [intOf]; omega
              · obtain rfl : i = L := by omega
                have EN := hide (runT_on G T y k VK.out EO.out (by rw [ETK.out, ECE.out]; omega))
                have hdW : decide ((i : Int) < W) = false := decide_eq_false (by have := HL.out; omega)
                set_option maxRecDepth 20000 in
                go_wp2_with fail
                go_roundw
                case rel =>
                  refine ⟨k + 1, by omega, by go_num, by rw [EN.out, EK.out, EST.out, HL.out.1, EH.out], by rw [EN.out, ETK.out, ECE.out], by rw [EN.out], ?_, TI.out, DI.out, BI.out⟩
                  rw [EN.out, EK.out, EST.out, HL.out.1]
                  exact RI.out
                case measure => simp [intOf]; omega
    · obtain rfl : k = 64 := by omega
      set_option maxRecDepth 20000 in
      go_wp2_with fail
      go_returns
      exact ⟨c, f, by rw [HG.out, VK.out, EV.out], by rw [HG.out]; exact RK.out.1, BK.out⟩
end Go.Proofs.YtnhjhmfiapjenaaDoor
