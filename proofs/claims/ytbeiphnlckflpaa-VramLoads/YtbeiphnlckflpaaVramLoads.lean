/- VramLoads, at the landed commit: whatever two slices of calls and integer come in, the call returns true: video memory that is made of another one's words and ports is it: it tells the same, and goes on so; without a word, or with one too great, there is none. No condition. -/
import Derived.Test.YtbeiphnlckflpaaActs13
import Derived.Test.YtbeiphnlckflpaaPlay13
import Derived.Test.YtbeiphnlckflpaaLoadW13
namespace Go.Proofs.Ytbeiphnlckflpaa
open Go.ChangeShapes Go.WideShapes Go.ChangeAt Go.RowKit
set_option linter.unusedVariables false

theorem told_all (f : Nat → Int) : toldL f 0 32768 = wordsM f := by
  refine ext_at (N := 32768) (toldL_length _ _ _) (wordsM_length f) fun j hj => ?_
  rw [toldL_at f 0 32768 j hj, wordsM_at f j hj, wordAt_in f _ (by omega) (by omega), show ((0 : Int) + (j : Int)).toNat = j by omega]
theorem words_all (b : Nat) (f : Nat → Int) (wr rd st lo bu : Int) (w : World) (h : HasM w b true f wr rd st lo bu) : Calls Try.prog 23 #[.pointer (some ⟨b, 0, none⟩), .int .i64 0, .int .i64 32768] w fun e w' => e = .returned (.slice (some ⟨w.heap.size, 0, none⟩) 32768 32768) ∧ HasRow w' w.heap.size (wordsM f) ∧ Below w.heap.size w w' := by
  refine (words_is b f wr rd st lo bu w h 0 32768 0 (by omega) (by omega) (by omega)).mono ?_
  rintro e w' ⟨rfl, hr, hb⟩
  refine ⟨rfl, ?_, hb⟩
  rw [← told_all f]
  exact hr
theorem HasS.only {w w' : World} {b c : Nat} {S : St} (h : HasS w c S) (o : Only b w w') (hc : c ≠ b) : HasS w' c S := o.obj h hc
theorem HasS.lt {w : World} {c : Nat} {S : St} (h : HasS w c S) : c < w.heap.size := lt_of_block h
theorem HasRow.only {w w' : World} {b g : Nat} {l : List Value} (h : HasRow w g l) (o : Only b w w') (hc : g ≠ b) : HasRow w' g l := o.obj h hc
theorem HasRow.set {w : World} {g : Nat} {f : Nat → Int} (h : HasRow w g (wordsM f)) (i : Nat) (x : Int) : HasRow (w.setCell ⟨g, i, none⟩ (.int .i64 x)) g (wordsM (upd f i x)) := by
  have k := heap_setCell_same w g i _ _ (.int .i64 x) h
  rw [List.setIfInBounds_toArray, wordsM_set] at k
  exact k

set_option maxHeartbeats 4000000 in
theorem loads_short (a0 : Option Addr) (len0 cap0 : Nat) (a1 : Option Addr) (len1 cap1 : Nat) (a2 q : Int) (w : World) (R0 : Hid (IsActs w a0 len0 cap0)) (R1 : Hid (IsActs w a1 len1 cap1)) (hx0 : len0 < 9223372036854775808) (hx1 : len1 < 9223372036854775808) (e2 : bits .and .i64 a2 32767 = q) (hq0 : 0 ≤ q) (hq1 : q < 32768) (hm : len0 ≤ 60) : Calls Try.prog 4 #[.slice a0 len0 cap0, .slice a1 len1 cap1, .int .i64 a2] w fun e w' => e = .returned (.bool true) ∧ Below w.heap.size w w' := by
  go_enter Try.func4, Try.ntmps4
  go_wp2_with fail
  refine (new_any _).mono ?_
  rintro e w1 ⟨rfl, h1, b1⟩
  have H1 := hide (show HasS w1 w.heap.size newS from h1)
  have B1 := hide b1
  clear h1 b1
  obtain ⟨g, hg⟩ : ∃ g, w.heap.size = g := ⟨_, rfl⟩
  rw [hg] at H1 ⊢
  have HG := hide (Nat.le_of_eq hg)
  clear hg
  go_wp2_with fail
  go_loopw [9] (fun si wr => ∃ (k : Nat) (S : St), k ≤ len0 ∧ si = .int .i64 (k : Int) ∧ Good S ∧ HasS wr g S ∧ Below w.heap.size w wr) (fun si _ => len0 - (intOf si).toNat)
  case atStart => exact ⟨0, newS, Nat.zero_le _, rfl, good_new, H1.out, B1.out⟩
  case round =>
    obtain ⟨k, S, hk, rfl, hS, hv, hb⟩ := hrel
    have VK := hide hv
    have BK := hide hb
    have GK := hide hS
    clear hv hb hS H1 B1
    by_cases hlt : k < len0
    · obtain ⟨ab, off, kk, n, x, hi, rfl, hab, hc1, hc2, hcs⟩ := R0.out.act k (by omega)
      obtain ⟨c0, c1, c2, c3⟩ := hcs wr BK.out
      clear hcs
      go_wp2_with fail
      refine (play_is g S GK.out _ VK.out kk n x hi).mono ?_
      rintro e w2 ⟨rfl, h2, o2⟩
      have H2 := hide h2
      have B2 := hide (bonly BK.out o2 HG.out (Nat.le_refl _))
      clear h2 o2 VK BK c0 c1 c2 c3
      go_wp2_with fail
      go_roundw
      case rel => exact ⟨k + 1, _, by omega, by go_num, good_step GK.out kk n x hi, H2.out, B2.out⟩
      case measure => simp [intOf]; omega
    · obtain rfl : k = len0 := by omega
      clear hlt hk
      obtain ⟨f, pw, pr, ps, pl, pb⟩ := S
      obtain ⟨hf, hpw, hpr, hps, hpl, hpb⟩ := GK.out
      have HF : Hid (∀ j, IsWord (f j)) := hf
      have PW : Hid (IsWord pw) := hpw
      have PR : Hid (IsWord pr) := hpr
      have PS : Hid (IsWord ps) := hps
      have PL : Hid (0 ≤ pl ∧ pl < 256) := hpl
      have PB : Hid (IsWord pb) := hpb
      have V1 : Hid (HasM wr g true f pw pr ps pl pb) := VK.out
      clear hf hpw hpr hps hpl hpb VK
      go_wp2_with fail
      refine (ports_is g _ _ _ _ _ _ _ V1.out).mono ?_
      rintro e w2 ⟨rfl, b2⟩
      have V2 := hide (V1.out.next b2)
      have B2 := hide (bnext BK.out b2)
      clear b2 V1 BK
      go_wp2_with fail
      refine (words_all g _ _ _ _ _ _ _ V2.out).mono ?_
      rintro e w3 ⟨rfl, r3, b3⟩
      have V3 := hide (V2.out.next b3)
      have R3 := hide r3
      have B3 := hide (bnext B2.out b3)
      have GW := hide B2.out.size
      have NW := hide (Nat.ne_of_lt V2.out.lt)
      clear b3 r3 V2 B2
      generalize w2.heap.size = gw at *
      go_wp2_with fail
      refine (load_ok gw _ _ _ _ _ _ _ R3.out HF.out PW.out PR.out PS.out (by have := PL.out; unfold IsWord; omega) PB.out (by have := PL.out; omega)).mono ?_
      rintro e w4 ⟨gy, rfl, hgy, y4, b4⟩
      have V4 := hide (V3.out.next b4)
      have R4 := hide (R3.out.next b4)
      have Y4 := hide y4
      have B4 := hide (bnext B3.out b4)
      have GY := hide (Nat.le_trans B3.out.size hgy)
      have NY := hide (show g ≠ gy by have := V3.out.lt; omega)
      have NR := hide (show gw ≠ gy by have := lt_of_block R3.out; omega)
      clear b4 y4 V3 R3 B3 hgy
      go_wp2_with fail
      refine (load_short gw _ _ _ _ _ _ 16384 32768 (by omega)).mono ?_
      rintro e w5 ⟨rfl, b5⟩
      have V5 := hide (show HasS w5 g (stOf f pw pr ps pl pb) from V4.out.next b5)
      have Y5 := hide (show HasS w5 gy (stOf f pw pr ps pl pb) from Y4.out.next b5)
      have R5 := hide (R4.out.next b5)
      have B5 := hide (bnext B4.out b5)
      clear b5 V4 Y4 R4 B4
      go_wp2_with fail
      go_loopw [20] (fun si wj => ∃ (j : Nat) (S : St), j ≤ len1 ∧ j ≤ 60 ∧ si = .int .i64 (j : Int) ∧ Good S ∧ HasS wj g S ∧ HasS wj gy S ∧ HasRow wj gw (wordsM f) ∧ Below w.heap.size w wj) (fun si _ => 60 - (intOf si).toNat)
      case atStart => exact ⟨0, _, Nat.zero_le _, Nat.zero_le _, rfl, GK.out, V5.out, Y5.out, R5.out, B5.out⟩
      case round =>
        obtain ⟨j, S, hj, hj6, rfl, hS, hv, hy, hr, hb⟩ := hrel
        have VJ := hide hv
        have YJ := hide hy
        have RJ := hide hr
        have BJ := hide hb
        have GJ := hide hS
        clear hv hy hr hb hS V5 Y5 R5 B5 GK
        by_cases hjl : j < len1
        · by_cases hj60 : j < 60
          · obtain ⟨ab, off, kk, n, x, hi, rfl, hab, hc1, hc2, hcs⟩ := R1.out.act j hjl
            obtain ⟨c0, c1, c2, c3⟩ := hcs wr BJ.out
            have HCS := hide hcs
            clear hcs
            go_wp2_with fail
            have VD := hide (show HasS wr.drew g S from VJ.out)
            set_option maxRecDepth 20000 in
            go_region_with (first
              | (go_at_call_of 24 (Value.pointer (some ⟨g, 0, none⟩)); refine (play_is g S GJ.out wr.drew VD.out kk n x hi).mono ?_; rintro e w2 ⟨rfl, h2, q2⟩; have o2 : Only g wr w2 := (Only.of (Below.refl _ wr).drew).trans q2; have b2 := bonly BJ.out o2 HG.out (Nat.le_refl _); obtain ⟨d0, d1, d2, d3⟩ := HCS.out w2 b2; have y2 := YJ.out.only o2 NY.out.symm; have r2 := RJ.out.only o2 NW.out.symm)
              | (go_at_call_of 24 (Value.pointer (some ⟨gy, 0, none⟩)); refine (play_is gy S GJ.out w2 y2 kk n x hi).mono ?_; rintro e w3 ⟨rfl, h3, o3⟩))
            all_goals
              have V3 := hide (h2.only o3 NY.out)
              have Y3 := hide h3
              have R3 := hide (r2.only o3 NR.out)
              have B3 := hide (bonly b2 o3 GY.out (Nat.le_refl _))
              clear d0 d1 d2 d3 h2 h3 q2 o2 o3 b2 y2 r2 c0 c1 c2 c3 VD VJ YJ RJ BJ
              set_option maxRecDepth 20000 in
              go_wp2_with fail
              go_roundw
              case rel => exact ⟨j + 1, _, by omega, by omega, by go_num, good_step GJ.out kk n x hi, V3.out, Y3.out, R3.out, B3.out⟩
              case measure => simp [intOf]; omega
          · skip
            obtain ⟨F, vw, vr, vs, vl, vb⟩ := S
            obtain ⟨hF, _⟩ := GJ.out
            have FF : Hid (∀ j, IsWord (F j)) := hF
            have X1 : Hid (HasM wr g true F vw vr vs vl vb) := VJ.out
            clear hF VJ YJ GJ
            have hcq : wr.cell? ⟨gw, q.toNat, none⟩ = some (.int .i64 (f q.toNat)) := by
              have := RJ.out.words q.toNat (by omega)
              rw [Nat.zero_add] at this
              exact this
            have hzq := frozen_of_row wr gw q.toNat _ _ RJ.out
            have RS := hide (RJ.out.set q.toNat 65536)
            have BS := hide (BJ.out.setCell (p := ⟨gw, q.toNat, none⟩) GW.out (.int .i64 65536))
            have XS := hide (show HasM (wr.setCell ⟨gw, q.toNat, none⟩ (.int .i64 65536)) g true F vw vr vs vl vb from (Below.heap_setCell _ _ _ _ NW.out).trans X1.out)
            have HQ := hide (show q.toNat < 32768 by omega)
            go_wp2_with fail
            clear hcq hzq RJ BJ X1
            obtain ⟨w6, hw6⟩ : ∃ w6, w6 = wr.setCell ⟨gw, q.toNat, none⟩ (.int .i64 65536) := ⟨_, rfl⟩
            rw [← hw6] at RS BS XS ⊢
            clear hw6
            refine (load_great gw _ _ _ _ _ _ (upd f q.toNat 65536) RS.out q.toNat HQ.out (fun j hj => by unfold upd; rw [if_neg (by omega)]; exact HF.out j) (by unfold upd; rw [if_pos rfl]; unfold IsWord; omega)).mono ?_
            rintro e w7 ⟨rfl, b7⟩
            have X7 := hide (XS.out.next b7)
            have B7 := hide (bnext BS.out b7)
            clear b7 XS BS RS
            go_wp2_with fail
            refine (words_all g _ _ _ _ _ _ _ X7.out).mono ?_
            rintro e w8 ⟨rfl, r8, b8⟩
            have R8 := hide r8
            have B8 := hide (bnext B7.out b8)
            clear b8 r8 X7 B7
            generalize w7.heap.size = gv at *
            go_wp2_with fail
            refine (load_low gv _ _ _ _ _ _ F R8.out FF.out PW.out PR.out PS.out (by unfold IsWord; omega) PB.out (by omega)).mono ?_
            rintro e w9 ⟨rfl, b9⟩
            have B9 := hide (bnext B8.out b9)
            clear b9 R8 B8
            go_wp2_with fail
            go_ret
            exact ⟨rfl, B9.out⟩
        · skip
          obtain ⟨F, vw, vr, vs, vl, vb⟩ := S
          obtain ⟨hF, _⟩ := GJ.out
          have FF : Hid (∀ j, IsWord (F j)) := hF
          have X1 : Hid (HasM wr g true F vw vr vs vl vb) := VJ.out
          clear hF VJ YJ GJ
          have hcq : wr.cell? ⟨gw, q.toNat, none⟩ = some (.int .i64 (f q.toNat)) := by
            have := RJ.out.words q.toNat (by omega)
            rw [Nat.zero_add] at this
            exact this
          have hzq := frozen_of_row wr gw q.toNat _ _ RJ.out
          have RS := hide (RJ.out.set q.toNat 65536)
          have BS := hide (BJ.out.setCell (p := ⟨gw, q.toNat, none⟩) GW.out (.int .i64 65536))
          have XS := hide (show HasM (wr.setCell ⟨gw, q.toNat, none⟩ (.int .i64 65536)) g true F vw vr vs vl vb from (Below.heap_setCell _ _ _ _ NW.out).trans X1.out)
          have HQ := hide (show q.toNat < 32768 by omega)
          go_wp2_with fail
          clear hcq hzq RJ BJ X1
          obtain ⟨w6, hw6⟩ : ∃ w6, w6 = wr.setCell ⟨gw, q.toNat, none⟩ (.int .i64 65536) := ⟨_, rfl⟩
          rw [← hw6] at RS BS XS ⊢
          clear hw6
          refine (load_great gw _ _ _ _ _ _ (upd f q.toNat 65536) RS.out q.toNat HQ.out (fun j hj => by unfold upd; rw [if_neg (by omega)]; exact HF.out j) (by unfold upd; rw [if_pos rfl]; unfold IsWord; omega)).mono ?_
          rintro e w7 ⟨rfl, b7⟩
          have X7 := hide (XS.out.next b7)
          have B7 := hide (bnext BS.out b7)
          clear b7 XS BS RS
          go_wp2_with fail
          refine (words_all g _ _ _ _ _ _ _ X7.out).mono ?_
          rintro e w8 ⟨rfl, r8, b8⟩
          have R8 := hide r8
          have B8 := hide (bnext B7.out b8)
          clear b8 r8 X7 B7
          generalize w7.heap.size = gv at *
          go_wp2_with fail
          refine (load_low gv _ _ _ _ _ _ F R8.out FF.out PW.out PR.out PS.out (by unfold IsWord; omega) PB.out (by omega)).mono ?_
          rintro e w9 ⟨rfl, b9⟩
          have B9 := hide (bnext B8.out b9)
          clear b9 R8 B8
          go_wp2_with fail
          go_ret
          exact ⟨rfl, B9.out⟩
set_option maxHeartbeats 4000000 in
theorem loads_long (a0 : Option Addr) (len0 cap0 : Nat) (a1 : Option Addr) (len1 cap1 : Nat) (a2 q : Int) (w : World) (R0 : Hid (IsActs w a0 len0 cap0)) (R1 : Hid (IsActs w a1 len1 cap1)) (hx0 : len0 < 9223372036854775808) (hx1 : len1 < 9223372036854775808) (e2 : bits .and .i64 a2 32767 = q) (hq0 : 0 ≤ q) (hq1 : q < 32768) (hm : 60 < len0) : Calls Try.prog 4 #[.slice a0 len0 cap0, .slice a1 len1 cap1, .int .i64 a2] w fun e w' => e = .returned (.bool true) ∧ Below w.heap.size w w' := by
  go_enter Try.func4, Try.ntmps4
  go_wp2_with fail
  refine (new_any _).mono ?_
  rintro e w1 ⟨rfl, h1, b1⟩
  have H1 := hide (show HasS w1 w.heap.size newS from h1)
  have B1 := hide b1
  clear h1 b1
  obtain ⟨g, hg⟩ : ∃ g, w.heap.size = g := ⟨_, rfl⟩
  rw [hg] at H1 ⊢
  have HG := hide (Nat.le_of_eq hg)
  clear hg
  go_wp2_with fail
  go_loopw [9] (fun si wr => ∃ (k : Nat) (S : St), k ≤ 60 ∧ si = .int .i64 (k : Int) ∧ Good S ∧ HasS wr g S ∧ Below w.heap.size w wr) (fun si _ => 60 - (intOf si).toNat)
  case atStart => exact ⟨0, newS, Nat.zero_le _, rfl, good_new, H1.out, B1.out⟩
  case round =>
    obtain ⟨k, S, hk, rfl, hS, hv, hb⟩ := hrel
    have VK := hide hv
    have BK := hide hb
    have GK := hide hS
    clear hv hb hS H1 B1
    by_cases hlt : k < 60
    · obtain ⟨ab, off, kk, n, x, hi, rfl, hab, hc1, hc2, hcs⟩ := R0.out.act k (by omega)
      obtain ⟨c0, c1, c2, c3⟩ := hcs wr BK.out
      clear hcs
      go_wp2_with fail
      refine (play_is g S GK.out _ VK.out kk n x hi).mono ?_
      rintro e w2 ⟨rfl, h2, o2⟩
      have H2 := hide h2
      have B2 := hide (bonly BK.out o2 HG.out (Nat.le_refl _))
      clear h2 o2 VK BK c0 c1 c2 c3
      go_wp2_with fail
      go_roundw
      case rel => exact ⟨k + 1, _, by omega, by go_num, good_step GK.out kk n x hi, H2.out, B2.out⟩
      case measure => simp [intOf]; omega
    · obtain rfl : k = 60 := by omega
      clear hlt hk
      obtain ⟨f, pw, pr, ps, pl, pb⟩ := S
      obtain ⟨hf, hpw, hpr, hps, hpl, hpb⟩ := GK.out
      have HF : Hid (∀ j, IsWord (f j)) := hf
      have PW : Hid (IsWord pw) := hpw
      have PR : Hid (IsWord pr) := hpr
      have PS : Hid (IsWord ps) := hps
      have PL : Hid (0 ≤ pl ∧ pl < 256) := hpl
      have PB : Hid (IsWord pb) := hpb
      have V1 : Hid (HasM wr g true f pw pr ps pl pb) := VK.out
      clear hf hpw hpr hps hpl hpb VK
      go_wp2_with fail
      refine (ports_is g _ _ _ _ _ _ _ V1.out).mono ?_
      rintro e w2 ⟨rfl, b2⟩
      have V2 := hide (V1.out.next b2)
      have B2 := hide (bnext BK.out b2)
      clear b2 V1 BK
      go_wp2_with fail
      refine (words_all g _ _ _ _ _ _ _ V2.out).mono ?_
      rintro e w3 ⟨rfl, r3, b3⟩
      have V3 := hide (V2.out.next b3)
      have R3 := hide r3
      have B3 := hide (bnext B2.out b3)
      have GW := hide B2.out.size
      have NW := hide (Nat.ne_of_lt V2.out.lt)
      clear b3 r3 V2 B2
      generalize w2.heap.size = gw at *
      go_wp2_with fail
      refine (load_ok gw _ _ _ _ _ _ _ R3.out HF.out PW.out PR.out PS.out (by have := PL.out; unfold IsWord; omega) PB.out (by have := PL.out; omega)).mono ?_
      rintro e w4 ⟨gy, rfl, hgy, y4, b4⟩
      have V4 := hide (V3.out.next b4)
      have R4 := hide (R3.out.next b4)
      have Y4 := hide y4
      have B4 := hide (bnext B3.out b4)
      have GY := hide (Nat.le_trans B3.out.size hgy)
      have NY := hide (show g ≠ gy by have := V3.out.lt; omega)
      have NR := hide (show gw ≠ gy by have := lt_of_block R3.out; omega)
      clear b4 y4 V3 R3 B3 hgy
      go_wp2_with fail
      refine (load_short gw _ _ _ _ _ _ 16384 32768 (by omega)).mono ?_
      rintro e w5 ⟨rfl, b5⟩
      have V5 := hide (show HasS w5 g (stOf f pw pr ps pl pb) from V4.out.next b5)
      have Y5 := hide (show HasS w5 gy (stOf f pw pr ps pl pb) from Y4.out.next b5)
      have R5 := hide (R4.out.next b5)
      have B5 := hide (bnext B4.out b5)
      clear b5 V4 Y4 R4 B4
      go_wp2_with fail
      go_loopw [20] (fun si wj => ∃ (j : Nat) (S : St), j ≤ len1 ∧ j ≤ 60 ∧ si = .int .i64 (j : Int) ∧ Good S ∧ HasS wj g S ∧ HasS wj gy S ∧ HasRow wj gw (wordsM f) ∧ Below w.heap.size w wj) (fun si _ => 60 - (intOf si).toNat)
      case atStart => exact ⟨0, _, Nat.zero_le _, Nat.zero_le _, rfl, GK.out, V5.out, Y5.out, R5.out, B5.out⟩
      case round =>
        obtain ⟨j, S, hj, hj6, rfl, hS, hv, hy, hr, hb⟩ := hrel
        have VJ := hide hv
        have YJ := hide hy
        have RJ := hide hr
        have BJ := hide hb
        have GJ := hide hS
        clear hv hy hr hb hS V5 Y5 R5 B5 GK
        by_cases hjl : j < len1
        · by_cases hj60 : j < 60
          · obtain ⟨ab, off, kk, n, x, hi, rfl, hab, hc1, hc2, hcs⟩ := R1.out.act j hjl
            obtain ⟨c0, c1, c2, c3⟩ := hcs wr BJ.out
            have HCS := hide hcs
            clear hcs
            go_wp2_with fail
            have VD := hide (show HasS wr.drew g S from VJ.out)
            set_option maxRecDepth 20000 in
            go_region_with (first
              | (go_at_call_of 24 (Value.pointer (some ⟨g, 0, none⟩)); refine (play_is g S GJ.out wr.drew VD.out kk n x hi).mono ?_; rintro e w2 ⟨rfl, h2, q2⟩; have o2 : Only g wr w2 := (Only.of (Below.refl _ wr).drew).trans q2; have b2 := bonly BJ.out o2 HG.out (Nat.le_refl _); obtain ⟨d0, d1, d2, d3⟩ := HCS.out w2 b2; have y2 := YJ.out.only o2 NY.out.symm; have r2 := RJ.out.only o2 NW.out.symm)
              | (go_at_call_of 24 (Value.pointer (some ⟨gy, 0, none⟩)); refine (play_is gy S GJ.out w2 y2 kk n x hi).mono ?_; rintro e w3 ⟨rfl, h3, o3⟩))
            all_goals
              have V3 := hide (h2.only o3 NY.out)
              have Y3 := hide h3
              have R3 := hide (r2.only o3 NR.out)
              have B3 := hide (bonly b2 o3 GY.out (Nat.le_refl _))
              clear d0 d1 d2 d3 h2 h3 q2 o2 o3 b2 y2 r2 c0 c1 c2 c3 VD VJ YJ RJ BJ
              set_option maxRecDepth 20000 in
              go_wp2_with fail
              go_roundw
              case rel => exact ⟨j + 1, _, by omega, by omega, by go_num, good_step GJ.out kk n x hi, V3.out, Y3.out, R3.out, B3.out⟩
              case measure => simp [intOf]; omega
          · skip
            obtain ⟨F, vw, vr, vs, vl, vb⟩ := S
            obtain ⟨hF, _⟩ := GJ.out
            have FF : Hid (∀ j, IsWord (F j)) := hF
            have X1 : Hid (HasM wr g true F vw vr vs vl vb) := VJ.out
            clear hF VJ YJ GJ
            have hcq : wr.cell? ⟨gw, q.toNat, none⟩ = some (.int .i64 (f q.toNat)) := by
              have := RJ.out.words q.toNat (by omega)
              rw [Nat.zero_add] at this
              exact this
            have hzq := frozen_of_row wr gw q.toNat _ _ RJ.out
            have RS := hide (RJ.out.set q.toNat 65536)
            have BS := hide (BJ.out.setCell (p := ⟨gw, q.toNat, none⟩) GW.out (.int .i64 65536))
            have XS := hide (show HasM (wr.setCell ⟨gw, q.toNat, none⟩ (.int .i64 65536)) g true F vw vr vs vl vb from (Below.heap_setCell _ _ _ _ NW.out).trans X1.out)
            have HQ := hide (show q.toNat < 32768 by omega)
            go_wp2_with fail
            clear hcq hzq RJ BJ X1
            obtain ⟨w6, hw6⟩ : ∃ w6, w6 = wr.setCell ⟨gw, q.toNat, none⟩ (.int .i64 65536) := ⟨_, rfl⟩
            rw [← hw6] at RS BS XS ⊢
            clear hw6
            refine (load_great gw _ _ _ _ _ _ (upd f q.toNat 65536) RS.out q.toNat HQ.out (fun j hj => by unfold upd; rw [if_neg (by omega)]; exact HF.out j) (by unfold upd; rw [if_pos rfl]; unfold IsWord; omega)).mono ?_
            rintro e w7 ⟨rfl, b7⟩
            have X7 := hide (XS.out.next b7)
            have B7 := hide (bnext BS.out b7)
            clear b7 XS BS RS
            go_wp2_with fail
            refine (words_all g _ _ _ _ _ _ _ X7.out).mono ?_
            rintro e w8 ⟨rfl, r8, b8⟩
            have R8 := hide r8
            have B8 := hide (bnext B7.out b8)
            clear b8 r8 X7 B7
            generalize w7.heap.size = gv at *
            go_wp2_with fail
            refine (load_low gv _ _ _ _ _ _ F R8.out FF.out PW.out PR.out PS.out (by unfold IsWord; omega) PB.out (by omega)).mono ?_
            rintro e w9 ⟨rfl, b9⟩
            have B9 := hide (bnext B8.out b9)
            clear b9 R8 B8
            go_wp2_with fail
            go_ret
            exact ⟨rfl, B9.out⟩
        · skip
          obtain ⟨F, vw, vr, vs, vl, vb⟩ := S
          obtain ⟨hF, _⟩ := GJ.out
          have FF : Hid (∀ j, IsWord (F j)) := hF
          have X1 : Hid (HasM wr g true F vw vr vs vl vb) := VJ.out
          clear hF VJ YJ GJ
          have hcq : wr.cell? ⟨gw, q.toNat, none⟩ = some (.int .i64 (f q.toNat)) := by
            have := RJ.out.words q.toNat (by omega)
            rw [Nat.zero_add] at this
            exact this
          have hzq := frozen_of_row wr gw q.toNat _ _ RJ.out
          have RS := hide (RJ.out.set q.toNat 65536)
          have BS := hide (BJ.out.setCell (p := ⟨gw, q.toNat, none⟩) GW.out (.int .i64 65536))
          have XS := hide (show HasM (wr.setCell ⟨gw, q.toNat, none⟩ (.int .i64 65536)) g true F vw vr vs vl vb from (Below.heap_setCell _ _ _ _ NW.out).trans X1.out)
          have HQ := hide (show q.toNat < 32768 by omega)
          go_wp2_with fail
          clear hcq hzq RJ BJ X1
          obtain ⟨w6, hw6⟩ : ∃ w6, w6 = wr.setCell ⟨gw, q.toNat, none⟩ (.int .i64 65536) := ⟨_, rfl⟩
          rw [← hw6] at RS BS XS ⊢
          clear hw6
          refine (load_great gw _ _ _ _ _ _ (upd f q.toNat 65536) RS.out q.toNat HQ.out (fun j hj => by unfold upd; rw [if_neg (by omega)]; exact HF.out j) (by unfold upd; rw [if_pos rfl]; unfold IsWord; omega)).mono ?_
          rintro e w7 ⟨rfl, b7⟩
          have X7 := hide (XS.out.next b7)
          have B7 := hide (bnext BS.out b7)
          clear b7 XS BS RS
          go_wp2_with fail
          refine (words_all g _ _ _ _ _ _ _ X7.out).mono ?_
          rintro e w8 ⟨rfl, r8, b8⟩
          have R8 := hide r8
          have B8 := hide (bnext B7.out b8)
          clear b8 r8 X7 B7
          generalize w7.heap.size = gv at *
          go_wp2_with fail
          refine (load_low gv _ _ _ _ _ _ F R8.out FF.out PW.out PR.out PS.out (by unfold IsWord; omega) PB.out (by omega)).mono ?_
          rintro e w9 ⟨rfl, b9⟩
          have B9 := hide (bnext B8.out b9)
          clear b9 R8 B8
          go_wp2_with fail
          go_ret
          exact ⟨rfl, B9.out⟩
theorem vramLoads_walk (a0 : Option Addr) (len0 cap0 : Nat) (a1 : Option Addr) (len1 cap1 : Nat) (a2 : Int) (w : World) (w0 : IsStructs [some .i64, some .i64, some .i64, none] w a0 len0 cap0) (w1 : IsStructs [some .i64, some .i64, some .i64, none] w a1 len1 cap1) (w2 : (Lit.int .i64 a2).wf = true) : Calls Try.prog 4 #[.slice a0 len0 cap0, .slice a1 len1 cap1, .int .i64 a2] w fun e w' => e = .returned (.bool true) ∧ Below w.heap.size w w' := by
  have hm0 := w0.max
  have hm1 := w1.max
  have hx0 : len0 < 9223372036854775808 := by simp [maxLen] at hm0; omega
  have hx1 : len1 < 9223372036854775808 := by simp [maxLen] at hm1; omega
  by_cases hm : len0 ≤ 60
  · exact loads_short a0 len0 cap0 a1 len1 cap1 a2 (a2 % 32768) w w0 w1 hx0 hx1 (and_32767 a2) (by omega) (by omega) hm
  · exact loads_long a0 len0 cap0 a1 len1 cap1 a2 (a2 % 32768) w w0 w1 hx0 hx1 (and_32767 a2) (by omega) (by omega) (by omega)

set_option maxRecDepth 100000 in
theorem vramLoads_lifted (os : Os) (started : os.Started) (H : Type) (enc : TypeId × Value → H) :
    ReturnsInHanded {} Try.checked os 4 .any (Rows.vramLoadsSpec.pre6 enc Try.prog Try.f4 Rows.vramLoadsRow.domain false) (Rows.vramLoadsSpec.post enc Try.prog Try.f4 false true false false) := by
  refine returnsInHanded_of_change (C := Try.checked) own started (by kernel_rfl) Try.func4
    (ChangeSpec.witness6 (enc := enc) (C := Try.checked) false ⟨#[], #[.slice none 0 0, .slice none 0 0, .int .i64 0], []⟩ 8 (by kernel_rfl) (by kernel_rfl) (by kernel_rfl) (by kernel_rfl)) ?_
  intro W base args ds gs before hval0 hW hcnd _
  have hval : ∀ (j : Nat) t v, Try.f4.params[j]? = some t → args[j]? = some v → Value.okWide Try.prog W .any base t v := hval0
  have hW' := hW
  obtain ⟨p, q, hA0, hV, rfl, hfz, hnd⟩ := hW
  have hA : DataW.TrodAll enc Try.prog W 0 (fun _ => true) true Try.f4.params.toList args.toList ds p := hA0
  rw [Try.params4] at hA hval
  obtain ⟨v0, vs0, d0, ds0, p0, q0, hargs, rfl, rfl, h0, r0⟩ := trodAll_cons hA
  obtain ⟨v1, vs1, d1, ds1, p1, q1, rfl, rfl, rfl, h1, r1⟩ := trodAll_cons r0
  obtain ⟨v2, vs2, d2, ds2, p2, q2, rfl, rfl, rfl, h2, r2⟩ := trodAll_cons r1
  obtain ⟨rfl, rfl, rfl⟩ := trodAll_nil r2
  obtain rfl : args = #[v0, v1, v2] := by cases args; simp_all
  obtain ⟨rfl, rfl⟩ := trodVars_none hV
  obtain ⟨a0, len0, cap0, rfl⟩ := okWide_slice Try.underlying22 (hval 0 22 v0 rfl rfl)
  have k0 := h0
  have lt0 : ∀ x ∈ p0, x.block < W.heap.size := by obtain ⟨m, hm⟩ := k0; exact DataW.trod_lt m _ _ _ hm
  have w0 : IsStructs [some .i64, some .i64, some .i64, none] W a0 len0 cap0 := open_structs Try.underlying22 Try.underlying28 (by kernel_rfl) (fun j k hk => by
    rcases j with _ | _ | _ | _ | j
    · cases hk; exact ⟨_, rfl, rfl, by kernel_rfl, Try.underlying3⟩
    · cases hk; exact ⟨_, rfl, rfl, by kernel_rfl, Try.underlying3⟩
    · cases hk; exact ⟨_, rfl, rfl, by kernel_rfl, Try.underlying3⟩
    · cases hk; exact ⟨_, rfl, rfl, by kernel_rfl, Try.underlying4⟩
    · simp at hk) h0
  obtain ⟨a1, len1, cap1, rfl⟩ := okWide_slice Try.underlying22 (hval 1 22 v1 rfl rfl)
  have k1 := h1
  have lt1 : ∀ x ∈ p1, x.block < W.heap.size := by obtain ⟨m, hm⟩ := k1; exact DataW.trod_lt m _ _ _ hm
  have w1 : IsStructs [some .i64, some .i64, some .i64, none] W a1 len1 cap1 := open_structs Try.underlying22 Try.underlying28 (by kernel_rfl) (fun j k hk => by
    rcases j with _ | _ | _ | _ | j
    · cases hk; exact ⟨_, rfl, rfl, by kernel_rfl, Try.underlying3⟩
    · cases hk; exact ⟨_, rfl, rfl, by kernel_rfl, Try.underlying3⟩
    · cases hk; exact ⟨_, rfl, rfl, by kernel_rfl, Try.underlying3⟩
    · cases hk; exact ⟨_, rfl, rfl, by kernel_rfl, Try.underlying4⟩
    · simp at hk) h1
  obtain ⟨a2, rfl, rfl, rfl, w2⟩ := open_int Try.underlying3 (hval 2 3 v2 rfl rfl) h2
  clear hA0 hval0
  refine (vramLoads_walk a0 len0 cap0 a1 len1 cap1 a2 W w0 w1 w2).mono fun e W' ⟨he, bel⟩ => ?_
  subst he
  exact ⟨_, rfl, _, _, _, [], _, [], hW', trodAll_mk1 (shut_bool Try.underlying4 _), (trodAll_cons_mk (Below.trod laidOut (by kernel_rfl) (of_decide_eq_true (by kernel_rfl)) k0 bel lt0) (trodAll_cons_mk (Below.trod laidOut (by kernel_rfl) (of_decide_eq_true (by kernel_rfl)) k1 bel lt1) (trodAll_cons_mk (shut_int Try.underlying3 w2) trodAll_mk0))), rfl, bel.frame _, fun h => by cases h⟩

theorem vramLoads_over : Rows.vramLoadsRow.holds Try.pinned (OpenSpec.ofChange Rows.vramLoadsSpec) :=
  OpenClaim.holds_of_wide 4 Try.f4 rfl rfl rfl rfl rfl rfl rfl ⟨rfl, rfl, rfl, rfl, rfl⟩ rfl rfl rfl rfl rfl (by kernel_rfl) Try.func4 (by kernel_rfl)
    (of_decide_eq_true (by kernel_rfl)) (by unfold Func.isWrapper; first | (rw [if_pos (by decide +kernel)]; kernel_rfl) | (rw [if_neg (by decide +kernel)]; exact ⟨rfl, rfl⟩))
    (fun os started H enc _ => vramLoads_lifted os started H enc)

theorem vramLoads_holds : Rows.VramLoadsSaid := vramLoads_over
#print axioms vramLoads_holds

end Go.Proofs.Ytbeiphnlckflpaa
