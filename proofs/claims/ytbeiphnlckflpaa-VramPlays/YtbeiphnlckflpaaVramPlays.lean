/- VramPlays, at the landed commit: whatever slice of calls and two integers come in, the call returns true: video memory under any calls has the document's words and ports, and tells its bytes. No condition. -/
import Derived.Test.YtbeiphnlckflpaaActs13
import Derived.Test.YtbeiphnlckflpaaRef13
import Derived.Deep.CutRange
import Derived.Deep.CutBlock
namespace Go.Proofs.Ytbeiphnlckflpaa
open Go.ChangeShapes Go.WideShapes Go.ChangeAt Go.RowKit
set_option linter.unusedVariables false

theorem HasS.next {w w' : World} {b : Nat} {S : St} (h : HasS w b S) (k : Below w.heap.size w w') : HasS w' b S := (k.block b (lt_of_block h)).trans h
theorem HasM.only2 {w w' : World} {b c d : Nat} {m : Bool} {f : Nat → Int} {wr rd st lo bu : Int} (h : HasM w b m f wr rd st lo bu) (o : Only2 c d w w') (hc : b ≠ c) (hd : b ≠ d) : HasM w' b m f wr rd st lo bu := o.obj h hc hd
theorem HasM.other {w : World} {b : Nat} {m : Bool} {f : Nat → Int} {wr rd st lo bu : Int} (h : HasM w b m f wr rd st lo bu) (p : Addr) (v : Value) (hb : b ≠ p.block) : HasM (w.setCell p v) b m f wr rd st lo bu := (Below.heap_setCell _ _ _ _ hb).trans h
def HasRS (w : World) (c d : Nat) (S : St) : Prop := HasR w c d S.1 S.2.1 S.2.2.1 S.2.2.2.1 S.2.2.2.2.1 S.2.2.2.2.2
theorem words_out (b : Nat) (f : Nat → Int) (wr rd st lo bu : Int) (w : World) (h : HasM w b true f wr rd st lo bu) (at_ n : Int) (hn : n < 0 ∨ 65536 < n) : Calls Try.prog 23 #[.pointer (some ⟨b, 0, none⟩), .int .i64 at_, .int .i64 n] w fun e w' => e = .returned (.slice none 0 0) ∧ w' = w := by
  have c0 := h.c0
  clear h
  rcases hn with hn | hn
  all_goals
    go_enter Try.func23, Try.ntmps23
    go_wp2_with (first | (go_at_call 26; refine (missing_is b true _ c0).mono ?_; rintro e w' ⟨rfl, hw⟩; subst w'))
    go_ret
    exact ⟨rfl, rfl⟩
set_option maxHeartbeats 40000000 in
theorem plays_any (a0 : Option Addr) (len0 cap0 : Nat) (a1 a2 : Int) (w : World) (R0 : Hid (IsActs w a0 len0 cap0)) (hx0 : len0 < 9223372036854775808) : Calls Try.prog 3 #[.slice a0 len0 cap0, .int .i64 a1, .int .i64 a2] w fun e w' => e = .returned (.bool true) ∧ Below w.heap.size w w' := by
  set_option maxRecDepth 20000 in
  go_enter Try.func3, Try.ntmps3
  go_wp2_with fail
  refine (new_any _).mono ?_
  rintro e w1 ⟨rfl, h1, b1⟩
  have H1 := hide (show HasS w1 w.heap.size newS from h1)
  have B1 := hide b1
  clear h1 b1
  obtain ⟨g, hg⟩ : ∃ g, w.heap.size = g := ⟨_, rfl⟩
  rw [hg] at H1 ⊢
  have HG := hide (Nat.le_of_eq hg)
  clear hg
  go_wp2_with fail
  refine (rnew_any _).mono ?_
  rintro e w2 ⟨rfl, h2, b2⟩
  have H2 := hide (H1.out.next b2)
  have K2 := hide (show HasRS w2 (w1.heap.size + 1) w1.heap.size newS from h2)
  have B2 := hide (bnext B1.out b2)
  have HD := hide B1.out.size
  have ND := hide (Nat.ne_of_lt (lt_of_block H1.out))
  obtain ⟨d, hd⟩ : ∃ d, w1.heap.size = d := ⟨_, rfl⟩
  obtain ⟨c, hc⟩ : ∃ c, d + 1 = c := ⟨_, rfl⟩
  rw [hd] at K2 HD ND ⊢
  rw [hc] at K2 ⊢
  have HC := hide (show w.heap.size ≤ c by have := HD.out; omega)
  have NC := hide (show g ≠ c by have := lt_of_block H1.out; omega)
  clear h2 b2 H1 B1 hd hc
  go_wp2_with fail
  go_loopw [9] (fun si wr => ∃ (k : Nat) (S : St), k ≤ len0 ∧ k ≤ 120 ∧ si = .int .i64 (k : Int) ∧ Good S ∧ HasS wr g S ∧ HasRS wr c d S ∧ Below w.heap.size w wr) (fun si _ => 120 - (intOf si).toNat)
  case atStart => exact ⟨0, newS, Nat.zero_le _, Nat.zero_le _, rfl, good_new, H2.out, K2.out, B2.out⟩
  case round =>
    obtain ⟨k, S, hk, hk2, rfl, hS, hv, hr, hb⟩ := hrel
    have VK := hide hv
    have RK := hide hr
    have BK := hide hb
    have GK := hide hS
    clear hv hr hb hS H2 K2 B2
    by_cases hlt : k < len0
    · by_cases hl6 : k < 120
      · obtain ⟨ab, off, kk, n, x, hi, rfl, hab, hc1, hc2, hcs⟩ := R0.out.act k hlt
        obtain ⟨c0, c1, c2, c3⟩ := hcs wr BK.out
        clear hcs
        obtain ⟨f, pw, pr, ps, pl, pb⟩ := S
        obtain ⟨_, hpw, hpr, hps, _, hpb⟩ := GK.out
        have PW : Hid (IsWord pw) := hpw
        have PR : Hid (IsWord pr) := hpr
        have PS : Hid (IsWord ps) := hps
        have PB : Hid (IsWord pb) := hpb
        clear hpw hpr hps hpb
        obtain ⟨ga, hga⟩ : ∃ ga, wr.heap.size = ga := ⟨_, rfl⟩
        obtain ⟨wa, hwa⟩ : ∃ wa, wa = wr.alloc (.cells #[.int .i64 kk, .int .i64 n, .int .i64 x, .bool hi] 28) := ⟨_, rfl⟩
        have AA := hide (show wa.heap[ga]? = some (.cells #[.int .i64 kk, .int .i64 n, .int .i64 x, .bool hi] 28 (0, 0)) by rw [hwa, ← hga]; exact heap_alloc_new _ _)
        have bA : Below wr.heap.size wr wa := by rw [hwa]; exact (Below.refl _ _).alloc (Nat.le_refl _) _
        have VA := hide (show HasM wa g true f pw pr ps pl pb from (show HasM wr g true f pw pr ps pl pb from VK.out).next bA)
        have RA := hide (show HasR wa c d f pw pr ps pl pb from (show HasR wr c d f pw pr ps pl pb from RK.out).next bA)
        have BA := hide (bnext BK.out bA)
        have NG := hide (show ga ≠ g by have := lt_of_block VK.out; omega)
        have NGC := hide (show ga ≠ c by have := RK.out.lt; omega)
        have NGD := hide (show ga ≠ d by have := lt_of_block RK.out.2.1; omega)
        have HW := hide hwa
        have HGA := hide hga
        clear hwa hga bA
        set_option maxRecDepth 20000 in
        go_upto_block 2 with fail
        rw [← HW.out, HGA.out]
        clear HW HGA c0 c1 c2 c3 VK RK BK
        go_cut [] from 27 to 172 (fun wx => HasS wx g (stepS (f, pw, pr, ps, pl, pb) kk n x hi) ∧ HasRS wx c d (stepS (f, pw, pr, ps, pl, pb) kk n x hi) ∧ wx.heap[ga]? = some (.cells #[.int .i64 kk, .int .i64 n, .int .i64 x, .bool hi] 28 (0, 0)) ∧ Below w.heap.size w wx)
        case first =>
          have cn := (cell_of_row wa ga 1 _ _ _ AA.out).trans rfl
          have ck := (cell_of_row wa ga 3 _ _ _ AA.out).trans rfl
          by_cases h0 : kk = 0
          · subst h0
            set_option maxRecDepth 20000 in go_wp2_with fail
            refine (setWrite_is g _ _ _ _ _ _ _ VA.out n _ rfl).mono ?_
            rintro e w3 ⟨rfl, h3, o3⟩
            have V3 := hide h3
            have R3 := hide (RA.out.only o3 NC.out.symm ND.out.symm)
            have A3 := hide (o3.obj AA.out NG.out)
            have B3 := hide (bonly BA.out o3 HG.out (Nat.le_refl _))
            clear h3 o3 VA RA AA BA cn ck
            have cn := (cell_of_row w3 ga 1 _ _ _ A3.out).trans rfl
            have cy := R3.out.c1
            have zy := R3.out.frozen 1
            have en := and_65535 n
            set_option maxRecDepth 20000 in go_wp2_with fail
            have V4 := hide (V3.out.other ⟨c, 1, none⟩ (.int .i64 (n % 65536)) NC.out)
            have R4 := hide (R3.out.set1 (n % 65536))
            have A4 := hide ((Below.heap_setCell w3 ⟨c, 1, none⟩ (.int .i64 (n % 65536)) _ NGC.out).trans A3.out)
            have B4 := hide (B3.out.setCell (p := ⟨c, 1, none⟩) HC.out (.int .i64 (n % 65536)))
            obtain ⟨w4, hw4⟩ : ∃ w4, w4 = w3.setCell ⟨c, 1, none⟩ (.int .i64 (n % 65536)) := ⟨_, rfl⟩
            rw [← hw4] at V4 R4 A4 B4 ⊢
            clear hw4 V3 R3 A3 B3 cy zy cn en
            go_meet
            case rel => exact ⟨V4.out, R4.out, A4.out, B4.out⟩
          by_cases h1 : kk = 1
          · subst h1
            set_option maxRecDepth 20000 in go_wp2_with fail
            refine (setRead_is g _ _ _ _ _ _ _ VA.out n _ _ rfl rfl).mono ?_
            rintro e w3 ⟨rfl, h3, o3⟩
            have V3 := hide h3
            have R3 := hide (RA.out.only o3 NC.out.symm ND.out.symm)
            have A3 := hide (o3.obj AA.out NG.out)
            have B3 := hide (bonly BA.out o3 HG.out (Nat.le_refl _))
            clear h3 o3 VA RA AA BA cn ck
            have cn := (cell_of_row w3 ga 1 _ _ _ A3.out).trans rfl
            set_option maxRecDepth 20000 in go_wp2_with fail
            refine (rsetRead_is c d _ _ _ _ _ _ _ R3.out n _ _ rfl rfl).mono ?_
            rintro e w4 ⟨rfl, h4, o4⟩
            have V4 := hide (V3.out.only2 o4 NC.out ND.out)
            have R4 := hide h4
            have A4 := hide (o4.obj A3.out NGC.out NGD.out)
            have B4 := hide (bonly2 B3.out o4 HC.out HD.out (Nat.le_refl _))
            clear h4 o4 V3 R3 A3 B3 cn
            set_option maxRecDepth 20000 in go_wp2_with fail
            go_meet
            case rel => exact ⟨V4.out, R4.out, A4.out, B4.out⟩
          by_cases h2 : kk = 2
          · subst h2
            set_option maxRecDepth 20000 in go_wp2_with fail
            refine (setStep_is g _ _ _ _ _ _ _ VA.out n _ rfl).mono ?_
            rintro e w3 ⟨rfl, h3, o3⟩
            have V3 := hide h3
            have R3 := hide (RA.out.only o3 NC.out.symm ND.out.symm)
            have A3 := hide (o3.obj AA.out NG.out)
            have B3 := hide (bonly BA.out o3 HG.out (Nat.le_refl _))
            clear h3 o3 VA RA AA BA cn ck
            have cn := (cell_of_row w3 ga 1 _ _ _ A3.out).trans rfl
            have cy := R3.out.c3
            have zy := R3.out.frozen 3
            have en := and_65535 n
            set_option maxRecDepth 20000 in go_wp2_with fail
            have V4 := hide (V3.out.other ⟨c, 3, none⟩ (.int .i64 (n % 65536)) NC.out)
            have R4 := hide (R3.out.set3 (n % 65536))
            have A4 := hide ((Below.heap_setCell w3 ⟨c, 3, none⟩ (.int .i64 (n % 65536)) _ NGC.out).trans A3.out)
            have B4 := hide (B3.out.setCell (p := ⟨c, 3, none⟩) HC.out (.int .i64 (n % 65536)))
            obtain ⟨w4, hw4⟩ : ∃ w4, w4 = w3.setCell ⟨c, 3, none⟩ (.int .i64 (n % 65536)) := ⟨_, rfl⟩
            rw [← hw4] at V4 R4 A4 B4 ⊢
            clear hw4 V3 R3 A3 B3 cy zy cn en
            go_meet
            case rel => exact ⟨V4.out, R4.out, A4.out, B4.out⟩
          by_cases h3 : kk = 3
          · subst h3
            cases hi
            · set_option maxRecDepth 20000 in go_wp2_with fail
              refine (putLow_is g _ _ _ _ _ _ _ VA.out n _ rfl).mono ?_
              rintro e w3 ⟨rfl, h3, o3⟩
              have V3 := hide h3
              have R3 := hide (RA.out.only o3 NC.out.symm ND.out.symm)
              have A3 := hide (o3.obj AA.out NG.out)
              have B3 := hide (bonly BA.out o3 HG.out (Nat.le_refl _))
              clear h3 o3 VA RA AA BA cn ck
              have cn := (cell_of_row w3 ga 1 _ _ _ A3.out).trans rfl
              have ch := (cell_of_row w3 ga 3 _ _ _ A3.out).trans rfl
              set_option maxRecDepth 20000 in go_wp2_with fail
              clear ch
              refine (rputLow_is c d _ _ _ _ _ _ _ R3.out n _ rfl).mono ?_
              rintro e w4 ⟨rfl, h4, o4⟩
              have V4 := hide (V3.out.only2 o4 NC.out ND.out)
              have R4 := hide h4
              have A4 := hide (o4.obj A3.out NGC.out NGD.out)
              have B4 := hide (bonly2 B3.out o4 HC.out HD.out (Nat.le_refl _))
              clear h4 o4 V3 R3 A3 B3 cn
              set_option maxRecDepth 20000 in go_wp2_with fail
              go_meet
              case rel => exact ⟨V4.out, R4.out, A4.out, B4.out⟩
            · set_option maxRecDepth 20000 in go_wp2_with fail
              refine (putHigh_is g _ _ _ _ _ _ _ VA.out n _ _ _ rfl rfl PW.out.1 PW.out.2 PS.out.1 PS.out.2 rfl).mono ?_
              rintro e w3 ⟨rfl, h3, o3⟩
              have V3 := hide h3
              have R3 := hide (RA.out.only o3 NC.out.symm ND.out.symm)
              have A3 := hide (o3.obj AA.out NG.out)
              have B3 := hide (bonly BA.out o3 HG.out (Nat.le_refl _))
              clear h3 o3 VA RA AA BA cn ck
              have cn := (cell_of_row w3 ga 1 _ _ _ A3.out).trans rfl
              have ch := (cell_of_row w3 ga 3 _ _ _ A3.out).trans rfl
              set_option maxRecDepth 20000 in go_wp2_with fail
              clear ch
              refine (rputHigh_is c d _ _ _ _ _ _ _ R3.out n _ _ _ rfl rfl PW.out.1 PW.out.2 PS.out.1 PS.out.2 rfl).mono ?_
              rintro e w4 ⟨rfl, h4, o4⟩
              have V4 := hide (V3.out.only2 o4 NC.out ND.out)
              have R4 := hide h4
              have A4 := hide (o4.obj A3.out NGC.out NGD.out)
              have B4 := hide (bonly2 B3.out o4 HC.out HD.out (Nat.le_refl _))
              clear h4 o4 V3 R3 A3 B3 cn
              set_option maxRecDepth 20000 in go_wp2_with fail
              go_meet
              case rel => exact ⟨V4.out, R4.out, A4.out, B4.out⟩
          by_cases h4 : kk = 4
          · subst h4
            cases hi
            · have kh := kept_cell ((cell_of_row wa ga 3 _ _ _ AA.out).trans rfl) (lt_of_block AA.out)
              set_option maxRecDepth 20000 in go_wp2_with fail
              haveI := kept_some wa
              refine wp_region_kept (by kernel_rfl) (by kernel_rfl) ?_
              set_option maxRecDepth 20000 in
              repeat (go_big_quiet_step ((first
                | (go_at_call 16; exact kept_same (getLow_is g _ _ _ _ _ _ _ (VA.out.next (Kept.below _))))
                | (go_at_call 17; exact kept_same (rgetLow_is c d _ _ _ _ _ _ _ (RA.out.next (Kept.below _)) PB.out.1 PB.out.2)))))
              refine wpQuiet_nil ?_
              rintro _ ⟨w4, rfl⟩
              have V4 := hide (VA.out.next w4.below)
              have R4 := hide (RA.out.next w4.below)
              have A4 := hide ((w4.below.block ga (lt_of_block AA.out)).trans AA.out)
              have B4 := hide (bnext BA.out w4.below)
              clear VA RA AA BA kh cn ck
              set_option maxRecDepth 20000 in go_wp2_with fail
              go_meet
              case rel => exact ⟨V4.out, R4.out, A4.out, B4.out⟩
            · have AD := hide (show wa.drew.heap[ga]? = some (.cells #[.int .i64 4, .int .i64 n, .int .i64 x, .bool true] 28 (0, 0)) from AA.out)
              have VD := hide (show HasM wa.drew g true f pw pr ps pl pb from VA.out)
              have RD := hide (show HasR wa.drew c d f pw pr ps pl pb from RA.out)
              have BD := hide BA.out.drew
              clear VA RA AA BA
              set_option maxRecDepth 20000 in go_wp2_with fail
              set_option maxRecDepth 20000 in
              go_region_with (first
                | (go_at_call 16; refine (getHigh_is g _ _ _ _ _ _ _ VD.out _ _ PR.out.1 PR.out.2 PS.out.1 PS.out.2 rfl rfl).mono ?_; rintro e w3 ⟨rfl, h3, o3⟩; have r3 := RD.out.only o3 NC.out.symm ND.out.symm; have a3 := o3.obj AD.out NG.out; have b3 := bonly BD.out o3 HG.out (Nat.le_refl _); have ch3 := (cell_of_row w3 ga 3 _ _ _ a3).trans rfl)
                | (go_at_call 17; refine (rgetHigh_is c d _ _ _ _ _ _ _ r3 _ _ PB.out.1 PB.out.2 PR.out.1 PR.out.2 PS.out.1 PS.out.2 rfl rfl).mono ?_; rintro e w4 ⟨rfl, h4, o4⟩))
              all_goals
                have V4 := hide (h3.only2 o4 NC.out ND.out)
                have R4 := hide h4
                have A4 := hide (o4.obj a3 NGC.out NGD.out)
                have B4 := hide (bonly2 b3 o4 HC.out HD.out (Nat.le_refl _))
                clear h3 o3 r3 a3 b3 ch3 h4 o4
                set_option maxRecDepth 20000 in go_wp2_with fail
                go_meet
                case rel => exact ⟨V4.out, R4.out, A4.out, B4.out⟩
          by_cases h5 : kk = 5
          · subst h5
            have cx := (cell_of_row wa ga 2 _ _ _ AA.out).trans rfl
            set_option maxRecDepth 20000 in go_wp2_with fail
            clear cx
            refine (poke_is g _ _ _ _ _ _ _ VA.out n x _ rfl).mono ?_
            rintro e w3 ⟨rfl, h3, o3⟩
            have V3 := hide h3
            have R3 := hide (RA.out.only o3 NC.out.symm ND.out.symm)
            have A3 := hide (o3.obj AA.out NG.out)
            have B3 := hide (bonly BA.out o3 HG.out (Nat.le_refl _))
            clear h3 o3 VA RA AA BA cn ck
            have cn := (cell_of_row w3 ga 1 _ _ _ A3.out).trans rfl
            have cx := (cell_of_row w3 ga 2 _ _ _ A3.out).trans rfl
            set_option maxRecDepth 20000 in go_wp2_with fail
            clear cx
            refine (rpoke_is c d _ _ _ _ _ _ _ R3.out n x _ rfl).mono ?_
            rintro e w4 ⟨rfl, h4, o4⟩
            have V4 := hide (V3.out.only2 o4 NC.out ND.out)
            have R4 := hide h4
            have A4 := hide (o4.obj A3.out NGC.out NGD.out)
            have B4 := hide (bonly2 B3.out o4 HC.out HD.out (Nat.le_refl _))
            clear h4 o4 V3 R3 A3 B3 cn
            set_option maxRecDepth 20000 in go_wp2_with fail
            go_meet
            case rel => exact ⟨V4.out, R4.out, A4.out, B4.out⟩
          · set_option maxRecDepth 20000 in go_wp2_with fail
            go_meet
            case rel =>
              rw [stepS_no (f, pw, pr, ps, pl, pb) kk n x hi h0 h1 h2 h3 h4 h5]
              exact ⟨VA.out, RA.out, AA.out, BA.out⟩
        case rest =>
          obtain ⟨v4, r4, a4, b4⟩ := hcut
          have g4 := good_step GK.out kk n x hi
          generalize stepS (f, pw, pr, ps, pl, pb) kk n x hi = S4 at *
          obtain ⟨f4, pw4, pr4, ps4, pl4, pb4⟩ := S4
          have G4 := hide g4
          have V4 : Hid (HasM wc g true f4 pw4 pr4 ps4 pl4 pb4) := v4
          have R4 : Hid (HasR wc c d f4 pw4 pr4 ps4 pl4 pb4) := r4
          have A4 := hide a4
          have B4 := hide b4
          clear v4 r4 a4 b4 g4 VA RA AA BA GK
          set_option maxRecDepth 20000 in go_wp2_with fail
          refine (ports_is g _ _ _ _ _ _ _ V4.out).mono ?_
          rintro e w5 ⟨rfl, b5⟩
          have V5 := hide (V4.out.next b5)
          have R5 := hide (R4.out.next b5)
          have A5 := hide ((b5.block ga (lt_of_block A4.out)).trans A4.out)
          have B5 := hide (bnext B4.out b5)
          clear b5 V4 R4 A4 B4
          have k1 := kept_cell R5.out.c1 R5.out.lt
          have k2 := kept_cell R5.out.c2 R5.out.lt
          have k3 := kept_cell R5.out.c3 R5.out.lt
          have k4 := kept_cell R5.out.c4 R5.out.lt
          have k5 := kept_cell R5.out.c5 R5.out.lt
          have kn := kept_cell ((cell_of_row w5 ga 1 _ _ _ A5.out).trans rfl) (lt_of_block A5.out)
          set_option maxRecDepth 20000 in go_wp2_with fail
          haveI := kept_some w5
          refine wp_region_kept (by kernel_rfl) (by kernel_rfl) ?_
          set_option maxRecDepth 20000 in
          repeat (go_big_quiet_step ((first
            | (go_at_call 21; exact kept_same (word_is g _ _ _ _ _ _ _ (V5.out.next (Kept.below _)) n _ rfl))
            | (go_at_call 22; exact kept_same (rword_is c d _ _ _ _ _ _ _ (R5.out.next (Kept.below _)) n _ rfl)))))
          refine wpQuiet_nil ?_
          rintro _ ⟨wk, rfl⟩
          have V6 := hide (V5.out.next wk.below)
          have R6 := hide (R5.out.next wk.below)
          have B6 := hide (bnext B5.out wk.below)
          clear k1 k2 k3 k4 k5 kn V5 R5 A5 B5
          set_option maxRecDepth 20000 in go_wp2_with fail
          go_roundw
          case rel => exact ⟨k + 1, _, by omega, by omega, by go_num, G4.out, V6.out, R6.out, B6.out⟩
          case measure => simp [intOf]; omega
      · skip
        obtain ⟨f, pw, pr, ps, pl, pb⟩ := S
        have V1 : Hid (HasM wr g true f pw pr ps pl pb) := VK.out
        have R1 : Hid (HasR wr c d f pw pr ps pl pb) := RK.out
        clear VK RK GK
        by_cases hn : 0 ≤ a2 ∧ a2 ≤ 65536
        · obtain ⟨hn0, hn1⟩ := hn
          obtain ⟨p, hp⟩ : ∃ p, a1 % 65536 = p := ⟨_, rfl⟩
          have ep := and_65535 a1
          rw [hp] at ep
          have hp0 : 0 ≤ p := by omega
          have hp1 : p < 65536 := by omega
          have HP := hide hp
          clear hp
          have hN : ((a2.toNat : Nat) : Int) = a2 := by omega
          set_option maxRecDepth 20000 in go_wp2_with fail
          refine (words_is g _ _ _ _ _ _ _ V1.out a1 a2 p HP.out hn0 hn1).mono ?_
          rintro e w2 ⟨rfl, l2, b2⟩
          have L2 := hide l2
          have R2 := hide (R1.out.next b2)
          have B2 := hide (bnext BK.out b2)
          clear l2 b2 V1 R1 BK HP
          generalize wr.heap.size = gl at *
          set_option maxRecDepth 20000 in go_wp2_with fail
          go_loopw [17] (fun si wj => ∃ j : Nat, (j : Int) ≤ a2 ∧ j ≤ 300 ∧ si = .int .i64 (j : Int) ∧ wj.heap[gl]? = some (.cells (toldL f p a2.toNat).toArray 3 (0, 0)) ∧ HasR wj c d f pw pr ps pl pb ∧ Below w.heap.size w wj) (fun si _ => 300 - (intOf si).toNat)
          case atStart => exact ⟨0, by simpa using hn0, Nat.zero_le _, rfl, L2.out, R2.out, B2.out⟩
          case round =>
            obtain ⟨j, hj, hj3, rfl, hl, hr, hb⟩ := hrel
            have LJ := hide hl
            have RJ := hide hr
            have BJ := hide hb
            clear hl hr hb L2 R2 B2
            by_cases hja : (j : Int) < a2
            · by_cases hj300 : j < 300
              · have kj := kept_cell ((cell_of_row wr gl j _ _ _ LJ.out).trans (by rw [List.getElem?_toArray]; exact toldL_at f p a2.toNat j (by omega))) (lt_of_block LJ.out)
                set_option maxRecDepth 20000 in go_wp2_with fail
                haveI := kept_some wr
                refine wp_region_kept (by kernel_rfl) (by kernel_rfl) ?_
                set_option maxRecDepth 20000 in
                repeat (go_big_quiet_step ((first
                  | (go_at_call 22; exact kept_same (rword_is c d _ _ _ _ _ _ _ (RJ.out.next (Kept.below _)) (p + (j : Int)) _ rfl)))))
                refine wpQuiet_nil ?_
                rintro _ ⟨wk, rfl⟩
                have L3 := hide ((wk.below.block gl (lt_of_block LJ.out)).trans LJ.out)
                have R3 := hide (RJ.out.next wk.below)
                have B3 := hide (bnext BJ.out wk.below)
                clear kj LJ RJ BJ
                set_option maxRecDepth 20000 in go_wp2_with fail
                go_roundw
                case rel => exact ⟨j + 1, by omega, by omega, by go_num, L3.out, R3.out, B3.out⟩
                case measure => simp [intOf]; omega
              · set_option maxRecDepth 20000 in go_wp2_with fail
                refine (new_any _).mono ?_
                rintro e w3 ⟨rfl, h3, b3⟩
                have B3 := hide (bnext BJ.out b3)
                have H3 := hide h3
                clear b3 h3
                set_option maxRecDepth 20000 in go_wp2_with fail
                refine (ports_is _ _ _ _ _ _ _ _ H3.out).mono ?_
                rintro e w4 ⟨rfl, b4⟩
                have B4 := hide (bnext B3.out b4)
                clear b4
                set_option maxRecDepth 20000 in go_wp2_with fail
                go_ret
                exact ⟨rfl, B4.out⟩
            · set_option maxRecDepth 20000 in go_wp2_with fail
              refine (new_any _).mono ?_
              rintro e w3 ⟨rfl, h3, b3⟩
              have B3 := hide (bnext BJ.out b3)
              have H3 := hide h3
              clear b3 h3
              set_option maxRecDepth 20000 in go_wp2_with fail
              refine (ports_is _ _ _ _ _ _ _ _ H3.out).mono ?_
              rintro e w4 ⟨rfl, b4⟩
              have B4 := hide (bnext B3.out b4)
              clear b4
              set_option maxRecDepth 20000 in go_wp2_with fail
              go_ret
              exact ⟨rfl, B4.out⟩
        · have hn2 : a2 < 0 ∨ 65536 < a2 := by omega
          have HN := hide hn2
          have hb : (decide (a2 < 0) || decide (65536 < a2)) = true := by rcases hn2 with h | h <;> simp [h]
          clear hn hn2
          set_option maxRecDepth 20000 in go_wp2_with fail
          refine (words_out g _ _ _ _ _ _ _ V1.out a1 a2 HN.out).mono ?_
          rintro e w2 ⟨rfl, hw⟩
          subst w2
          rcases HN.out with h | h
          · set_option maxRecDepth 20000 in go_wp2_with fail
            go_ret
            exact ⟨rfl, BK.out⟩
          · have h' : ¬ a2 < 0 := by omega
            set_option maxRecDepth 20000 in go_wp2_with fail
            go_ret
            exact ⟨rfl, BK.out⟩
    · skip
      obtain ⟨f, pw, pr, ps, pl, pb⟩ := S
      have V1 : Hid (HasM wr g true f pw pr ps pl pb) := VK.out
      have R1 : Hid (HasR wr c d f pw pr ps pl pb) := RK.out
      clear VK RK GK
      by_cases hn : 0 ≤ a2 ∧ a2 ≤ 65536
      · obtain ⟨hn0, hn1⟩ := hn
        obtain ⟨p, hp⟩ : ∃ p, a1 % 65536 = p := ⟨_, rfl⟩
        have ep := and_65535 a1
        rw [hp] at ep
        have hp0 : 0 ≤ p := by omega
        have hp1 : p < 65536 := by omega
        have HP := hide hp
        clear hp
        have hN : ((a2.toNat : Nat) : Int) = a2 := by omega
        set_option maxRecDepth 20000 in go_wp2_with fail
        refine (words_is g _ _ _ _ _ _ _ V1.out a1 a2 p HP.out hn0 hn1).mono ?_
        rintro e w2 ⟨rfl, l2, b2⟩
        have L2 := hide l2
        have R2 := hide (R1.out.next b2)
        have B2 := hide (bnext BK.out b2)
        clear l2 b2 V1 R1 BK HP
        generalize wr.heap.size = gl at *
        set_option maxRecDepth 20000 in go_wp2_with fail
        go_loopw [17] (fun si wj => ∃ j : Nat, (j : Int) ≤ a2 ∧ j ≤ 300 ∧ si = .int .i64 (j : Int) ∧ wj.heap[gl]? = some (.cells (toldL f p a2.toNat).toArray 3 (0, 0)) ∧ HasR wj c d f pw pr ps pl pb ∧ Below w.heap.size w wj) (fun si _ => 300 - (intOf si).toNat)
        case atStart => exact ⟨0, by simpa using hn0, Nat.zero_le _, rfl, L2.out, R2.out, B2.out⟩
        case round =>
          obtain ⟨j, hj, hj3, rfl, hl, hr, hb⟩ := hrel
          have LJ := hide hl
          have RJ := hide hr
          have BJ := hide hb
          clear hl hr hb L2 R2 B2
          by_cases hja : (j : Int) < a2
          · by_cases hj300 : j < 300
            · have kj := kept_cell ((cell_of_row wr gl j _ _ _ LJ.out).trans (by rw [List.getElem?_toArray]; exact toldL_at f p a2.toNat j (by omega))) (lt_of_block LJ.out)
              set_option maxRecDepth 20000 in go_wp2_with fail
              haveI := kept_some wr
              refine wp_region_kept (by kernel_rfl) (by kernel_rfl) ?_
              set_option maxRecDepth 20000 in
              repeat (go_big_quiet_step ((first
                | (go_at_call 22; exact kept_same (rword_is c d _ _ _ _ _ _ _ (RJ.out.next (Kept.below _)) (p + (j : Int)) _ rfl)))))
              refine wpQuiet_nil ?_
              rintro _ ⟨wk, rfl⟩
              have L3 := hide ((wk.below.block gl (lt_of_block LJ.out)).trans LJ.out)
              have R3 := hide (RJ.out.next wk.below)
              have B3 := hide (bnext BJ.out wk.below)
              clear kj LJ RJ BJ
              set_option maxRecDepth 20000 in go_wp2_with fail
              go_roundw
              case rel => exact ⟨j + 1, by omega, by omega, by go_num, L3.out, R3.out, B3.out⟩
              case measure => simp [intOf]; omega
            · set_option maxRecDepth 20000 in go_wp2_with fail
              refine (new_any _).mono ?_
              rintro e w3 ⟨rfl, h3, b3⟩
              have B3 := hide (bnext BJ.out b3)
              have H3 := hide h3
              clear b3 h3
              set_option maxRecDepth 20000 in go_wp2_with fail
              refine (ports_is _ _ _ _ _ _ _ _ H3.out).mono ?_
              rintro e w4 ⟨rfl, b4⟩
              have B4 := hide (bnext B3.out b4)
              clear b4
              set_option maxRecDepth 20000 in go_wp2_with fail
              go_ret
              exact ⟨rfl, B4.out⟩
          · set_option maxRecDepth 20000 in go_wp2_with fail
            refine (new_any _).mono ?_
            rintro e w3 ⟨rfl, h3, b3⟩
            have B3 := hide (bnext BJ.out b3)
            have H3 := hide h3
            clear b3 h3
            set_option maxRecDepth 20000 in go_wp2_with fail
            refine (ports_is _ _ _ _ _ _ _ _ H3.out).mono ?_
            rintro e w4 ⟨rfl, b4⟩
            have B4 := hide (bnext B3.out b4)
            clear b4
            set_option maxRecDepth 20000 in go_wp2_with fail
            go_ret
            exact ⟨rfl, B4.out⟩
      · have hn2 : a2 < 0 ∨ 65536 < a2 := by omega
        have HN := hide hn2
        have hb : (decide (a2 < 0) || decide (65536 < a2)) = true := by rcases hn2 with h | h <;> simp [h]
        clear hn hn2
        set_option maxRecDepth 20000 in go_wp2_with fail
        refine (words_out g _ _ _ _ _ _ _ V1.out a1 a2 HN.out).mono ?_
        rintro e w2 ⟨rfl, hw⟩
        subst w2
        rcases HN.out with h | h
        · set_option maxRecDepth 20000 in go_wp2_with fail
          go_ret
          exact ⟨rfl, BK.out⟩
        · have h' : ¬ a2 < 0 := by omega
          set_option maxRecDepth 20000 in go_wp2_with fail
          go_ret
          exact ⟨rfl, BK.out⟩
theorem vramPlays_walk (a0 : Option Addr) (len0 cap0 : Nat) (a1 a2 : Int) (w : World) (w0 : IsStructs [some .i64, some .i64, some .i64, none] w a0 len0 cap0) (w1 : (Lit.int .i64 a1).wf = true) (w2 : (Lit.int .i64 a2).wf = true) : Calls Try.prog 3 #[.slice a0 len0 cap0, .int .i64 a1, .int .i64 a2] w fun e w' => e = .returned (.bool true) ∧ Below w.heap.size w w' := by
  have hm0 := w0.max
  have hx0 : len0 < 9223372036854775808 := by simp [maxLen] at hm0; omega
  exact plays_any a0 len0 cap0 a1 a2 w w0 hx0

set_option maxRecDepth 100000 in
theorem vramPlays_lifted (os : Os) (started : os.Started) (H : Type) (enc : TypeId × Value → H) :
    ReturnsInHanded {} Try.checked os 3 .any (Rows.vramPlaysSpec.pre6 enc Try.prog Try.f3 Rows.vramPlaysRow.domain false) (Rows.vramPlaysSpec.post enc Try.prog Try.f3 false true false false) := by
  refine returnsInHanded_of_change (C := Try.checked) own started (by kernel_rfl) Try.func3
    (ChangeSpec.witness6 (enc := enc) (C := Try.checked) false ⟨#[], #[.slice none 0 0, .int .i64 0, .int .i64 0], []⟩ 8 (by kernel_rfl) (by kernel_rfl) (by kernel_rfl) (by kernel_rfl)) ?_
  intro W base args ds gs before hval0 hW hcnd _
  have hval : ∀ (j : Nat) t v, Try.f3.params[j]? = some t → args[j]? = some v → Value.okWide Try.prog W .any base t v := hval0
  have hW' := hW
  obtain ⟨p, q, hA0, hV, rfl, hfz, hnd⟩ := hW
  have hA : DataW.TrodAll enc Try.prog W 0 (fun _ => true) true Try.f3.params.toList args.toList ds p := hA0
  rw [Try.params3] at hA hval
  obtain ⟨v0, vs0, d0, ds0, p0, q0, hargs, rfl, rfl, h0, r0⟩ := trodAll_cons hA
  obtain ⟨v1, vs1, d1, ds1, p1, q1, rfl, rfl, rfl, h1, r1⟩ := trodAll_cons r0
  obtain ⟨v2, vs2, d2, ds2, p2, q2, rfl, rfl, rfl, h2, r2⟩ := trodAll_cons r1
  obtain ⟨rfl, rfl, rfl⟩ := trodAll_nil r2
  obtain rfl : args = #[v0, v1, v2] := by cases args; simp_all
  obtain ⟨rfl, rfl⟩ := trodVars_none hV
  obtain ⟨a0, len0, cap0, rfl⟩ := okWide_slice Try.underlying22 (hval 0 22 v0 rfl rfl)
  have k0 := h0
  have lt0 : ∀ x ∈ p0, x.block < W.heap.size := by obtain ⟨m, hm⟩ := k0; exact DataW.trod_lt m _ _ _ hm
  have w0 : IsStructs [some .i64, some .i64, some .i64, none] W a0 len0 cap0 := open_structs Try.underlying22 Try.underlying28 (by kernel_rfl) (fun j k hk => by
    rcases j with _ | _ | _ | _ | j
    · cases hk; exact ⟨_, rfl, rfl, by kernel_rfl, Try.underlying3⟩
    · cases hk; exact ⟨_, rfl, rfl, by kernel_rfl, Try.underlying3⟩
    · cases hk; exact ⟨_, rfl, rfl, by kernel_rfl, Try.underlying3⟩
    · cases hk; exact ⟨_, rfl, rfl, by kernel_rfl, Try.underlying4⟩
    · simp at hk) h0
  obtain ⟨a1, rfl, rfl, rfl, w1⟩ := open_int Try.underlying3 (hval 1 3 v1 rfl rfl) h1
  obtain ⟨a2, rfl, rfl, rfl, w2⟩ := open_int Try.underlying3 (hval 2 3 v2 rfl rfl) h2
  clear hA0 hval0
  refine (vramPlays_walk a0 len0 cap0 a1 a2 W w0 w1 w2).mono fun e W' ⟨he, bel⟩ => ?_
  subst he
  exact ⟨_, rfl, _, _, _, [], _, [], hW', trodAll_mk1 (shut_bool Try.underlying4 _), (trodAll_cons_mk (Below.trod laidOut (by kernel_rfl) (of_decide_eq_true (by kernel_rfl)) k0 bel lt0) (trodAll_cons_mk (shut_int Try.underlying3 w1) (trodAll_cons_mk (shut_int Try.underlying3 w2) trodAll_mk0))), rfl, bel.frame _, fun h => by cases h⟩

theorem vramPlays_over : Rows.vramPlaysRow.holds Try.pinned (OpenSpec.ofChange Rows.vramPlaysSpec) :=
  OpenClaim.holds_of_wide 3 Try.f3 rfl rfl rfl rfl rfl rfl rfl ⟨rfl, rfl, rfl, rfl, rfl⟩ rfl rfl rfl rfl rfl (by kernel_rfl) Try.func3 (by kernel_rfl)
    (of_decide_eq_true (by kernel_rfl)) (by unfold Func.isWrapper; first | (rw [if_pos (by decide +kernel)]; kernel_rfl) | (rw [if_neg (by decide +kernel)]; exact ⟨rfl, rfl⟩))
    (fun os started H enc _ => vramPlays_lifted os started H enc)

theorem vramPlays_holds : Rows.VramPlaysSaid := vramPlays_over
#print axioms vramPlays_holds

end Go.Proofs.Ytbeiphnlckflpaa
