/- VramPlays, at the landed commit: whatever slice of calls and two integers come in, the call returns true: video memory under any calls has the document's words and ports, and tells its bytes. No condition. -/
import Derived.Test.YtbeiphnlckflpaaBlk13
import Derived.Deep.CutBlock
namespace Go.Proofs.Ytbeiphnlckflpaa
open Go.ChangeShapes Go.WideShapes Go.ChangeAt Go.RowKit
set_option linter.unusedVariables false

theorem words_out (b : Nat) (f : Nat → Int) (wr rd st lo bu : Int) (w : World) (h : HasM w b true f wr rd st lo bu) (at_ n : Int) (hn : n < 0 ∨ 65536 < n) : Calls Try.prog 23 #[.pointer (some ⟨b, 0, none⟩), .int .i64 at_, .int .i64 n] w fun e w' => e = .returned (.slice none 0 0) ∧ w' = w := by
  have c0 := h.c0
  clear h
  rcases hn with hn | hn
  all_goals
    go_enter Try.func23, Try.ntmps23
    go_wp2_with (first | (go_at_call 26; refine (missing_is b true _ c0).mono ?_; rintro e w' ⟨rfl, hw⟩; subst w'))
    go_ret
    exact ⟨rfl, rfl⟩
set_option maxHeartbeats 4000000 in
theorem plays_any (a0 : Option Addr) (len0 cap0 : Nat) (a1 a2 : Int) (w : World) (R0 : Hid (IsActs w a0 len0 cap0)) (hx0 : len0 < 9223372036854775808) : Calls Try.prog 3 #[.slice a0 len0 cap0, .int .i64 a1, .int .i64 a2] w fun e w' => e = .returned (.bool true) ∧ Below w.heap.size w w' := by
  set_option maxRecDepth 20000 in
  go_enter Try.func3, Try.ntmps3
  go_wp2_with fail
  refine (new_any _).mono ?_
  rintro e w1 ⟨rfl, h1, b1⟩
  have H1 := hide (show HasS w1 w.heap.size newS from h1)
  have B1 := hide b1
  clear h1 b1
  obtain ⟨g, hg⟩ : ∃ g, w.heap.size = g := ⟨_, rfl⟩
  rw [hg] at H1 ⊢
  have HG := hide (Nat.le_of_eq hg)
  clear hg
  go_wp2_with fail
  refine (rnew_any _).mono ?_
  rintro e w2 ⟨rfl, h2, b2⟩
  have H2 := hide (H1.out.next b2)
  have K2 := hide (show HasRS w2 (w1.heap.size + 1) w1.heap.size newS from h2)
  have B2 := hide (bnext B1.out b2)
  have HD := hide B1.out.size
  have ND := hide (Nat.ne_of_lt (lt_of_block H1.out))
  obtain ⟨d, hd⟩ : ∃ d, w1.heap.size = d := ⟨_, rfl⟩
  obtain ⟨c, hc⟩ : ∃ c, d + 1 = c := ⟨_, rfl⟩
  rw [hd] at K2 HD ND ⊢
  rw [hc] at K2 ⊢
  have HC := hide (show w.heap.size ≤ c by have := HD.out; omega)
  have NC := hide (show g ≠ c by have := lt_of_block H1.out; omega)
  clear h2 b2 H1 B1 hd hc
  go_wp2_with fail
  go_loopw [9] (fun si wr => ∃ (k : Nat) (S : St), k ≤ len0 ∧ k ≤ 120 ∧ si = .int .i64 (k : Int) ∧ Good S ∧ HasS wr g S ∧ HasRS wr c d S ∧ Below w.heap.size w wr) (fun si _ => 120 - (intOf si).toNat)
  case atStart => exact ⟨0, newS, Nat.zero_le _, Nat.zero_le _, rfl, good_new, H2.out, K2.out, B2.out⟩
  case round =>
    obtain ⟨k, S, hk, hk2, rfl, hS, hv, hr, hb⟩ := hrel
    have VK := hide hv
    have RK := hide hr
    have BK := hide hb
    have GK := hide hS
    clear hv hr hb hS H2 K2 B2
    by_cases hlt : k < len0
    · by_cases hl6 : k < 120
      · obtain ⟨ab, off, kk, n, x, hi, rfl, hab, hc1, hc2, hcs⟩ := R0.out.act k hlt
        obtain ⟨c0, c1, c2, c3⟩ := hcs wr BK.out
        clear hcs
        obtain ⟨f, pw, pr, ps, pl, pb⟩ := S
        obtain ⟨_, hpw, hpr, hps, _, hpb⟩ := GK.out
        have PW : Hid (IsWord pw) := hpw
        have PR : Hid (IsWord pr) := hpr
        have PS : Hid (IsWord ps) := hps
        have PB : Hid (IsWord pb) := hpb
        clear hpw hpr hps hpb
        obtain ⟨ga, hga⟩ : ∃ ga, wr.heap.size = ga := ⟨_, rfl⟩
        obtain ⟨wa, hwa⟩ : ∃ wa, wa = wr.alloc (.cells #[.int .i64 kk, .int .i64 n, .int .i64 x, .bool hi] 28) := ⟨_, rfl⟩
        have AA := hide (show wa.heap[ga]? = some (.cells #[.int .i64 kk, .int .i64 n, .int .i64 x, .bool hi] 28 (0, 0)) by rw [hwa, ← hga]; exact heap_alloc_new _ _)
        have bA : Below wr.heap.size wr wa := by rw [hwa]; exact (Below.refl _ _).alloc (Nat.le_refl _) _
        have VA := hide (show HasM wa g true f pw pr ps pl pb from (show HasM wr g true f pw pr ps pl pb from VK.out).next bA)
        have RA := hide (show HasR wa c d f pw pr ps pl pb from (show HasR wr c d f pw pr ps pl pb from RK.out).next bA)
        have BA := hide (bnext BK.out bA)
        have NG := hide (show ga ≠ g by have := lt_of_block VK.out; omega)
        have NGC := hide (show ga ≠ c by have := RK.out.lt; omega)
        have NGD := hide (show ga ≠ d by have := lt_of_block RK.out.2.1; omega)
        have HW := hide hwa
        have HGA := hide hga
        clear hwa hga bA
        set_option maxRecDepth 20000 in
        go_upto_block 2 with fail
        rw [← HW.out, HGA.out]
        clear HW HGA c0 c1 c2 c3 VK RK BK
        refine wp_goes (blk_any kk _ _ _ _ _ _ _ _ _ _ _ _ _ _ _ _ _ _ _ _ _ _ _ _ _ _ _ _ _ _ _ _ _ _ _ _ _ _ _ _ _ _ _ _ _ _ _ _ _ _ _ _ _ _ _ _ _ _ _ _ _ _ _ _ _ _ _ _ _ _ _ _ _ _ _ _ _ _ _ _ _ _ _ _ _ _ _ _ _ _ _ _ _ _ _ _ _ _ _ _ _ _ _ _ _ _ _ _ _ _ _ _ _ _ _ _ _ _ _ _ _ _ _ _ _ _ _ _ _ _ _ _ _ _ _ _ _ _ _ _ _ _ _ _ _ _ _ _ _ _ _ _ _ _ _ _ _ _ _ _ _ _ _ _ _ _ _ _ _ _ _ _ _ _ _ _ _ _ _ _ _ _ _ _ _ _ _ _ _ _ _ _ _ _ _ _ _ _ _ _ _ _ _ _ _ _ _ _ _ _ _ _ _ _ _ _ _ _ _ g c d ga f pw pr ps pl pb n x hi w wa _ VA RA AA BA NG NGC NGD NC ND HG HC HD PW PR PS PB ?_)
        intro x27 x28 x29 x30 x31 x32 x33 x34 x35 x36 x37 x38 x39 x40 x41 x42 x43 x44 x45 x46 x47 x48 x49 x50 x51 x52 x53 x54 x55 x56 x57 x58 x59 x60 x61 x62 x63 x64 x65 x66 x67 x68 x69 x70 x71 x72 x73 x74 x75 x76 x77 x78 x79 x80 x81 x82 x83 x84 x85 x86 x87 x88 x89 x90 x91 x92 x93 x94 x95 x96 x97 x98 x99 x100 x101 x102 x103 x104 x105 x106 x107 x108 x109 x110 x111 x112 x113 x114 x115 x116 x117 x118 x119 x120 x121 x122 x123 x124 x125 x126 x127 x128 x129 x130 x131 x132 x133 x134 x135 x136 x137 x138 x139 x140 x141 x142 x143 x144 x145 x146 x147 x148 x149 x150 x151 x152 x153 x154 x155 x156 x157 x158 x159 x160 x161 x162 x163 x164 x165 x166 x167 x168 x169 x170 x171 x172 wc hcut
        obtain ⟨v4, r4, a4, b4⟩ := hcut
        have g4 := good_step GK.out kk n x hi
        generalize stepS (f, pw, pr, ps, pl, pb) kk n x hi = S4 at *
        obtain ⟨f4, pw4, pr4, ps4, pl4, pb4⟩ := S4
        have G4 := hide g4
        have V4 : Hid (HasM wc g true f4 pw4 pr4 ps4 pl4 pb4) := v4
        have R4 : Hid (HasR wc c d f4 pw4 pr4 ps4 pl4 pb4) := r4
        have A4 := hide a4
        have B4 := hide b4
        clear v4 r4 a4 b4 g4 VA RA AA BA GK
        set_option maxRecDepth 20000 in go_wp2_with fail
        refine (ports_is g _ _ _ _ _ _ _ V4.out).mono ?_
        rintro e w5 ⟨rfl, b5⟩
        have V5 := hide (V4.out.next b5)
        have R5 := hide (R4.out.next b5)
        have A5 := hide ((b5.block ga (lt_of_block A4.out)).trans A4.out)
        have B5 := hide (bnext B4.out b5)
        clear b5 V4 R4 A4 B4
        have k1 := kept_cell R5.out.c1 R5.out.lt
        have k2 := kept_cell R5.out.c2 R5.out.lt
        have k3 := kept_cell R5.out.c3 R5.out.lt
        have k4 := kept_cell R5.out.c4 R5.out.lt
        have k5 := kept_cell R5.out.c5 R5.out.lt
        have kn := kept_cell ((cell_of_row w5 ga 1 _ _ _ A5.out).trans rfl) (lt_of_block A5.out)
        set_option maxRecDepth 20000 in go_wp2_with fail
        haveI := kept_some w5
        refine wp_region_kept (by kernel_rfl) (by kernel_rfl) ?_
        set_option maxRecDepth 20000 in
        repeat (go_big_quiet_step ((first
          | (go_at_call 21; exact kept_same (word_is g _ _ _ _ _ _ _ (V5.out.next (Kept.below _)) n _ rfl))
          | (go_at_call 22; exact kept_same (rword_is c d _ _ _ _ _ _ _ (R5.out.next (Kept.below _)) n _ rfl)))))
        refine wpQuiet_nil ?_
        rintro _ ⟨wk, rfl⟩
        have V6 := hide (V5.out.next wk.below)
        have R6 := hide (R5.out.next wk.below)
        have B6 := hide (bnext B5.out wk.below)
        clear k1 k2 k3 k4 k5 kn V5 R5 A5 B5
        set_option maxRecDepth 20000 in go_wp2_with fail
        go_roundw
        case rel => exact ⟨k + 1, _, by omega, by omega, by go_num, G4.out, V6.out, R6.out, B6.out⟩
        case measure => simp [intOf]; omega
      · skip
        obtain ⟨f, pw, pr, ps, pl, pb⟩ := S
        have V1 : Hid (HasM wr g true f pw pr ps pl pb) := VK.out
        have R1 : Hid (HasR wr c d f pw pr ps pl pb) := RK.out
        clear VK RK GK
        by_cases hn : 0 ≤ a2 ∧ a2 ≤ 65536
        · obtain ⟨hn0, hn1⟩ := hn
          obtain ⟨p, hp⟩ : ∃ p, a1 % 65536 = p := ⟨_, rfl⟩
          have ep := and_65535 a1
          rw [hp] at ep
          have hp0 : 0 ≤ p := by omega
          have hp1 : p < 65536 := by omega
          have HP := hide hp
          clear hp
          have hN : ((a2.toNat : Nat) : Int) = a2 := by omega
          set_option maxRecDepth 20000 in go_wp2_with fail
          refine (words_is g _ _ _ _ _ _ _ V1.out a1 a2 p HP.out hn0 hn1).mono ?_
          rintro e w2 ⟨rfl, l2, b2⟩
          have L2 := hide l2
          have R2 := hide (R1.out.next b2)
          have B2 := hide (bnext BK.out b2)
          clear l2 b2 V1 R1 BK HP
          generalize wr.heap.size = gl at *
          set_option maxRecDepth 20000 in go_wp2_with fail
          go_loopw [17] (fun si wj => ∃ j : Nat, (j : Int) ≤ a2 ∧ j ≤ 300 ∧ si = .int .i64 (j : Int) ∧ wj.heap[gl]? = some (.cells (toldL f p a2.toNat).toArray 3 (0, 0)) ∧ HasR wj c d f pw pr ps pl pb ∧ Below w.heap.size w wj) (fun si _ => 300 - (intOf si).toNat)
          case atStart => exact ⟨0, by simpa using hn0, Nat.zero_le _, rfl, L2.out, R2.out, B2.out⟩
          case round =>
            obtain ⟨j, hj, hj3, rfl, hl, hr, hb⟩ := hrel
            have LJ := hide hl
            have RJ := hide hr
            have BJ := hide hb
            clear hl hr hb L2 R2 B2
            by_cases hja : (j : Int) < a2
            · by_cases hj300 : j < 300
              · have kj := kept_cell ((cell_of_row wr gl j _ _ _ LJ.out).trans (by rw [List.getElem?_toArray]; exact toldL_at f p a2.toNat j (by omega))) (lt_of_block LJ.out)
                set_option maxRecDepth 20000 in go_wp2_with fail
                haveI := kept_some wr
                refine wp_region_kept (by kernel_rfl) (by kernel_rfl) ?_
                set_option maxRecDepth 20000 in
                repeat (go_big_quiet_step ((first
                  | (go_at_call 22; exact kept_same (rword_is c d _ _ _ _ _ _ _ (RJ.out.next (Kept.below _)) (p + (j : Int)) _ rfl)))))
                refine wpQuiet_nil ?_
                rintro _ ⟨wk, rfl⟩
                have L3 := hide ((wk.below.block gl (lt_of_block LJ.out)).trans LJ.out)
                have R3 := hide (RJ.out.next wk.below)
                have B3 := hide (bnext BJ.out wk.below)
                clear kj LJ RJ BJ
                set_option maxRecDepth 20000 in go_wp2_with fail
                go_roundw
                case rel => exact ⟨j + 1, by omega, by omega, by go_num, L3.out, R3.out, B3.out⟩
                case measure => simp [intOf]; omega
              · set_option maxRecDepth 20000 in go_wp2_with fail
                refine (new_any _).mono ?_
                rintro e w3 ⟨rfl, h3, b3⟩
                have B3 := hide (bnext BJ.out b3)
                have H3 := hide h3
                clear b3 h3
                set_option maxRecDepth 20000 in go_wp2_with fail
                refine (ports_is _ _ _ _ _ _ _ _ H3.out).mono ?_
                rintro e w4 ⟨rfl, b4⟩
                have B4 := hide (bnext B3.out b4)
                clear b4
                set_option maxRecDepth 20000 in go_wp2_with fail
                go_ret
                exact ⟨rfl, B4.out⟩
            · set_option maxRecDepth 20000 in go_wp2_with fail
              refine (new_any _).mono ?_
              rintro e w3 ⟨rfl, h3, b3⟩
              have B3 := hide (bnext BJ.out b3)
              have H3 := hide h3
              clear b3 h3
              set_option maxRecDepth 20000 in go_wp2_with fail
              refine (ports_is _ _ _ _ _ _ _ _ H3.out).mono ?_
              rintro e w4 ⟨rfl, b4⟩
              have B4 := hide (bnext B3.out b4)
              clear b4
              set_option maxRecDepth 20000 in go_wp2_with fail
              go_ret
              exact ⟨rfl, B4.out⟩
        · have hn2 : a2 < 0 ∨ 65536 < a2 := by omega
          have HN := hide hn2
          have hb : (decide (a2 < 0) || decide (65536 < a2)) = true := by rcases hn2 with h | h <;> simp [h]
          clear hn hn2
          set_option maxRecDepth 20000 in go_wp2_with fail
          refine (words_out g _ _ _ _ _ _ _ V1.out a1 a2 HN.out).mono ?_
          rintro e w2 ⟨rfl, hw⟩
          subst w2
          rcases HN.out with h | h
          · set_option maxRecDepth 20000 in go_wp2_with fail
            go_ret
            exact ⟨rfl, BK.out⟩
          · have h' : ¬ a2 < 0 := by omega
            set_option maxRecDepth 20000 in go_wp2_with fail
            go_ret
            exact ⟨rfl, BK.out⟩
    · skip
      obtain ⟨f, pw, pr, ps, pl, pb⟩ := S
      have V1 : Hid (HasM wr g true f pw pr ps pl pb) := VK.out
      have R1 : Hid (HasR wr c d f pw pr ps pl pb) := RK.out
      clear VK RK GK
      by_cases hn : 0 ≤ a2 ∧ a2 ≤ 65536
      · obtain ⟨hn0, hn1⟩ := hn
        obtain ⟨p, hp⟩ : ∃ p, a1 % 65536 = p := ⟨_, rfl⟩
        have ep := and_65535 a1
        rw [hp] at ep
        have hp0 : 0 ≤ p := by omega
        have hp1 : p < 65536 := by omega
        have HP := hide hp
        clear hp
        have hN : ((a2.toNat : Nat) : Int) = a2 := by omega
        set_option maxRecDepth 20000 in go_wp2_with fail
        refine (words_is g _ _ _ _ _ _ _ V1.out a1 a2 p HP.out hn0 hn1).mono ?_
        rintro e w2 ⟨rfl, l2, b2⟩
        have L2 := hide l2
        have R2 := hide (R1.out.next b2)
        have B2 := hide (bnext BK.out b2)
        clear l2 b2 V1 R1 BK HP
        generalize wr.heap.size = gl at *
        set_option maxRecDepth 20000 in go_wp2_with fail
        go_loopw [17] (fun si wj => ∃ j : Nat, (j : Int) ≤ a2 ∧ j ≤ 300 ∧ si = .int .i64 (j : Int) ∧ wj.heap[gl]? = some (.cells (toldL f p a2.toNat).toArray 3 (0, 0)) ∧ HasR wj c d f pw pr ps pl pb ∧ Below w.heap.size w wj) (fun si _ => 300 - (intOf si).toNat)
        case atStart => exact ⟨0, by simpa using hn0, Nat.zero_le _, rfl, L2.out, R2.out, B2.out⟩
        case round =>
          obtain ⟨j, hj, hj3, rfl, hl, hr, hb⟩ := hrel
          have LJ := hide hl
          have RJ := hide hr
          have BJ := hide hb
          clear hl hr hb L2 R2 B2
          by_cases hja : (j : Int) < a2
          · by_cases hj300 : j < 300
            · have kj := kept_cell ((cell_of_row wr gl j _ _ _ LJ.out).trans (by rw [List.getElem?_toArray]; exact toldL_at f p a2.toNat j (by omega))) (lt_of_block LJ.out)
              set_option maxRecDepth 20000 in go_wp2_with fail
              haveI := kept_some wr
              refine wp_region_kept (by kernel_rfl) (by kernel_rfl) ?_
              set_option maxRecDepth 20000 in
              repeat (go_big_quiet_step ((first
                | (go_at_call 22; exact kept_same (rword_is c d _ _ _ _ _ _ _ (RJ.out.next (Kept.below _)) (p + (j : Int)) _ rfl)))))
              refine wpQuiet_nil ?_
              rintro _ ⟨wk, rfl⟩
              have L3 := hide ((wk.below.block gl (lt_of_block LJ.out)).trans LJ.out)
              have R3 := hide (RJ.out.next wk.below)
              have B3 := hide (bnext BJ.out wk.below)
              clear kj LJ RJ BJ
              set_option maxRecDepth 20000 in go_wp2_with fail
              go_roundw
              case rel => exact ⟨j + 1, by omega, by omega, by go_num, L3.out, R3.out, B3.out⟩
              case measure => simp [intOf]; omega
            · set_option maxRecDepth 20000 in go_wp2_with fail
              refine (new_any _).mono ?_
              rintro e w3 ⟨rfl, h3, b3⟩
              have B3 := hide (bnext BJ.out b3)
              have H3 := hide h3
              clear b3 h3
              set_option maxRecDepth 20000 in go_wp2_with fail
              refine (ports_is _ _ _ _ _ _ _ _ H3.out).mono ?_
              rintro e w4 ⟨rfl, b4⟩
              have B4 := hide (bnext B3.out b4)
              clear b4
              set_option maxRecDepth 20000 in go_wp2_with fail
              go_ret
              exact ⟨rfl, B4.out⟩
          · set_option maxRecDepth 20000 in go_wp2_with fail
            refine (new_any _).mono ?_
            rintro e w3 ⟨rfl, h3, b3⟩
            have B3 := hide (bnext BJ.out b3)
            have H3 := hide h3
            clear b3 h3
            set_option maxRecDepth 20000 in go_wp2_with fail
            refine (ports_is _ _ _ _ _ _ _ _ H3.out).mono ?_
            rintro e w4 ⟨rfl, b4⟩
            have B4 := hide (bnext B3.out b4)
            clear b4
            set_option maxRecDepth 20000 in go_wp2_with fail
            go_ret
            exact ⟨rfl, B4.out⟩
      · have hn2 : a2 < 0 ∨ 65536 < a2 := by omega
        have HN := hide hn2
        have hb : (decide (a2 < 0) || decide (65536 < a2)) = true := by rcases hn2 with h | h <;> simp [h]
        clear hn hn2
        set_option maxRecDepth 20000 in go_wp2_with fail
        refine (words_out g _ _ _ _ _ _ _ V1.out a1 a2 HN.out).mono ?_
        rintro e w2 ⟨rfl, hw⟩
        subst w2
        rcases HN.out with h | h
        · set_option maxRecDepth 20000 in go_wp2_with fail
          go_ret
          exact ⟨rfl, BK.out⟩
        · have h' : ¬ a2 < 0 := by omega
          set_option maxRecDepth 20000 in go_wp2_with fail
          go_ret
          exact ⟨rfl, BK.out⟩
theorem vramPlays_walk (a0 : Option Addr) (len0 cap0 : Nat) (a1 a2 : Int) (w : World) (w0 : IsStructs [some .i64, some .i64, some .i64, none] w a0 len0 cap0) (w1 : (Lit.int .i64 a1).wf = true) (w2 : (Lit.int .i64 a2).wf = true) : Calls Try.prog 3 #[.slice a0 len0 cap0, .int .i64 a1, .int .i64 a2] w fun e w' => e = .returned (.bool true) ∧ Below w.heap.size w w' := by
  have hm0 := w0.max
  have hx0 : len0 < 9223372036854775808 := by simp [maxLen] at hm0; omega
  exact plays_any a0 len0 cap0 a1 a2 w w0 hx0

set_option maxRecDepth 100000 in
theorem vramPlays_lifted (os : Os) (started : os.Started) (H : Type) (enc : TypeId × Value → H) :
    ReturnsInHanded {} Try.checked os 3 .any (Rows.vramPlaysSpec.pre6 enc Try.prog Try.f3 Rows.vramPlaysRow.domain false) (Rows.vramPlaysSpec.post enc Try.prog Try.f3 false true false false) := by
  refine returnsInHanded_of_change (C := Try.checked) own started (by kernel_rfl) Try.func3
    (ChangeSpec.witness6 (enc := enc) (C := Try.checked) false ⟨#[], #[.slice none 0 0, .int .i64 0, .int .i64 0], []⟩ 8 (by kernel_rfl) (by kernel_rfl) (by kernel_rfl) (by kernel_rfl)) ?_
  intro W base args ds gs before hval0 hW hcnd _
  have hval : ∀ (j : Nat) t v, Try.f3.params[j]? = some t → args[j]? = some v → Value.okWide Try.prog W .any base t v := hval0
  have hW' := hW
  obtain ⟨p, q, hA0, hV, rfl, hfz, hnd⟩ := hW
  have hA : DataW.TrodAll enc Try.prog W 0 (fun _ => true) true Try.f3.params.toList args.toList ds p := hA0
  rw [Try.params3] at hA hval
  obtain ⟨v0, vs0, d0, ds0, p0, q0, hargs, rfl, rfl, h0, r0⟩ := trodAll_cons hA
  obtain ⟨v1, vs1, d1, ds1, p1, q1, rfl, rfl, rfl, h1, r1⟩ := trodAll_cons r0
  obtain ⟨v2, vs2, d2, ds2, p2, q2, rfl, rfl, rfl, h2, r2⟩ := trodAll_cons r1
  obtain ⟨rfl, rfl, rfl⟩ := trodAll_nil r2
  obtain rfl : args = #[v0, v1, v2] := by cases args; simp_all
  obtain ⟨rfl, rfl⟩ := trodVars_none hV
  obtain ⟨a0, len0, cap0, rfl⟩ := okWide_slice Try.underlying22 (hval 0 22 v0 rfl rfl)
  have k0 := h0
  have lt0 : ∀ x ∈ p0, x.block < W.heap.size := by obtain ⟨m, hm⟩ := k0; exact DataW.trod_lt m _ _ _ hm
  have w0 : IsStructs [some .i64, some .i64, some .i64, none] W a0 len0 cap0 := open_structs Try.underlying22 Try.underlying28 (by kernel_rfl) (fun j k hk => by
    rcases j with _ | _ | _ | _ | j
    · cases hk; exact ⟨_, rfl, rfl, by kernel_rfl, Try.underlying3⟩
    · cases hk; exact ⟨_, rfl, rfl, by kernel_rfl, Try.underlying3⟩
    · cases hk; exact ⟨_, rfl, rfl, by kernel_rfl, Try.underlying3⟩
    · cases hk; exact ⟨_, rfl, rfl, by kernel_rfl, Try.underlying4⟩
    · simp at hk) h0
  obtain ⟨a1, rfl, rfl, rfl, w1⟩ := open_int Try.underlying3 (hval 1 3 v1 rfl rfl) h1
  obtain ⟨a2, rfl, rfl, rfl, w2⟩ := open_int Try.underlying3 (hval 2 3 v2 rfl rfl) h2
  clear hA0 hval0
  refine (vramPlays_walk a0 len0 cap0 a1 a2 W w0 w1 w2).mono fun e W' ⟨he, bel⟩ => ?_
  subst he
  exact ⟨_, rfl, _, _, _, [], _, [], hW', trodAll_mk1 (shut_bool Try.underlying4 _), (trodAll_cons_mk (Below.trod laidOut (by kernel_rfl) (of_decide_eq_true (by kernel_rfl)) k0 bel lt0) (trodAll_cons_mk (shut_int Try.underlying3 w1) (trodAll_cons_mk (shut_int Try.underlying3 w2) trodAll_mk0))), rfl, bel.frame _, fun h => by cases h⟩

theorem vramPlays_over : Rows.vramPlaysRow.holds Try.pinned (OpenSpec.ofChange Rows.vramPlaysSpec) :=
  OpenClaim.holds_of_wide 3 Try.f3 rfl rfl rfl rfl rfl rfl rfl ⟨rfl, rfl, rfl, rfl, rfl⟩ rfl rfl rfl rfl rfl (by kernel_rfl) Try.func3 (by kernel_rfl)
    (of_decide_eq_true (by kernel_rfl)) (by unfold Func.isWrapper; first | (rw [if_pos (by decide +kernel)]; kernel_rfl) | (rw [if_neg (by decide +kernel)]; exact ⟨rfl, rfl⟩))
    (fun os started H enc _ => vramPlays_lifted os started H enc)

theorem vramPlays_holds : Rows.VramPlaysSaid := vramPlays_over
#print axioms vramPlays_holds

end Go.Proofs.Ytbeiphnlckflpaa
