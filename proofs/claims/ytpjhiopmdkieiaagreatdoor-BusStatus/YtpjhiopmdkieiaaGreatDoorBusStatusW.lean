/- The walk of BusStatus. -/
import Derived.Test.YtpjhiopmdkieiaaGreatDoorBus24z
import Derived.Test.YtpjhiopmdkieiaaGreatDoorBusLaid
namespace Go.Proofs.YtpjhiopmdkieiaaGreatDoor
open Go.Proofs.YtpjhiopmdkieiaaGreatDoor.B4 Go.Proofs.YtpjhiopmdkieiaaGreatDoor.C3 Go.Proofs.YtpjhiopmdkieiaaGreatDoor.G6 Go.Proofs.YtpjhiopmdkieiaaGreatDoor.I11 Go.Proofs.YtpjhiopmdkieiaaGreatDoor.L24 Go.Proofs.YtpjhiopmdkieiaaGreatDoor.M5 Go.Proofs.YtpjhiopmdkieiaaGreatDoor.P22 Go.Proofs.YtpjhiopmdkieiaaGreatDoor.R15 Go.Proofs.YtpjhiopmdkieiaaGreatDoor.T10 Go.Proofs.YtpjhiopmdkieiaaGreatDoor.W13
open Go.RowKit
set_option linter.unusedVariables false
theorem or_six (s t : Int) (s0 : 0 ≤ s) (s1 : s < 64) (t0 : 1 ≤ t) (t1 : t < 64) : 1 ≤ bits .or .i64 s t ∧ bits .or .i64 s t < 64 := by
  obtain ⟨a, rfl⟩ : ∃ a : Nat, s = (a : Int) := ⟨s.toNat, by omega⟩
  obtain ⟨b, rfl⟩ : ∃ b : Nat, t = (b : Int) := ⟨t.toNat, by omega⟩
  rw [(and_or_nat a b (by omega) (by omega)).2]
  have h1 : a ||| b < 2 ^ 6 := Nat.or_lt_two_pow (by omega) (by omega)
  have h2 : b ≤ a ||| b := Nat.right_le_or
  omega
theorem six_of (z : Int) : ∃ y j, Int.tmod z 6 = y ∧ Int.tmod (y + 6) 6 = j ∧ -6 < y ∧ y < 6 ∧ 0 ≤ j ∧ j < 6 := by
  have h1 := Int.tmod_lt_of_pos z (show (0 : Int) < 6 by decide)
  have h2 := Int.lt_tmod_of_pos z (show (0 : Int) < 6 by decide)
  have h3 : Int.tmod (Int.tmod z 6 + 6) 6 = (Int.tmod z 6 + 6) % 6 := Int.tmod_eq_emod_of_nonneg (by omega)
  exact ⟨_, _, rfl, rfl, h2, h1, by omega, by omega⟩
theorem pow_six (j : Int) (j0 : 0 ≤ j) (j1 : j < 6) : 1 ≤ wrap64 (2 ^ j.toNat) ∧ wrap64 (2 ^ j.toNat) < 64 := by
  obtain ⟨k, rfl⟩ : ∃ k : Nat, j = (k : Int) := ⟨j.toNat, by omega⟩
  have hk : k < 6 := by omega
  rw [Int.toNat_natCast]
  rcases k with _ | _ | _ | _ | _ | _ | k
  iterate 6 (exact ⟨by unfold wrap64; simp, by unfold wrap64; simp⟩)
  omega
set_option maxHeartbeats 4000000 in
theorem busStatus_walk (a0 : Option Addr) (len0 cap0 : Nat) (z0 : List Int) (a1 : Bool) (W : World) (w0 : IsRow .i64 W a0 len0 cap0 z0) (hL : Tabs W ∧ HasErr W) :
    Calls Tryz.prog 6 #[.slice a0 len0 cap0, .bool a1] W fun e w' => e = .returned (.bool true) ∧ Below W.heap.size W w' := by
  have M := hide (machine_1 hL.1 hL.2)
  have HR := hide w0
  have KW1 := hide (fun (b v c d : Nat) (bs : List Int) (w : World) (h : HasX w b v c d (ML v c (fun _ => 0) 0 false 0 (fun _ => .int .u8 0) (iv freshF) (tv 0 0 false 0) p0C 0 0 255 0) bs (fun _ => 0) 0 0 1 0 0) => wr_timer h 2092032 0 0 0 0 (by decide) (by decide) (by decide) (by decide) ml_12 ml_13 ml_17 ml_16 (u := tv 0 0 false 0) (fun w => T10.write_0 0 0 false 0 0 w) (tv_one _ _ _ _))
  have KW2 := hide (fun (b v c d : Nat) (bs : List Int) (w : World) (h : HasX w b v c d (ML v c (fun _ => 0) 0 false 0 (fun _ => .int .u8 0) (iv freshF) (tv 0 0 false 0) p0C 0 0 0 0) bs (fun _ => 0) 0 0 1 0 0) => wr_timer h 2092033 0 1 1 1 (by decide) (by decide) (by decide) (by decide) ml_12 ml_13 ml_17 ml_16 (u := tv 0 0 true 0) (fun w => T10.write_1 0 0 false 0 1 true rfl w) (tv_one _ _ _ _))
  have KR7 := hide (fun (b v c d : Nat) (bs : List Int) (w : World) (h : HasX w b v c d (ML v c (fun _ => 0) 0 false 0 (fun _ => .int .u8 0) (iv freshF) (tv 0 0 true 0) p0C 0 0 1 3072) bs (fun _ => 0) 0 0 1 0 0) => rd_irq h 2094083 0 3 (by decide) (by decide) (by decide) (.inr rfl) ml_12 ml_13 ml_17 ml_16 (x := 4) (u := 0) (by decide) (by decide))
  have ll : len0 ≤ 9223372036854775807 := by
    rcases w0 with ⟨_, h, _, _⟩ | ⟨_, _, h1, h2, _⟩
    · omega
    · have h3 : maxLen ≤ 9223372036854775807 := by decide
      omega
  clear hL w0
  set_option maxRecDepth 20000 in
  go_enter Tryz.func6, Tryz.ntmps6
  set_option maxRecDepth 20000 in
  go_wp2_with fail
  refine M.out.mono ?_
  rintro e w1 ⟨b, v, c, d, bs, rfl, hl, x1, ⟨lb, lv⟩, b1⟩
  rw [lb_ml] at x1
  replace KW1 := hide (KW1.out b v c d bs)
  replace KW2 := hide (KW2.out b v c d bs)
  replace KR7 := hide (KR7.out b v c d bs)
  have X1 := hide x1
  have B1 := hide b1
  have NB := hide (show ∀ k, EX b v k → W.heap.size ≤ k from fun k e => by rcases e with rfl | rfl; exact lb; exact lv)
  clear x1 b1 lb lv hl M
  set_option maxRecDepth 20000 in
  go_wp2_with fail
  go_loopw [6, 7] (fun s6 s7 wr => ∃ (i s l : Int), (0 ≤ i ∧ i ≤ 20 ∧ i ≤ len0) ∧ s7 = .int .i64 i ∧ s6 = .int .i64 s ∧ (0 ≤ s ∧ s < 64) ∧ l = (if a1 = true ∧ ¬ s = 0 then 2 else 0) ∧ HasX wr b v c d (ML v c (fun _ => 0) s false 0 (fun _ => .int .u8 0) (iv freshF) (tv 0 0 false 0) p0C 0 l 255 0) bs (fun _ => 0) 0 0 1 0 0 ∧ Below W.heap.size W wr) (fun _ s7 _ => (20 - intOf s7).toNat)
  case atStart => exact ⟨0, 0, 0, by omega, rfl, rfl, by omega, by simp, X1.out, B1.out⟩
  case round =>
    obtain ⟨i, s, l, hi, rfl, rfl, hs, el, x2, b2⟩ := hrel
    have X2 := hide x2
    have B2 := hide b2
    have EL := hide el
    clear x2 b2 el X1 B1
    by_cases hlt : i < len0 ∧ i < 20
    · obtain ⟨h1, h2⟩ := hlt
      obtain ⟨bb, off, rfl, hbb, _, _, hc⟩ := HR.out.cells (by omega)
      have hcell := (B2.out.cell (p := ⟨bb, off + i.toNat, none⟩) hbb).trans (hc i.toNat (by omega)).1
      generalize z0.getD i.toNat 0 = z at hcell
      obtain ⟨y, j, e1, e2, y0, y1, j0, j1⟩ := six_of z
      clear hc
      obtain ⟨t, et⟩ : ∃ t, wrap64 (2 ^ j.toNat) = t := ⟨_, rfl⟩
      have t0 := pow_six j j0 j1
      rw [et] at t0
      obtain ⟨x, ex⟩ : ∃ x, bits .or .i64 s t = x := ⟨_, rfl⟩
      have x0 := or_six s t hs.1 hs.2 t0.1 t0.2
      rw [ex] at x0
      have K3 := hide (tell_t X2.out a1 ml_3 ml_13 ex)
      set_option maxRecDepth 20000 in
      go_wp2_with fail
      refine K3.out.mono ?_
      rintro e w3 ⟨rfl, x3, o3⟩
      have X3 := hide (show HasX w3 b v c d (ML v c (fun _ => 0) x false 0 (fun _ => .int .u8 0) (iv freshF) (tv 0 0 false 0) p0C 0 (if a1 = true then 2 else 0) 255 0) bs (fun _ => 0) 0 0 1 0 0 by
        have e : tellL (ML v c (fun _ => 0) s false 0 (fun _ => .int .u8 0) (iv freshF) (tv 0 0 false 0) p0C 0 l 255 0) x 0 l a1 = ML v c (fun _ => 0) x false 0 (fun _ => .int .u8 0) (iv freshF) (tv 0 0 false 0) p0C 0 (if a1 = true then 2 else 0) 255 0 := by
          have e2 : (if a1 = true then or3 l 2 else l) = (if a1 = true then 2 else 0) := by
            rw [EL.out]
            cases a1
            · simp
            · by_cases q : s = 0
              · simp [q]; decide
              · simp [q]; decide
          have e3 : (if a1 = true then (0 : Int) % 8 else 0) = 0 := by split <;> rfl
          unfold tellL
          rw [e2, e3]
          rfl
        rw [← e]
        exact x3)
      have B3 := hide (B2.out.trans (o3.below NB.out B2.out.size))
      clear x3 o3 K3 X2 B2 EL hcell
      set_option maxRecDepth 20000 in
      go_wp2_with fail
      go_roundw
      case rel => exact ⟨i + 1, x, _, by omega, by go_num, rfl, by omega, by have : ¬ x = 0 := (by omega); cases a1 <;> simp [this], X3.out, B3.out⟩
      case measure => simp [intOf]; omega
    · by_cases h1 : i < len0
      · have h2 : ¬ i < 20 := fun h => hlt ⟨h1, h⟩
        clear hlt
        by_cases sz : s = 0
        · subst sz
          have q : l = 0 := by rw [EL.out]; simp
          subst q
          clear EL
          have cl := X2.out.lines ml_13
          set_option maxRecDepth 20000 in
          go_wp2_with fail
          have R3 := rd_status X2.out 2088960 0 (by decide) (by decide) (by decide) ml_3 ml_13 (x := 0) (by omega)
          rw [show lookL (ML v c (fun _ => 0) 0 false 0 (fun _ => .int .u8 0) (iv freshF) (tv 0 0 false 0) p0C 0 0 255 0) 0 0 = ML v c (fun _ => 0) 0 false 0 (fun _ => .int .u8 0) (iv freshF) (tv 0 0 false 0) p0C 0 0 255 0 from rfl] at R3
          refine R3.mono ?_
          rintro e w3 ⟨rfl, x3, o3⟩
          clear R3 cl
          have X3 := hide x3
          have B3 := hide (B2.out.trans (o3.below NB.out B2.out.size))
          clear x3 o3 X2 B2
          set_option maxRecDepth 20000 in
          go_wp2_with fail
          have R4 := rd_status X3.out 2088960 0 (by decide) (by decide) (by decide) ml_3 ml_13 (x := 0) (by omega)
          rw [show lookL (ML v c (fun _ => 0) 0 false 0 (fun _ => .int .u8 0) (iv freshF) (tv 0 0 false 0) p0C 0 0 255 0) 0 0 = ML v c (fun _ => 0) 0 false 0 (fun _ => .int .u8 0) (iv freshF) (tv 0 0 false 0) p0C 0 0 255 0 from rfl] at R4
          refine R4.mono ?_
          rintro e w4 ⟨rfl, x4, o4⟩
          clear R4
          have cm := x4.lines ml_13
          have X4 := hide x4
          have B4 := hide (B3.out.trans (o4.below NB.out B3.out.size))
          clear x4 o4 X3 B3
          set_option maxRecDepth 20000 in
          go_wp2_with fail
          clear cm
          refine (KW1.out _ X4.out).mono ?_
          rintro e w5 ⟨rfl, x5, o5⟩
          have X5 := hide x5
          have B5 := hide (B4.out.trans (o5.below NB.out B4.out.size))
          clear x5 o5 X4 B4
          set_option maxRecDepth 20000 in
          go_wp2_with fail
          refine (KW2.out _ X5.out).mono ?_
          rintro e w6 ⟨rfl, x6, o6⟩
          have X6 := hide x6
          have B6 := hide (B5.out.trans (o6.below NB.out B5.out.size))
          clear x6 o6 X5 B5
          have KG := X6.out.lag ml_17 3072
          have G1 := hide KG.1
          have G2 := hide KG.2.1
          have g3 := KG.2.2.1
          have g4 := KG.2.2.2
          clear KG
          set_option maxRecDepth 20000 in
          go_wp2_with fail
          clear g3 g4
          refine (KR7.out _ G1.out).mono ?_
          rintro e w8 ⟨rfl, x8, o8⟩
          have B8 := hide (B6.out.trans ((G2.out.trans o8).below NB.out B6.out.size))
          clear x8 o8 G1 G2 B6 X6
          set_option maxRecDepth 20000 in
          go_wp2_with fail
          go_ret
          exact ⟨rfl, B8.out⟩
        · have sb : (s != 0) = true := by simp [sz]
          cases a1 with
          | true =>
            have q : l = 2 := by rw [EL.out, if_pos ⟨rfl, sz⟩]
            subst q
            clear EL sz
            have cl := X2.out.lines ml_13
            set_option maxRecDepth 20000 in
            go_wp2_with fail
            have R3 := rd_status X2.out 2088960 0 (by decide) (by decide) (by decide) ml_3 ml_13 (x := s) (by omega)
            rw [show lookL (ML v c (fun _ => 0) s false 0 (fun _ => .int .u8 0) (iv freshF) (tv 0 0 false 0) p0C 0 2 255 0) 0 2 = ML v c (fun _ => 0) 0 false 0 (fun _ => .int .u8 0) (iv freshF) (tv 0 0 false 0) p0C 0 0 255 0 from rfl] at R3
            refine R3.mono ?_
            rintro e w3 ⟨rfl, x3, o3⟩
            clear R3 cl
            have X3 := hide x3
            have B3 := hide (B2.out.trans (o3.below NB.out B2.out.size))
            clear x3 o3 X2 B2
            set_option maxRecDepth 20000 in
            go_wp2_with fail
            have R4 := rd_status X3.out 2088960 0 (by decide) (by decide) (by decide) ml_3 ml_13 (x := 0) (by omega)
            rw [show lookL (ML v c (fun _ => 0) 0 false 0 (fun _ => .int .u8 0) (iv freshF) (tv 0 0 false 0) p0C 0 0 255 0) 0 0 = ML v c (fun _ => 0) 0 false 0 (fun _ => .int .u8 0) (iv freshF) (tv 0 0 false 0) p0C 0 0 255 0 from rfl] at R4
            refine R4.mono ?_
            rintro e w4 ⟨rfl, x4, o4⟩
            clear R4
            have cm := x4.lines ml_13
            have X4 := hide x4
            have B4 := hide (B3.out.trans (o4.below NB.out B3.out.size))
            clear x4 o4 X3 B3
            set_option maxRecDepth 20000 in
            go_wp2_with fail
            clear cm
            refine (KW1.out _ X4.out).mono ?_
            rintro e w5 ⟨rfl, x5, o5⟩
            have X5 := hide x5
            have B5 := hide (B4.out.trans (o5.below NB.out B4.out.size))
            clear x5 o5 X4 B4
            set_option maxRecDepth 20000 in
            go_wp2_with fail
            refine (KW2.out _ X5.out).mono ?_
            rintro e w6 ⟨rfl, x6, o6⟩
            have X6 := hide x6
            have B6 := hide (B5.out.trans (o6.below NB.out B5.out.size))
            clear x6 o6 X5 B5
            have KG := X6.out.lag ml_17 3072
            have G1 := hide KG.1
            have G2 := hide KG.2.1
            have g3 := KG.2.2.1
            have g4 := KG.2.2.2
            clear KG
            set_option maxRecDepth 20000 in
            go_wp2_with fail
            clear g3 g4
            refine (KR7.out _ G1.out).mono ?_
            rintro e w8 ⟨rfl, x8, o8⟩
            have B8 := hide (B6.out.trans ((G2.out.trans o8).below NB.out B6.out.size))
            clear x8 o8 G1 G2 B6 X6
            set_option maxRecDepth 20000 in
            go_wp2_with fail
            go_ret
            exact ⟨rfl, B8.out⟩
          | false =>
            have q : l = 0 := by rw [EL.out]; simp
            subst q
            clear EL sz
            have cl := X2.out.lines ml_13
            set_option maxRecDepth 20000 in
            go_wp2_with fail
            have R3 := rd_status X2.out 2088960 0 (by decide) (by decide) (by decide) ml_3 ml_13 (x := s) (by omega)
            rw [show lookL (ML v c (fun _ => 0) s false 0 (fun _ => .int .u8 0) (iv freshF) (tv 0 0 false 0) p0C 0 0 255 0) 0 0 = ML v c (fun _ => 0) 0 false 0 (fun _ => .int .u8 0) (iv freshF) (tv 0 0 false 0) p0C 0 0 255 0 from rfl] at R3
            refine R3.mono ?_
            rintro e w3 ⟨rfl, x3, o3⟩
            clear R3 cl
            have X3 := hide x3
            have B3 := hide (B2.out.trans (o3.below NB.out B2.out.size))
            clear x3 o3 X2 B2
            set_option maxRecDepth 20000 in
            go_wp2_with fail
            have R4 := rd_status X3.out 2088960 0 (by decide) (by decide) (by decide) ml_3 ml_13 (x := 0) (by omega)
            rw [show lookL (ML v c (fun _ => 0) 0 false 0 (fun _ => .int .u8 0) (iv freshF) (tv 0 0 false 0) p0C 0 0 255 0) 0 0 = ML v c (fun _ => 0) 0 false 0 (fun _ => .int .u8 0) (iv freshF) (tv 0 0 false 0) p0C 0 0 255 0 from rfl] at R4
            refine R4.mono ?_
            rintro e w4 ⟨rfl, x4, o4⟩
            clear R4
            have cm := x4.lines ml_13
            have X4 := hide x4
            have B4 := hide (B3.out.trans (o4.below NB.out B3.out.size))
            clear x4 o4 X3 B3
            set_option maxRecDepth 20000 in
            go_wp2_with fail
            clear cm
            refine (KW1.out _ X4.out).mono ?_
            rintro e w5 ⟨rfl, x5, o5⟩
            have X5 := hide x5
            have B5 := hide (B4.out.trans (o5.below NB.out B4.out.size))
            clear x5 o5 X4 B4
            set_option maxRecDepth 20000 in
            go_wp2_with fail
            refine (KW2.out _ X5.out).mono ?_
            rintro e w6 ⟨rfl, x6, o6⟩
            have X6 := hide x6
            have B6 := hide (B5.out.trans (o6.below NB.out B5.out.size))
            clear x6 o6 X5 B5
            have KG := X6.out.lag ml_17 3072
            have G1 := hide KG.1
            have G2 := hide KG.2.1
            have g3 := KG.2.2.1
            have g4 := KG.2.2.2
            clear KG
            set_option maxRecDepth 20000 in
            go_wp2_with fail
            clear g3 g4
            refine (KR7.out _ G1.out).mono ?_
            rintro e w8 ⟨rfl, x8, o8⟩
            have B8 := hide (B6.out.trans ((G2.out.trans o8).below NB.out B6.out.size))
            clear x8 o8 G1 G2 B6 X6
            set_option maxRecDepth 20000 in
            go_wp2_with fail
            go_ret
            exact ⟨rfl, B8.out⟩
      · clear hlt
        by_cases sz : s = 0
        · subst sz
          have q : l = 0 := by rw [EL.out]; simp
          subst q
          clear EL
          have cl := X2.out.lines ml_13
          set_option maxRecDepth 20000 in
          go_wp2_with fail
          have R3 := rd_status X2.out 2088960 0 (by decide) (by decide) (by decide) ml_3 ml_13 (x := 0) (by omega)
          rw [show lookL (ML v c (fun _ => 0) 0 false 0 (fun _ => .int .u8 0) (iv freshF) (tv 0 0 false 0) p0C 0 0 255 0) 0 0 = ML v c (fun _ => 0) 0 false 0 (fun _ => .int .u8 0) (iv freshF) (tv 0 0 false 0) p0C 0 0 255 0 from rfl] at R3
          refine R3.mono ?_
          rintro e w3 ⟨rfl, x3, o3⟩
          clear R3 cl
          have X3 := hide x3
          have B3 := hide (B2.out.trans (o3.below NB.out B2.out.size))
          clear x3 o3 X2 B2
          set_option maxRecDepth 20000 in
          go_wp2_with fail
          have R4 := rd_status X3.out 2088960 0 (by decide) (by decide) (by decide) ml_3 ml_13 (x := 0) (by omega)
          rw [show lookL (ML v c (fun _ => 0) 0 false 0 (fun _ => .int .u8 0) (iv freshF) (tv 0 0 false 0) p0C 0 0 255 0) 0 0 = ML v c (fun _ => 0) 0 false 0 (fun _ => .int .u8 0) (iv freshF) (tv 0 0 false 0) p0C 0 0 255 0 from rfl] at R4
          refine R4.mono ?_
          rintro e w4 ⟨rfl, x4, o4⟩
          clear R4
          have cm := x4.lines ml_13
          have X4 := hide x4
          have B4 := hide (B3.out.trans (o4.below NB.out B3.out.size))
          clear x4 o4 X3 B3
          set_option maxRecDepth 20000 in
          go_wp2_with fail
          clear cm
          refine (KW1.out _ X4.out).mono ?_
          rintro e w5 ⟨rfl, x5, o5⟩
          have X5 := hide x5
          have B5 := hide (B4.out.trans (o5.below NB.out B4.out.size))
          clear x5 o5 X4 B4
          set_option maxRecDepth 20000 in
          go_wp2_with fail
          refine (KW2.out _ X5.out).mono ?_
          rintro e w6 ⟨rfl, x6, o6⟩
          have X6 := hide x6
          have B6 := hide (B5.out.trans (o6.below NB.out B5.out.size))
          clear x6 o6 X5 B5
          have KG := X6.out.lag ml_17 3072
          have G1 := hide KG.1
          have G2 := hide KG.2.1
          have g3 := KG.2.2.1
          have g4 := KG.2.2.2
          clear KG
          set_option maxRecDepth 20000 in
          go_wp2_with fail
          clear g3 g4
          refine (KR7.out _ G1.out).mono ?_
          rintro e w8 ⟨rfl, x8, o8⟩
          have B8 := hide (B6.out.trans ((G2.out.trans o8).below NB.out B6.out.size))
          clear x8 o8 G1 G2 B6 X6
          set_option maxRecDepth 20000 in
          go_wp2_with fail
          go_ret
          exact ⟨rfl, B8.out⟩
        · have sb : (s != 0) = true := by simp [sz]
          cases a1 with
          | true =>
            have q : l = 2 := by rw [EL.out, if_pos ⟨rfl, sz⟩]
            subst q
            clear EL sz
            have cl := X2.out.lines ml_13
            set_option maxRecDepth 20000 in
            go_wp2_with fail
            have R3 := rd_status X2.out 2088960 0 (by decide) (by decide) (by decide) ml_3 ml_13 (x := s) (by omega)
            rw [show lookL (ML v c (fun _ => 0) s false 0 (fun _ => .int .u8 0) (iv freshF) (tv 0 0 false 0) p0C 0 2 255 0) 0 2 = ML v c (fun _ => 0) 0 false 0 (fun _ => .int .u8 0) (iv freshF) (tv 0 0 false 0) p0C 0 0 255 0 from rfl] at R3
            refine R3.mono ?_
            rintro e w3 ⟨rfl, x3, o3⟩
            clear R3 cl
            have X3 := hide x3
            have B3 := hide (B2.out.trans (o3.below NB.out B2.out.size))
            clear x3 o3 X2 B2
            set_option maxRecDepth 20000 in
            go_wp2_with fail
            have R4 := rd_status X3.out 2088960 0 (by decide) (by decide) (by decide) ml_3 ml_13 (x := 0) (by omega)
            rw [show lookL (ML v c (fun _ => 0) 0 false 0 (fun _ => .int .u8 0) (iv freshF) (tv 0 0 false 0) p0C 0 0 255 0) 0 0 = ML v c (fun _ => 0) 0 false 0 (fun _ => .int .u8 0) (iv freshF) (tv 0 0 false 0) p0C 0 0 255 0 from rfl] at R4
            refine R4.mono ?_
            rintro e w4 ⟨rfl, x4, o4⟩
            clear R4
            have cm := x4.lines ml_13
            have X4 := hide x4
            have B4 := hide (B3.out.trans (o4.below NB.out B3.out.size))
            clear x4 o4 X3 B3
            set_option maxRecDepth 20000 in
            go_wp2_with fail
            clear cm
            refine (KW1.out _ X4.out).mono ?_
            rintro e w5 ⟨rfl, x5, o5⟩
            have X5 := hide x5
            have B5 := hide (B4.out.trans (o5.below NB.out B4.out.size))
            clear x5 o5 X4 B4
            set_option maxRecDepth 20000 in
            go_wp2_with fail
            refine (KW2.out _ X5.out).mono ?_
            rintro e w6 ⟨rfl, x6, o6⟩
            have X6 := hide x6
            have B6 := hide (B5.out.trans (o6.below NB.out B5.out.size))
            clear x6 o6 X5 B5
            have KG := X6.out.lag ml_17 3072
            have G1 := hide KG.1
            have G2 := hide KG.2.1
            have g3 := KG.2.2.1
            have g4 := KG.2.2.2
            clear KG
            set_option maxRecDepth 20000 in
            go_wp2_with fail
            clear g3 g4
            refine (KR7.out _ G1.out).mono ?_
            rintro e w8 ⟨rfl, x8, o8⟩
            have B8 := hide (B6.out.trans ((G2.out.trans o8).below NB.out B6.out.size))
            clear x8 o8 G1 G2 B6 X6
            set_option maxRecDepth 20000 in
            go_wp2_with fail
            go_ret
            exact ⟨rfl, B8.out⟩
          | false =>
            have q : l = 0 := by rw [EL.out]; simp
            subst q
            clear EL sz
            have cl := X2.out.lines ml_13
            set_option maxRecDepth 20000 in
            go_wp2_with fail
            have R3 := rd_status X2.out 2088960 0 (by decide) (by decide) (by decide) ml_3 ml_13 (x := s) (by omega)
            rw [show lookL (ML v c (fun _ => 0) s false 0 (fun _ => .int .u8 0) (iv freshF) (tv 0 0 false 0) p0C 0 0 255 0) 0 0 = ML v c (fun _ => 0) 0 false 0 (fun _ => .int .u8 0) (iv freshF) (tv 0 0 false 0) p0C 0 0 255 0 from rfl] at R3
            refine R3.mono ?_
            rintro e w3 ⟨rfl, x3, o3⟩
            clear R3 cl
            have X3 := hide x3
            have B3 := hide (B2.out.trans (o3.below NB.out B2.out.size))
            clear x3 o3 X2 B2
            set_option maxRecDepth 20000 in
            go_wp2_with fail
            have R4 := rd_status X3.out 2088960 0 (by decide) (by decide) (by decide) ml_3 ml_13 (x := 0) (by omega)
            rw [show lookL (ML v c (fun _ => 0) 0 false 0 (fun _ => .int .u8 0) (iv freshF) (tv 0 0 false 0) p0C 0 0 255 0) 0 0 = ML v c (fun _ => 0) 0 false 0 (fun _ => .int .u8 0) (iv freshF) (tv 0 0 false 0) p0C 0 0 255 0 from rfl] at R4
            refine R4.mono ?_
            rintro e w4 ⟨rfl, x4, o4⟩
            clear R4
            have cm := x4.lines ml_13
            have X4 := hide x4
            have B4 := hide (B3.out.trans (o4.below NB.out B3.out.size))
            clear x4 o4 X3 B3
            set_option maxRecDepth 20000 in
            go_wp2_with fail
            clear cm
            refine (KW1.out _ X4.out).mono ?_
            rintro e w5 ⟨rfl, x5, o5⟩
            have X5 := hide x5
            have B5 := hide (B4.out.trans (o5.below NB.out B4.out.size))
            clear x5 o5 X4 B4
            set_option maxRecDepth 20000 in
            go_wp2_with fail
            refine (KW2.out _ X5.out).mono ?_
            rintro e w6 ⟨rfl, x6, o6⟩
            have X6 := hide x6
            have B6 := hide (B5.out.trans (o6.below NB.out B5.out.size))
            clear x6 o6 X5 B5
            have KG := X6.out.lag ml_17 3072
            have G1 := hide KG.1
            have G2 := hide KG.2.1
            have g3 := KG.2.2.1
            have g4 := KG.2.2.2
            clear KG
            set_option maxRecDepth 20000 in
            go_wp2_with fail
            clear g3 g4
            refine (KR7.out _ G1.out).mono ?_
            rintro e w8 ⟨rfl, x8, o8⟩
            have B8 := hide (B6.out.trans ((G2.out.trans o8).below NB.out B6.out.size))
            clear x8 o8 G1 G2 B6 X6
            set_option maxRecDepth 20000 in
            go_wp2_with fail
            go_ret
            exact ⟨rfl, B8.out⟩
end Go.Proofs.YtpjhiopmdkieiaaGreatDoor
