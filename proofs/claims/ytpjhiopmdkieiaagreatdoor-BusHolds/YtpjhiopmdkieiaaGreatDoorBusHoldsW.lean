/- The walk of BusHolds. -/
import Derived.Test.YtpjhiopmdkieiaaGreatDoorBus24c
import Derived.Test.YtpjhiopmdkieiaaGreatDoorBusLaid
namespace Go.Proofs.YtpjhiopmdkieiaaGreatDoor
open Go.Proofs.YtpjhiopmdkieiaaGreatDoor.B4 Go.Proofs.YtpjhiopmdkieiaaGreatDoor.C3 Go.Proofs.YtpjhiopmdkieiaaGreatDoor.G6 Go.Proofs.YtpjhiopmdkieiaaGreatDoor.I11 Go.Proofs.YtpjhiopmdkieiaaGreatDoor.J23 Go.Proofs.YtpjhiopmdkieiaaGreatDoor.L24 Go.Proofs.YtpjhiopmdkieiaaGreatDoor.M5 Go.Proofs.YtpjhiopmdkieiaaGreatDoor.P22 Go.Proofs.YtpjhiopmdkieiaaGreatDoor.R15 Go.Proofs.YtpjhiopmdkieiaaGreatDoor.T10 Go.Proofs.YtpjhiopmdkieiaaGreatDoor.V12 Go.Proofs.YtpjhiopmdkieiaaGreatDoor.W13
open Go.RowKit
set_option linter.unusedVariables false
/-- A read of memory, or of nothing. -/
theorem rd_mem {w : World} {b v c d : Nat} {L : List (Nat × (Nat → Value))} {bs : List Int} {f : Nat → Int} {wr rd st lo bu : Int} (h : HasX w b v c d L bs f wr rd st lo bu) (p : Int) (p0 : 0 ≤ p) (p1 : p < 2088960) {lt : Int} (h7 : L[7]? = some (1, fun _ => .int .i64 lt)) (h8 : L[8]? = some (8192, fun _ => .int .u8 0)) :
    ∃ x, Calls Tryz.prog 11 #[.pointer (some ⟨b, 0, none⟩), .int .i64 p] w fun e w' => e = Ending.returned (.int .i64 x) ∧ HasX w' b v c d L bs f wr rd st lo bu ∧ OnlyE (EX b v) w w' := by
  by_cases h1 : p < 1048576
  · obtain ⟨x, _, _, KB⟩ := byte_is (w := w) (c := c) (d := d) (bs := bs) h.2.2.2.2.2.2.2.2.1.2 (pageOf ((bs.length / 8192 : Nat) : Int) lt (p / 8192)) (p % 8192)
    exact ⟨x, rd_rom h p p0 h1 h7 KB⟩
  · by_cases h2 : 2031616 ≤ p ∧ p < 2064384
    · exact ⟨0, rd_ram h p h2.1 h2.2 (p % 8192) rfl h8 rfl (by decide) (by decide)⟩
    · exact ⟨255, rd_open h p (by omega) (by omega) p1 rfl⟩
/-- A write to memory, or to nothing. -/
theorem wr_mem {w : World} {b v c d : Nat} {L : List (Nat × (Nat → Value))} {bs : List Int} {f : Nat → Int} {wr rd st lo bu : Int} (h : HasX w b v c d L bs f wr rd st lo bu) (p n : Int) (p0 : 0 ≤ p) (p1 : p < 2088960) (hn : bs.length / 8192 ≠ 320) {lt : Int} (h7 : L[7]? = some (1, fun _ => .int .i64 lt)) {m : Nat → Value} (h8 : L[8]? = some (8192, m)) :
    ∃ m', Calls Tryz.prog 13 #[.pointer (some ⟨b, 0, none⟩), .int .i64 p, .int .i64 n] w fun e w' => e = Ending.returned (.tuple #[]) ∧ HasX w' b v c d (L.set 8 (8192, m')) bs f wr rd st lo bu ∧ OnlyE (EX b v) w w' := by
  by_cases h1 : p < 1048576
  · exact ⟨m, by rw [set_id h8]; exact wr_rom h p p0 h1 h7 hn n⟩
  · by_cases h2 : 2031616 ≤ p ∧ p < 2064384
    · exact ⟨_, wr_ram h p h2.1 h2.2 (p % 8192) rfl h8 n _ rfl⟩
    · exact ⟨m, by rw [set_id h8]; exact wr_open h p (by omega) (by omega) p1 n⟩
theorem fresh_okP : P22.okP freshF := P22.fresh_ok
/-- The first write, to each of the four. -/
theorem wr_four {w : World} {b v c d : Nat} {bs : List Int} (h : HasX w b v c d (LB v c) bs (fun _ => 0) 0 0 1 0 0) (k n y : Int) (k0 : 0 ≤ k) (k1 : k < 4) (hy : n % 256 = y) :
    ∃ ps tt po, Calls Tryz.prog 13 #[.pointer (some ⟨b, 0, none⟩), .int .i64 (2091008 + k * 1024), .int .i64 n] w fun e w' => e = Ending.returned (.tuple #[]) ∧ HasX w' b v c d (ML v c (fun _ => 0) 0 false 0 (fun _ => .int .u8 0) ps tt po 0 0 y 0) bs (fun _ => 0) 0 0 1 0 0 ∧ OnlyE (EX b v) w w' := by
  rw [lb_ml, p0_pv] at h
  rcases (show k = 0 ∨ k = 1 ∨ k = 2 ∨ k = 3 by omega) with rfl | rfl | rfl | rfl
  · exact ⟨_, _, _, wr_psg h 2091008 0 0 n y (by decide) (by decide) (by decide) hy ml_11 fresh_okP ml_16⟩
  · exact ⟨_, _, _, wr_timer h 2092032 0 0 n y (by decide) (by decide) (by decide) hy ml_12 ml_13 ml_17 ml_16 (u := tv (y % 128) 0 false 0) (fun w => T10.write_0 0 0 false 0 y w) (tv_one _ _ _ _)⟩
  · exact ⟨_, _, _, wr_pad h 2093056 0 0 n y (by decide) (by decide) (by decide) hy ml_14 ml_16⟩
  · exact ⟨_, _, _, wr_irq h 2094080 0 0 n y (by decide) (by decide) (by decide) hy ml_12 ml_13 ml_17 ml_16 (u := sv 0 0) (fun w => I11.write_no 0 0 0 y (by decide) (by decide) w) (sv_one _ _)⟩
set_option maxHeartbeats 2000000 in
theorem busHolds_walk (a0 a1 a2 : Int) (W : World) (w0 : (Lit.int .i64 a0).wf = true) (w1 : (Lit.int .i64 a1).wf = true) (w2 : (Lit.int .i64 a2).wf = true) (hL : Tabs W ∧ HasErr W) :
    Calls Tryz.prog 8 #[.int .i64 a0, .int .i64 a1, .int .i64 a2] W fun e w' => e = .returned (.bool true) ∧ Below W.heap.size W w' := by
  have M := hide (machine_1 hL.1 hL.2)
  obtain ⟨k, hk⟩ : ∃ k, bits .and .i64 a0 3 = k := ⟨_, rfl⟩
  have k0 : 0 ≤ k ∧ k < 4 := by rw [← hk, and_3]; omega
  obtain ⟨q, hq⟩ : ∃ q, bits .and .i64 a2 2088959 = q := ⟨_, rfl⟩
  have q0 := and_le a2 2088959 (by decide) (by decide)
  rw [hq] at q0
  obtain ⟨y, hy⟩ : ∃ y, bits .and .i64 a1 255 = y := ⟨_, rfl⟩
  have HY := hide (show a1 % 256 = y by rw [← hy, and_255])
  obtain ⟨n, hn⟩ : ∃ n, wrap64 (a1 + 1) = n := ⟨_, rfl⟩
  clear hL w0 w1 w2
  set_option maxRecDepth 20000 in
  go_enter Tryz.func8, Tryz.ntmps8
  set_option maxRecDepth 20000 in
  go_wp2_with fail
  refine M.out.mono ?_
  rintro e w1 ⟨b, v, c, d, bs, rfl, hl, x1, ⟨lb, lv⟩, b1⟩
  have HL := hide (show bs.length / 8192 ≠ 320 by rw [hl]; decide)
  have X1 := hide x1
  have B1 := hide b1
  have NB := hide (show ∀ k, EX b v k → W.heap.size ≤ k from fun k e => by rcases e with rfl | rfl; exact lb; exact lv)
  clear x1 b1 lb lv hl M
  obtain ⟨ps, tt, po, K2⟩ := wr_four X1.out k a1 y k0.1 k0.2 HY.out
  have K2 := hide K2
  set_option maxRecDepth 20000 in
  go_wp2_with fail
  refine K2.out.mono ?_
  rintro e w2 ⟨rfl, x2, o2⟩
  have X2 := hide x2
  have B2 := hide (B1.out.trans (o2.below NB.out B1.out.size))
  clear x2 o2 X1 B1
  clear K2
  have h2 := X2.out.hold ml_16
  set_option maxRecDepth 20000 in
  go_wp2_with fail
  clear h2
  refine (rd_hold X2.out 2091008 0 0 (by decide) (by decide) (by decide) ml_16).mono ?_
  rintro e w3 ⟨rfl, x3, o3⟩
  have X3 := hide x3
  have B3 := hide (B2.out.trans (o3.below NB.out B2.out.size))
  clear x3 o3 X2 B2
  obtain ⟨x, K4⟩ := rd_mem X3.out q q0.1 (by omega) ml_7 ml_8
  have K4 := hide K4
  set_option maxRecDepth 20000 in
  go_wp2_with fail
  refine K4.out.mono ?_
  rintro e w4 ⟨rfl, x4, o4⟩
  have X4 := hide x4
  have B4 := hide (B3.out.trans (o4.below NB.out B3.out.size))
  clear x4 o4 X3 B3
  clear K4
  obtain ⟨m, K5⟩ := wr_mem X4.out q n q0.1 (by omega) HL.out ml_7 ml_8
  have K5 := hide K5
  set_option maxRecDepth 20000 in
  go_wp2_with fail
  refine K5.out.mono ?_
  rintro e w5 ⟨rfl, x5, o5⟩
  replace x5 : HasX w5 b v c d (ML v c (fun _ => 0) 0 false 0 m ps tt po 0 0 y 0) bs (fun _ => 0) 0 0 1 0 0 := x5
  have X5 := hide x5
  have B5 := hide (B4.out.trans (o5.below NB.out B4.out.size))
  clear x5 o5 X4 B4
  clear K5
  set_option maxRecDepth 20000 in
  go_wp2_with fail
  refine (rd_vce_no X5.out 2089984 0 0 (by decide) (by decide) (by decide) (by decide) (by decide) (ml_10.trans (by rw [v0_vF])) rfl).mono ?_
  rintro e w6 ⟨rfl, x6, o6⟩
  have h6 := x6.hold ml_16
  have X6 := hide x6
  have B6 := hide (B5.out.trans (o6.below NB.out B5.out.size))
  clear x6 o6 X5 B5
  set_option maxRecDepth 20000 in
  go_wp2_with fail
  go_ret
  exact ⟨rfl, B6.out⟩
end Go.Proofs.YtpjhiopmdkieiaaGreatDoor
