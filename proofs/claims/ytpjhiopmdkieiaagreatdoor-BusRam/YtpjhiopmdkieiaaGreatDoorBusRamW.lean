/- The walk of BusRam. -/
import Derived.Test.YtpjhiopmdkieiaaGreatDoorBus24x
import Derived.Test.YtpjhiopmdkieiaaGreatDoorBusLaid
namespace Go.Proofs.YtpjhiopmdkieiaaGreatDoor
open Go.Proofs.YtpjhiopmdkieiaaGreatDoor.B4 Go.Proofs.YtpjhiopmdkieiaaGreatDoor.C3 Go.Proofs.YtpjhiopmdkieiaaGreatDoor.G6 Go.Proofs.YtpjhiopmdkieiaaGreatDoor.L24 Go.Proofs.YtpjhiopmdkieiaaGreatDoor.M5 Go.Proofs.YtpjhiopmdkieiaaGreatDoor.P22 Go.Proofs.YtpjhiopmdkieiaaGreatDoor.R15 Go.Proofs.YtpjhiopmdkieiaaGreatDoor.W13
open Go.RowKit
set_option linter.unusedVariables false
theorem or_high (p : Int) (p0 : 0 ≤ p) (p1 : p < 8192) : bits .or .i64 1048576 p = 1048576 + p := or_add 20 1048576 p (by decide) (by decide) (by decide) p0 (by omega) (by omega)
theorem and_13 (n : Int) : bits .and .i64 n 8191 = n % 8192 := and_mask 13 (by decide) n
theorem and_20 (n : Int) : bits .and .i64 n 1048575 = n % 1048576 := and_mask 20 (by decide) n
set_option maxHeartbeats 2000000 in
theorem busRam_walk (a0 a1 a2 : Int) (W : World) (w0 : (Lit.int .i64 a0).wf = true) (w1 : (Lit.int .i64 a1).wf = true) (w2 : (Lit.int .i64 a2).wf = true) (hL : Tabs W ∧ HasErr W) :
    Calls Tryz.prog 5 #[.int .i64 a0, .int .i64 a1, .int .i64 a2] W fun e w' => e = .returned (.bool true) ∧ Below W.heap.size W w' := by
  have M := hide (machine_1 hL.1 hL.2)
  obtain ⟨p, hp⟩ : ∃ p, bits .and .i64 a0 8191 = p := ⟨_, rfl⟩
  obtain ⟨q, hq⟩ : ∃ q, bits .and .i64 a2 1048575 = q := ⟨_, rfl⟩
  have p0 : 0 ≤ p ∧ p < 8192 := by rw [← hp, and_13]; omega
  have q0 : 0 ≤ q ∧ q < 1048576 := by rw [← hq, and_20]; omega
  obtain ⟨o, ho⟩ : ∃ o, bits .or .i64 1048576 p = o := ⟨_, rfl⟩
  have o0 : 1048576 ≤ o ∧ o < 1056768 := by rw [← ho, or_high p p0.1 p0.2]; omega
  obtain ⟨r, hr⟩ : ∃ r, wrap64 (a1 + 3) = r := ⟨_, rfl⟩
  have e3 : bits .and .i64 r 255 = r % 256 := and_255 r
  clear hL w0 w1 w2
  set_option maxRecDepth 20000 in
  go_enter Tryz.func5, Tryz.ntmps5
  set_option maxRecDepth 20000 in
  go_wp2_with fail
  refine M.out.mono ?_
  rintro e w1 ⟨b, v, c, d, bs, rfl, hl, x1, ⟨lb, lv⟩, b1⟩
  have X1 := hide (show ∃ m, HasX w1 b v c d ((LB v c).set 8 (8192, m)) bs (fun _ => 0) 0 0 1 0 0 from ⟨_, by rw [set_id (show (LB v c)[8]? = some (8192, fun _ => .int .u8 0) from rfl)]; exact x1⟩)
  have B1 := hide b1
  have HL := hide hl
  have NB := hide (show ∀ k, EX b v k → W.heap.size ≤ k from fun k e => by rcases e with rfl | rfl; exact lb; exact lv)
  clear x1 b1 lb lv hl M
  set_option maxRecDepth 20000 in
  go_wp2_with fail
  go_loopw [8] (fun sk wr => ∃ (k : Int) (m : Nat → Value), (0 ≤ k ∧ k ≤ 4) ∧ sk = .int .i64 k ∧ HasX wr b v c d ((LB v c).set 8 (8192, m)) bs (fun _ => 0) 0 0 1 0 0 ∧ (k = 4 → m p.toNat = .int .u8 (r % 256)) ∧ Below W.heap.size W wr) (fun sk _ => (4 - intOf sk).toNat)
  case atStart =>
    obtain ⟨m, x⟩ := X1.out
    exact ⟨0, m, by omega, rfl, x, fun h => by omega, B1.out⟩
  case round =>
    obtain ⟨k, m, hk, rfl, x2, h2, b2⟩ := hrel
    have X2 := hide x2
    have H2 := hide h2
    have B2 := hide b2
    clear x2 h2 b2 X1 B1
    by_cases hlt : k < 4
    · obtain ⟨n, hn⟩ : ∃ n, wrap64 (a1 + k) = n := ⟨_, rfl⟩
      have en : bits .and .i64 n 255 = n % 256 := and_255 n
      have R3 := hide (show k = 3 → n = r from fun h => by rw [← hn, ← hr, h])
      set_option maxRecDepth 20000 in
      go_wp2_with fail
      have K2 := hide (wr_ram X2.out (2031616 + k * 8192 + p) (by omega) (by omega) p (by omega) (set_same (show (LB v c)[8]? = some (8192, fun _ => .int .u8 0) from rfl) _) n (n % 256) rfl)
      refine K2.out.mono ?_
      rintro e w3 ⟨rfl, x3, o3⟩
      rw [List.set_set] at x3
      have m0 : updC m p.toNat (.int .u8 (n % 256)) p.toNat = .int .u8 (n % 256) := by simp [updC]
      generalize updC m p.toNat (.int .u8 (n % 256)) = m1 at x3 m0
      have X3 := hide x3
      have M3 := hide m0
      have B3 := hide (B2.out.trans (o3.below NB.out B2.out.size))
      clear x3 m0 o3 K2 X2 B2 H2
      set_option maxRecDepth 20000 in
      go_wp2_with fail
      go_loopw [9] (fun sj wq => ∃ (j : Int), (0 ≤ j ∧ j ≤ 4) ∧ sj = .int .i64 j ∧ HasX wq b v c d ((LB v c).set 8 (8192, m1)) bs (fun _ => 0) 0 0 1 0 0 ∧ Below W.heap.size W wq) (fun sj _ => (4 - intOf sj).toNat)
      case atStart => exact ⟨0, by omega, rfl, X3.out, B3.out⟩
      case round =>
        obtain ⟨j, hj, rfl, x4, b4⟩ := hrel
        have X4 := hide x4
        have B4 := hide b4
        clear x4 b4 X3 B3
        by_cases hlj : j < 4
        · set_option maxRecDepth 20000 in
          go_wp2_with fail
          have K4 := hide (rd_ram X4.out (2031616 + j * 8192 + p) (by omega) (by omega) p (by omega) (set_same (show (LB v c)[8]? = some (8192, fun _ => .int .u8 0) from rfl) _) M3.out (by omega) (by omega))
          refine K4.out.mono ?_
          rintro e w5 ⟨rfl, x5, o5⟩
          have X5 := hide x5
          have B5 := hide (B4.out.trans (o5.below NB.out B4.out.size))
          clear x5 o5 K4 X4 B4
          set_option maxRecDepth 20000 in
          go_wp2_with fail
          go_roundw
          case rel => exact ⟨j + 1, by omega, by go_num, X5.out, B5.out⟩
          case measure => simp [intOf]; omega
        · obtain rfl : j = 4 := by omega
          set_option maxRecDepth 20000 in
          go_wp2_with fail
          go_roundw
          case rel => exact ⟨k + 1, m1, by omega, by go_num, X4.out, fun h => by rw [M3.out, R3.out (by omega)], B4.out⟩
          case measure => simp [intOf]; omega
    · obtain rfl : k = 4 := by omega
      have M2 := hide (H2.out rfl)
      clear H2
      set_option maxRecDepth 20000 in
      go_wp2_with fail
      obtain ⟨x, x0, x1, KB⟩ := byte_is (w := W) (c := c) (d := d) (bs := bs) (by rw [HL.out]; decide) (pageOf ((bs.length / 8192 : Nat) : Int) 0 (q / 8192)) (q % 8192)
      have KB := hide KB
      have F7 := hide (show ((LB v c).set 8 (8192, m))[7]? = some (1, fun _ => .int .i64 0) from rfl)
      have F8 := hide (show ((LB v c).set 8 (8192, m))[8]? = some (8192, m) from rfl)
      refine (rd_rom X2.out q q0.1 q0.2 F7.out KB.out).mono ?_
      rintro e w3 ⟨rfl, x3, o3⟩
      have X3 := hide x3
      have B3 := hide (B2.out.trans (o3.below NB.out B2.out.size))
      clear x3 o3 X2 B2
      set_option maxRecDepth 20000 in
      go_wp2_with fail
      refine (wr_rom X3.out q q0.1 q0.2 F7.out (by rw [HL.out]; decide) a1).mono ?_
      rintro e w4 ⟨rfl, x4, o4⟩
      have X4 := hide x4
      have B4 := hide (B3.out.trans (o4.below NB.out B3.out.size))
      clear x4 o4 X3 B3
      set_option maxRecDepth 20000 in
      go_wp2_with fail
      refine (wr_open X4.out o (by omega) (by omega) (by omega) a1).mono ?_
      rintro e w5 ⟨rfl, x5, o5⟩
      have X5 := hide x5
      have B5 := hide (B4.out.trans (o5.below NB.out B4.out.size))
      clear x5 o5 X4 B4
      set_option maxRecDepth 20000 in
      go_wp2_with fail
      refine (rd_rom X5.out q q0.1 q0.2 F7.out KB.out).mono ?_
      rintro e w6 ⟨rfl, x6, o6⟩
      have X6 := hide x6
      have B6 := hide (B5.out.trans (o6.below NB.out B5.out.size))
      clear x6 o6 X5 B5
      set_option maxRecDepth 20000 in
      go_wp2_with fail
      refine (rd_open X6.out o (by omega) (by omega) (by omega) rfl).mono ?_
      rintro e w7 ⟨rfl, x7, o7⟩
      have X7 := hide x7
      have B7 := hide (B6.out.trans (o7.below NB.out B6.out.size))
      clear x7 o7 X6 B6
      set_option maxRecDepth 20000 in
      go_wp2_with fail
      refine (rd_ram X7.out (2031616 + p) (by omega) (by omega) p (by omega) F8.out M2.out (by omega) (by omega)).mono ?_
      rintro e w8 ⟨rfl, x8, o8⟩
      have B8 := hide (B7.out.trans (o8.below NB.out B7.out.size))
      clear x8 o8 X7 B7
      set_option maxRecDepth 20000 in
      go_wp2_with fail
      go_ret
      exact ⟨rfl, B8.out⟩
end Go.Proofs.YtpjhiopmdkieiaaGreatDoor
