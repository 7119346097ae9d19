/- Both consoles of a card of no program: the law's maker. -/
import Derived.Test.YtnoggfnidaifkaaGreatDoorConsoleNobodyJ46
import Derived.Test.YtnoggfnidaifkaaGreatDoorConsoleNobodyJ47
import Derived.Test.YtnoggfnidaifkaaGreatDoorConsoleNobodyJ49
namespace Go.Proofs.YtnoggfnidaifkaaGreatDoor.L25
set_option maxRecDepth 20000
open A2 B4 C3 D24 G6 I11 J23 K9 L24 M5 N8 O7 P22 R15 T10 V12 W13
open Go.RowKit
set_option linter.unusedVariables false
set_option maxHeartbeats 4000000 in
theorem both_0 {W : World} (hT : Tabs W) (hE : HasErr W) (hC : CT W) (hG : 10 ≤ W.heap.size) :
    Calls Tryz.prog 5 #[.slice none 0 0, .int .i64 0] W fun e w' => ∃ g b v c d y pc bs, (0 ≤ pc ∧ pc ≤ 65535) ∧ e = Ending.returned (.tuple #[.pointer (some ⟨g, 0, none⟩), .pointer (some ⟨y, 0, none⟩)]) ∧ HasM w' b v c d bs zK ∧ HasK w' g b (rc pc) false 0 8 3 4 4 262 0 0 0 ∧ (W.heap.size ≤ b ∧ W.heap.size ≤ v ∧ W.heap.size ≤ g) ∧ g ≠ b ∧ Below W.heap.size W w' := by
  have HT := hide hT
  have HE := hide hE
  have HC := hide hC
  have HG := hide hG
  clear hT hE hC hG
  go_enter Tryz.func5, Tryz.ntmps5
  go_wp2_with fail
  refine (rom_26 _).mono ?_
  rintro e w1 ⟨bs, hl, rfl, h1, b1⟩
  obtain ⟨q, hq⟩ : ∃ q, W.heap.size = q := ⟨_, rfl⟩
  have LQ := hide (show W.heap.size ≤ q by omega)
  rw [hq] at h1 ⊢
  have H1 := hide h1
  have HL := hide hl
  have B1 := hide b1
  have KL := hide (load_any q 0 8192 bs w1 (fun i hi => by rw [Nat.zero_add]; exact (h1.cell i hi).1) h1.2 (by omega) (by omega) (by decide) h1.lt (HT.out.next b1).1 (HE.out.next b1))
  rw [hl] at KL
  rw [show errOf (8192 - fromOf 8192) = 0 by decide, show fromOf 8192 = 0 by decide, List.drop_zero] at KL
  clear h1 hl b1 hq
  go_wp2_with fail
  refine KL.out.mono ?_
  rintro e w2 ⟨hc, b2⟩
  obtain ⟨c, rfl, d, lc, ld, k1, k2⟩ : ∃ c, e = Ending.returned (.tuple #[.pointer (some ⟨c, 0, none⟩), .int .i64 0]) ∧ IsCard w1.heap.size w2 c bs := by
    rcases hc with ⟨h0, _⟩ | ⟨_, c, h1, h2⟩
    · exact absurd rfl h0
    · exact ⟨c, h1, h2⟩
  have HCd := hide (show HasCard w2 c d bs from ⟨k1, k2, cell_lt k1⟩)
  have H2 := hide (H1.out.next b2)
  have B2 := hide (bnext B1.out b2)
  have KN := hide (con_new HCd.out HL.out (HT.out.next B2.out) (HC.out.next B2.out) (Nat.le_trans HG.out B2.out.size))
  clear hc b2 lc ld k1 k2 KL H1 B1
  go_wp2_with fail
  refine KN.out.mono ?_
  rintro e w3 ⟨g, b, v, pc, hpc, rfl, hm, hk, ⟨l1, l2, l3⟩, ng, b3⟩
  have HM := hide hm
  have HK := hide hk
  have PC := hide hpc
  have LS := hide (show W.heap.size ≤ b ∧ W.heap.size ≤ v ∧ W.heap.size ≤ g by have := B2.out.size; omega)
  have NG := hide ng
  have H3 := hide (H2.out.next b3)
  have B3 := hide (bnext B2.out b3)
  have KY := hide (ynew_any (some ⟨q, 0, none⟩) 8192 8192 (by decide) w3)
  rw [show ((8192 : Nat) : Int) / 8192 = 1 by decide] at KY
  clear hpc hm hk l1 l2 l3 ng b3 KN H2 B2 HCd HT HE HC HG
  go_wp2_with fail
  refine KY.out.mono ?_
  rintro e w4 ⟨yb, yc, yd, yr, rfl, y4, ⟨m1, m2, m3, m4⟩, b4⟩
  have Y4 := hide (show HasN w4 yb yc yd yr q bs from ⟨y4, H3.out.next b4, HL.out, fun e => by have := H3.out.lt; omega⟩)
  have B4 := hide b4
  have M1 := hide m1
  clear y4 m1 m2 m3 m4 b4 KY
  go_wp2_with fail
  refine (ynew26 Y4.out).mono ?_
  rintro e w5 ⟨⟨y, rfl⟩, b5⟩
  have B5 := hide (B4.out.trans (b5.below M1.out B4.out.size))
  clear b5 Y4 B4
  go_wp2
  go_ret2
  exact ⟨g, b, v, c, d, y, pc, bs, PC.out, rfl, HM.out.next B5.out, HK.out.next B5.out, LS.out, NG.out, bnext B3.out B5.out⟩
end Go.Proofs.YtnoggfnidaifkaaGreatDoor.L25
