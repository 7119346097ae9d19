/- A bit of a byte of the zero page is set, or cleared, and the others stay; a branch by it goes, or not: the walk. -/
import Derived.Test.YtoijhhbiknhlnaaGreatDoorCpuBitsJ45
import Derived.Test.YtoijhhbiknhlnaaGreatDoorCpuBitsJ50
namespace Go.Proofs.YtoijhhbiknhlnaaGreatDoor
set_option maxRecDepth 20000
open A2 B4 C3 D24 G6 I11 J23 K9 L24 L25 M5 N8 O7 P22 R15 T10 V12 W13
open Go.RowKit
set_option linter.unusedVariables false
theorem smb_all (K : Nat) (hK : K < 8) : (modeOf (16 * K + 135) = 3 ∧ lenOf (16 * K + 135) = 2 ∧ cycOf (16 * K + 135) = 7) ∧ ∀ {bs : List Int} {I B : Nat → Int} {t : Bool} {Z : Nat → Nat → Int}, (I 0 = 2 → IsByte (I 3)) → (∀ m, IsByte m → IsByte (putOf m (K : Int) true)) → DoZ bs (nameOf (16 * K + 135)) I B t Z (cbS bs I (K : Int) true Z) := by
  rcases K with _ | _ | _ | _ | _ | _ | _ | _ | K
  · exact ⟨⟨by kernel_rfl, by kernel_rfl, by kernel_rfl⟩, by rw [show nameOf (16 * 0 + 135) = ⟨#[83, 77, 66, 48]⟩ by kernel_rfl]; exact do_SMB0⟩
  · exact ⟨⟨by kernel_rfl, by kernel_rfl, by kernel_rfl⟩, by rw [show nameOf (16 * 1 + 135) = ⟨#[83, 77, 66, 49]⟩ by kernel_rfl]; exact do_SMB1⟩
  · exact ⟨⟨by kernel_rfl, by kernel_rfl, by kernel_rfl⟩, by rw [show nameOf (16 * 2 + 135) = ⟨#[83, 77, 66, 50]⟩ by kernel_rfl]; exact do_SMB2⟩
  · exact ⟨⟨by kernel_rfl, by kernel_rfl, by kernel_rfl⟩, by rw [show nameOf (16 * 3 + 135) = ⟨#[83, 77, 66, 51]⟩ by kernel_rfl]; exact do_SMB3⟩
  · exact ⟨⟨by kernel_rfl, by kernel_rfl, by kernel_rfl⟩, by rw [show nameOf (16 * 4 + 135) = ⟨#[83, 77, 66, 52]⟩ by kernel_rfl]; exact do_SMB4⟩
  · exact ⟨⟨by kernel_rfl, by kernel_rfl, by kernel_rfl⟩, by rw [show nameOf (16 * 5 + 135) = ⟨#[83, 77, 66, 53]⟩ by kernel_rfl]; exact do_SMB5⟩
  · exact ⟨⟨by kernel_rfl, by kernel_rfl, by kernel_rfl⟩, by rw [show nameOf (16 * 6 + 135) = ⟨#[83, 77, 66, 54]⟩ by kernel_rfl]; exact do_SMB6⟩
  · exact ⟨⟨by kernel_rfl, by kernel_rfl, by kernel_rfl⟩, by rw [show nameOf (16 * 7 + 135) = ⟨#[83, 77, 66, 55]⟩ by kernel_rfl]; exact do_SMB7⟩
  · omega
theorem rmb_all (K : Nat) (hK : K < 8) : (modeOf (16 * K + 7) = 3 ∧ lenOf (16 * K + 7) = 2 ∧ cycOf (16 * K + 7) = 7) ∧ ∀ {bs : List Int} {I B : Nat → Int} {t : Bool} {Z : Nat → Nat → Int}, (I 0 = 2 → IsByte (I 3)) → (∀ m, IsByte m → IsByte (putOf m (K : Int) false)) → DoZ bs (nameOf (16 * K + 7)) I B t Z (cbS bs I (K : Int) false Z) := by
  rcases K with _ | _ | _ | _ | _ | _ | _ | _ | K
  · exact ⟨⟨by kernel_rfl, by kernel_rfl, by kernel_rfl⟩, by rw [show nameOf (16 * 0 + 7) = ⟨#[82, 77, 66, 48]⟩ by kernel_rfl]; exact do_RMB0⟩
  · exact ⟨⟨by kernel_rfl, by kernel_rfl, by kernel_rfl⟩, by rw [show nameOf (16 * 1 + 7) = ⟨#[82, 77, 66, 49]⟩ by kernel_rfl]; exact do_RMB1⟩
  · exact ⟨⟨by kernel_rfl, by kernel_rfl, by kernel_rfl⟩, by rw [show nameOf (16 * 2 + 7) = ⟨#[82, 77, 66, 50]⟩ by kernel_rfl]; exact do_RMB2⟩
  · exact ⟨⟨by kernel_rfl, by kernel_rfl, by kernel_rfl⟩, by rw [show nameOf (16 * 3 + 7) = ⟨#[82, 77, 66, 51]⟩ by kernel_rfl]; exact do_RMB3⟩
  · exact ⟨⟨by kernel_rfl, by kernel_rfl, by kernel_rfl⟩, by rw [show nameOf (16 * 4 + 7) = ⟨#[82, 77, 66, 52]⟩ by kernel_rfl]; exact do_RMB4⟩
  · exact ⟨⟨by kernel_rfl, by kernel_rfl, by kernel_rfl⟩, by rw [show nameOf (16 * 5 + 7) = ⟨#[82, 77, 66, 53]⟩ by kernel_rfl]; exact do_RMB5⟩
  · exact ⟨⟨by kernel_rfl, by kernel_rfl, by kernel_rfl⟩, by rw [show nameOf (16 * 6 + 7) = ⟨#[82, 77, 66, 54]⟩ by kernel_rfl]; exact do_RMB6⟩
  · exact ⟨⟨by kernel_rfl, by kernel_rfl, by kernel_rfl⟩, by rw [show nameOf (16 * 7 + 7) = ⟨#[82, 77, 66, 55]⟩ by kernel_rfl]; exact do_RMB7⟩
  · omega
theorem bbs_all (K : Nat) (hK : K < 8) : (modeOf (16 * K + 143) = 15 ∧ lenOf (16 * K + 143) = 3 ∧ cycOf (16 * K + 143) = 6) ∧ ∀ {bs : List Int} {I B : Nat → Int} {t : Bool} {Z : Nat → Nat → Int}, DoZ bs (nameOf (16 * K + 143)) I B t Z (brS I (bitOf (mV bs I Z) (K : Int) == 1) true (mS I Z)) := by
  rcases K with _ | _ | _ | _ | _ | _ | _ | _ | K
  · exact ⟨⟨by kernel_rfl, by kernel_rfl, by kernel_rfl⟩, by rw [show nameOf (16 * 0 + 143) = ⟨#[66, 66, 83, 48]⟩ by kernel_rfl]; exact do_BBS0⟩
  · exact ⟨⟨by kernel_rfl, by kernel_rfl, by kernel_rfl⟩, by rw [show nameOf (16 * 1 + 143) = ⟨#[66, 66, 83, 49]⟩ by kernel_rfl]; exact do_BBS1⟩
  · exact ⟨⟨by kernel_rfl, by kernel_rfl, by kernel_rfl⟩, by rw [show nameOf (16 * 2 + 143) = ⟨#[66, 66, 83, 50]⟩ by kernel_rfl]; exact do_BBS2⟩
  · exact ⟨⟨by kernel_rfl, by kernel_rfl, by kernel_rfl⟩, by rw [show nameOf (16 * 3 + 143) = ⟨#[66, 66, 83, 51]⟩ by kernel_rfl]; exact do_BBS3⟩
  · exact ⟨⟨by kernel_rfl, by kernel_rfl, by kernel_rfl⟩, by rw [show nameOf (16 * 4 + 143) = ⟨#[66, 66, 83, 52]⟩ by kernel_rfl]; exact do_BBS4⟩
  · exact ⟨⟨by kernel_rfl, by kernel_rfl, by kernel_rfl⟩, by rw [show nameOf (16 * 5 + 143) = ⟨#[66, 66, 83, 53]⟩ by kernel_rfl]; exact do_BBS5⟩
  · exact ⟨⟨by kernel_rfl, by kernel_rfl, by kernel_rfl⟩, by rw [show nameOf (16 * 6 + 143) = ⟨#[66, 66, 83, 54]⟩ by kernel_rfl]; exact do_BBS6⟩
  · exact ⟨⟨by kernel_rfl, by kernel_rfl, by kernel_rfl⟩, by rw [show nameOf (16 * 7 + 143) = ⟨#[66, 66, 83, 55]⟩ by kernel_rfl]; exact do_BBS7⟩
  · omega
theorem bbr_all (K : Nat) (hK : K < 8) : (modeOf (16 * K + 15) = 15 ∧ lenOf (16 * K + 15) = 3 ∧ cycOf (16 * K + 15) = 6) ∧ ∀ {bs : List Int} {I B : Nat → Int} {t : Bool} {Z : Nat → Nat → Int}, DoZ bs (nameOf (16 * K + 15)) I B t Z (brS I (bitOf (mV bs I Z) (K : Int) == 1) false (mS I Z)) := by
  rcases K with _ | _ | _ | _ | _ | _ | _ | _ | K
  · exact ⟨⟨by kernel_rfl, by kernel_rfl, by kernel_rfl⟩, by rw [show nameOf (16 * 0 + 15) = ⟨#[66, 66, 82, 48]⟩ by kernel_rfl]; exact do_BBR0⟩
  · exact ⟨⟨by kernel_rfl, by kernel_rfl, by kernel_rfl⟩, by rw [show nameOf (16 * 1 + 15) = ⟨#[66, 66, 82, 49]⟩ by kernel_rfl]; exact do_BBR1⟩
  · exact ⟨⟨by kernel_rfl, by kernel_rfl, by kernel_rfl⟩, by rw [show nameOf (16 * 2 + 15) = ⟨#[66, 66, 82, 50]⟩ by kernel_rfl]; exact do_BBR2⟩
  · exact ⟨⟨by kernel_rfl, by kernel_rfl, by kernel_rfl⟩, by rw [show nameOf (16 * 3 + 15) = ⟨#[66, 66, 82, 51]⟩ by kernel_rfl]; exact do_BBR3⟩
  · exact ⟨⟨by kernel_rfl, by kernel_rfl, by kernel_rfl⟩, by rw [show nameOf (16 * 4 + 15) = ⟨#[66, 66, 82, 52]⟩ by kernel_rfl]; exact do_BBR4⟩
  · exact ⟨⟨by kernel_rfl, by kernel_rfl, by kernel_rfl⟩, by rw [show nameOf (16 * 5 + 15) = ⟨#[66, 66, 82, 53]⟩ by kernel_rfl]; exact do_BBR5⟩
  · exact ⟨⟨by kernel_rfl, by kernel_rfl, by kernel_rfl⟩, by rw [show nameOf (16 * 6 + 15) = ⟨#[66, 66, 82, 54]⟩ by kernel_rfl]; exact do_BBR6⟩
  · exact ⟨⟨by kernel_rfl, by kernel_rfl, by kernel_rfl⟩, by rw [show nameOf (16 * 7 + 15) = ⟨#[66, 66, 82, 55]⟩ by kernel_rfl]; exact do_BBR7⟩
  · omega
theorem fin8_of {P : Int → Int → Prop} (h : ∀ (k : Fin 8) (x : Fin 256), P (k.val : Int) (x.val : Int)) {K : Nat} (hK : K < 8) {m : Int} (hm : IsByte m) : P K m := fin_of (P := fun x => P K x) (fun x => h ⟨K, hK⟩ x) hm
theorem put_byte {K : Nat} (hK : K < 8) (on : Bool) {m : Int} (hm : IsByte m) : IsByte (putOf m (K : Int) on) := by
  cases on
  · exact fin8_of (P := fun k x => 0 ≤ putOf x k false ∧ putOf x k false < 256) (by decide +kernel) hK hm
  · exact fin8_of (P := fun k x => 0 ≤ putOf x k true ∧ putOf x k true < 256) (by decide +kernel) hK hm
theorem bit_on {K : Nat} (hK : K < 8) {m : Int} (hm : IsByte m) : bitOf (putOf m (K : Int) true % 256) (K : Int) = 1 := fin8_of (P := fun k x => bitOf (putOf x k true % 256) k = 1) (by decide +kernel) hK hm
theorem bit_off {K : Nat} (hK : K < 8) {m : Int} (hm : IsByte m) : bitOf (putOf m (K : Int) false % 256) (K : Int) = 0 := fin8_of (P := fun k x => bitOf (putOf x k false % 256) k = 0) (by decide +kernel) hK hm
theorem set_is {K : Nat} (hK : K < 8) {m : Int} (hm : IsByte m) : putOf m (K : Int) true % 256 = bits .or .u8 m (2 ^ K % 256) := fin8_of (P := fun k x => putOf x k true % 256 = bits .or .u8 x (2 ^ k.toNat % 256)) (by decide +kernel) hK hm
theorem clear_is {K : Nat} (hK : K < 8) {m : Int} (hm : IsByte m) : putOf (putOf m (K : Int) true % 256) (K : Int) false % 256 = bits .andNot .u8 m (2 ^ K % 256) := fin8_of (P := fun k x => putOf (putOf x k true % 256) k false % 256 = bits .andNot .u8 x (2 ^ k.toNat % 256)) (by decide +kernel) hK hm
theorem up_far (M : Nat → Int) {z j : Nat} (h : j ≠ z) (x : Int) : up M z x j = M j := by simp [up, h]
theorem up_at (M : Nat → Int) (z : Nat) (x : Int) : up M z x z = x := by simp [up]
theorem anP_0 : anP 0 32 = 0 := by decide +kernel
theorem go_smb (K : Nat) (hK : K < 8) {z : Nat} (hz : z < 256) {M : Nat → Int} (bs : List Int) (h0 : M 1024 = ((16 * K + 135 : Nat) : Int)) (h1 : M 1025 = (z : Int)) : Goes bs Yp M 0 0 0 255 0 1024 false 0 (up M z (putOf (M z) (K : Int) true % 256)) 0 0 0 255 0 1026 false 0 7 := by
  obtain ⟨⟨m, l, c⟩, d⟩ := smb_all K hK
  have k := go_put (bs := bs) (f := false) (l := 0) calm_p zB zB zB mB zB (by decide) h0 (by omega) m l hz h1 c (K : Int) true (fun _ h => put_byte hK true h) d
  rw [anP_0] at k
  exact k
theorem go_rmb (K : Nat) (hK : K < 8) {z : Nat} (hz : z < 256) {M : Nat → Int} (bs : List Int) (h0 : M 1034 = ((16 * K + 7 : Nat) : Int)) (h1 : M 1035 = (z : Int)) : Goes bs Yp M 0 0 0 255 0 1034 false 0 (up M z (putOf (M z) (K : Int) false % 256)) 0 0 0 255 0 1036 false 0 7 := by
  obtain ⟨⟨m, l, c⟩, d⟩ := rmb_all K hK
  have k := go_put (bs := bs) (f := false) (l := 0) calm_p zB zB zB mB zB (by decide) h0 (by omega) m l hz h1 c (K : Int) false (fun _ h => put_byte hK false h) d
  rw [anP_0] at k
  exact k
theorem go_bbs (K : Nat) (hK : K < 8) {z : Nat} (hz : z < 256) {M : Nat → Int} (bs : List Int) (h0 : M 1026 = ((16 * K + 143 : Nat) : Int)) (h1 : M 1027 = (z : Int)) (h2 : M 1028 = 5) (on : bitOf (M z) (K : Int) = 1) : Goes bs Yp M 0 0 0 255 0 1026 false 0 M 0 0 0 255 0 1034 false 0 8 := by
  obtain ⟨⟨m, l, c⟩, d⟩ := bbs_all K hK
  have k := go_bb_yes (bs := bs) (f := false) (l := 0) calm_p zB zB zB mB zB (by decide) h0 (by omega) m l hz h1 c (K : Int) true d (by rw [on]; rfl) (q' := 1034) (by rw [show M (1026 + 2) = 5 from h2]; decide) (by decide)
  rw [anP_0] at k
  exact k
theorem go_bbr (K : Nat) (hK : K < 8) {z : Nat} (hz : z < 256) {M : Nat → Int} (bs : List Int) (h0 : M 1036 = ((16 * K + 15 : Nat) : Int)) (h1 : M 1037 = (z : Int)) (h2 : M 1038 = 7) (on : bitOf (M z) (K : Int) = 0) : Goes bs Yp M 0 0 0 255 0 1036 false 0 M 0 0 0 255 0 1046 false 0 8 := by
  obtain ⟨⟨m, l, c⟩, d⟩ := bbr_all K hK
  have k := go_bb_yes (bs := bs) (f := false) (l := 0) calm_p zB zB zB mB zB (by decide) h0 (by omega) m l hz h1 c (K : Int) false d (by rw [on]; rfl) (q' := 1046) (by rw [show M (1036 + 2) = 7 from h2]; decide) (by decide)
  rw [anP_0] at k
  exact k
set_option maxHeartbeats 2000000 in
theorem cpuBits_walk (a0 a1 a2 : Int) (W : World) (w0 : (Lit.int .i64 a0).wf = true) (w1 : (Lit.int .u8 a1).wf = true) (w2 : (Lit.int .u8 a2).wf = true) (hL : Tabs W ∧ HasErr W ∧ CT W) :
    Calls Tryz.prog 9 #[.int .i64 a0, .int .u8 a1, .int .u8 a2] W fun e w' => e = .returned (.bool true) ∧ Below W.heap.size W w' := by
  obtain ⟨t0, t1⟩ := u8_range w1
  obtain ⟨s0, s1⟩ := u8_range w2
  obtain ⟨z, hz, rfl⟩ : ∃ z : Nat, z < 256 ∧ a2 = (z : Int) := ⟨a2.toNat, by omega, by omega⟩
  obtain ⟨K, hK, eK⟩ : ∃ K : Nat, K < 8 ∧ bits .and .i64 a0 7 = (K : Int) := ⟨(a0 % 8).toNat, by omega, by rw [show bits .and .i64 a0 7 = a0 % 8 from and_mask 3 (by decide) a0]; omega⟩
  have HL := hide hL
  clear hL w0 w1 w2
  go_enter Tryz.func9, Tryz.ntmps9
  go_wp2_with fail
  have e0 : bits .or .i64 ((K : Int) * 16) 135 % 256 = ((16 * K + 135 : Nat) : Int) := by
    rcases K with _ | _ | _ | _ | _ | _ | _ | _ | K
    all_goals first | decide +kernel | omega
  have e1 : bits .or .i64 ((K : Int) * 16) 143 % 256 = ((16 * K + 143 : Nat) : Int) := by
    rcases K with _ | _ | _ | _ | _ | _ | _ | _ | K
    all_goals first | decide +kernel | omega
  have e2 : bits .or .i64 ((K : Int) * 16) 7 % 256 = ((16 * K + 7 : Nat) : Int) := by
    rcases K with _ | _ | _ | _ | _ | _ | _ | _ | K
    all_goals first | decide +kernel | omega
  have e3 : bits .or .i64 ((K : Int) * 16) 15 % 256 = ((16 * K + 15 : Nat) : Int) := by
    rcases K with _ | _ | _ | _ | _ | _ | _ | _ | K
    all_goals first | decide +kernel | omega
  rw [e0, e1, e2, e3]
  clear e0 e1 e2 e3
  obtain ⟨wa, hwa⟩ : ∃ wa, W.alloc (.cells (([((16 * K + 135 : Nat) : Int), (z : Int), ((16 * K + 143 : Nat) : Int), (z : Int), 5, 234, 234, 234, 234, 234, ((16 * K + 7 : Nat) : Int), (z : Int), ((16 * K + 15 : Nat) : Int), (z : Int), 7] : List Int).map (Value.int .u8)).toArray 5) = wa := ⟨_, rfl⟩
  have hwb := hwa
  simp only [List.map_cons, List.map_nil] at hwb
  rw [hwb]
  clear hwb
  have B0 := hide (show Below W.heap.size W wa by rw [← hwa]; exact (Below.refl _ W).alloc (Nat.le_refl _) _)
  have SL := hide (show SlB wa (some ⟨W.heap.size, 0, none⟩) 15 (fun i => [((16 * K + 135 : Nat) : Int), (z : Int), ((16 * K + 143 : Nat) : Int), (z : Int), 5, 234, 234, 234, 234, 234, ((16 * K + 7 : Nat) : Int), (z : Int), ((16 * K + 15 : Nat) : Int), (z : Int), 7].getD i 0) from lit_slb (l := [((16 * K + 135 : Nat) : Int), (z : Int), ((16 * K + 143 : Nat) : Int), (z : Int), 5, 234, 234, 234, 234, 234, ((16 * K + 7 : Nat) : Int), (z : Int), ((16 * K + 15 : Nat) : Int), (z : Int), 7]) (by rw [← hwa]; exact heap_alloc_new _ _) (show 15 ≤ 9223372036854775807 by decide) (fun x hx => by simp only [List.mem_cons, List.not_mem_nil, or_false] at hx; omega))
  clear hwa
  refine (put_is ⟨HL.out.1.next B0.out, HL.out.2.1.next B0.out, HL.out.2.2.next B0.out⟩ SL.out (nil_slb wa fun _ => 0) (by decide) (by decide)).mono ?_
  rintro e w1 ⟨b, v, c, d, bs, rfl, hc, ⟨lb, lv⟩, b1⟩
  have H1 := hide hc
  have B1 := hide (bnext B0.out b1)
  have LB := hide (show W.heap.size ≤ b ∧ W.heap.size ≤ v by have := B0.out.size; omega)
  clear hc lb lv b1 SL B0 HL
  obtain ⟨M, hM⟩ : ∃ M, M = putM (fun i => [((16 * K + 135 : Nat) : Int), (z : Int), ((16 * K + 143 : Nat) : Int), (z : Int), 5, 234, 234, 234, 234, 234, ((16 * K + 7 : Nat) : Int), (z : Int), ((16 * K + 15 : Nat) : Int), (z : Int), 7].getD i 0) (fun _ => 0) 15 0 := ⟨_, rfl⟩
  rw [← hM] at H1
  have MM := hide (show (M 1024 = ((16 * K + 135 : Nat) : Int) ∧ M 1025 = (z : Int)) ∧ (M 1026 = ((16 * K + 143 : Nat) : Int) ∧ M 1027 = (z : Int) ∧ M 1028 = 5) ∧ (M 1034 = ((16 * K + 7 : Nat) : Int) ∧ M 1035 = (z : Int)) ∧ (M 1036 = ((16 * K + 15 : Nat) : Int) ∧ M 1037 = (z : Int) ∧ M 1038 = 7) by rw [hM]; exact ⟨⟨rfl, rfl⟩, ⟨rfl, rfl, rfl⟩, ⟨rfl, rfl⟩, rfl, rfl, rfl⟩)
  clear hM
  have AB : IsByte a1 := ⟨t0, by omega⟩
  obtain ⟨V1, hV1⟩ : ∃ V1, V1 = putOf a1 (K : Int) true % 256 := ⟨_, rfl⟩
  have V1B : IsByte V1 := by rw [hV1]; unfold IsByte; omega
  obtain ⟨V2, hV2⟩ : ∃ V2, V2 = putOf V1 (K : Int) false % 256 := ⟨_, rfl⟩
  have G1 : Hid (Goes bs Yp (up M z a1) 0 0 0 255 0 1024 false 0 (up (up M z a1) z V1) 0 0 0 255 0 1026 false 0 7) := hide (by
    have k := go_smb K hK hz (M := up M z a1) bs (by rw [up_far _ (by omega)]; exact MM.out.1.1) (by rw [up_far _ (by omega)]; exact MM.out.1.2)
    rw [up_at, ← hV1] at k
    exact k)
  have G2 : Hid (Goes bs Yp (up (up M z a1) z V1) 0 0 0 255 0 1026 false 0 (up (up M z a1) z V1) 0 0 0 255 0 1034 false 0 8) := hide (go_bbs K hK hz bs (by rw [up_far _ (by omega), up_far _ (by omega)]; exact MM.out.2.1.1) (by rw [up_far _ (by omega), up_far _ (by omega)]; exact MM.out.2.1.2.1) (by rw [up_far _ (by omega), up_far _ (by omega)]; exact MM.out.2.1.2.2) (by rw [up_at, hV1]; exact bit_on hK AB))
  have G3 : Hid (Goes bs Yp (up (up M z a1) z V1) 0 0 0 255 0 1034 false 0 (up (up (up M z a1) z V1) z V2) 0 0 0 255 0 1036 false 0 7) := hide (by
    have k := go_rmb K hK hz (M := up (up M z a1) z V1) bs (by rw [up_far _ (by omega), up_far _ (by omega)]; exact MM.out.2.2.1.1) (by rw [up_far _ (by omega), up_far _ (by omega)]; exact MM.out.2.2.1.2)
    rw [up_at (up M z a1) z V1, ← hV2] at k
    exact k)
  have G4 : Hid (Goes bs Yp (up (up (up M z a1) z V1) z V2) 0 0 0 255 0 1036 false 0 (up (up (up M z a1) z V1) z V2) 0 0 0 255 0 1046 false 0 8) := hide (go_bbr K hK hz bs (by rw [up_far _ (by omega), up_far _ (by omega), up_far _ (by omega)]; exact MM.out.2.2.2.1) (by rw [up_far _ (by omega), up_far _ (by omega), up_far _ (by omega)]; exact MM.out.2.2.2.2.1) (by rw [up_far _ (by omega), up_far _ (by omega), up_far _ (by omega)]; exact MM.out.2.2.2.2.2) (by rw [up_at, hV2]; exact bit_off hK V1B))
  have S0 := hide (st_first H1.out B1.out LB.out #[.int .i64 0, .int .i64 0, .int .i64 0, .int .i64 0, .int .i64 0, .int .i64 0, .bool false, .int .i64 0])
  have HZ : Hid (z < 8192) := hide (by omega)
  have HA : Hid (0 ≤ a1 ∧ a1 < 256) := hide ⟨t0, t1⟩
  have W1 : Hid (up (up M z a1) z V1 z = V1) := hide (up_at _ _ _)
  have W2 : Hid (up (up (up M z a1) z V1) z V2 z = V2) := hide (up_at _ _ _)
  have eV2 : V2 = bits .andNot .u8 a1 (2 ^ K % 256) := by rw [hV2, hV1]; exact clear_is hK AB
  have eV1 : V1 = bits .or .u8 a1 (2 ^ K % 256) := by rw [hV1]; exact set_is hK AB
  clear MM H1 B1 LB hV1 hV2 AB V1B
  go_wp2_with (first
    | (refine store_core rfl (.tmp 8) (.tmp 37) rfl S0.out rfl rfl _ rfl rfl (by kernel_rfl) ?_; intro w2 h2; have c2 := h2.get z HZ.out; have f2 := h2.fro z HZ.out; have S3 := hide (h2.set z HZ.out HA.out); clear h2 S0)
    | (refine load_core rfl (.tmp 8) rfl S3.out rfl rfl ?_)
    | (go_at_call 13; refine (st_step S3.out G1.out).mono ?_; rintro e w4 ⟨rfl, h4⟩; have S4 := hide h4; clear h4 S3 G1 c2 f2)
    | (refine store_core rfl (.tmp 8) (.tmp 50) rfl S4.out rfl rfl _ rfl rfl (by kernel_rfl) ?_; intro w5 h5; have c5 := h5.get z HZ.out; rw [W1.out] at c5; have l5 := h5.lt; have S5 := hide h5; clear h5 S4)
    | (refine load_core rfl (.tmp 8) rfl S5.out rfl rfl ?_)
    | (go_at_call 13; refine (st_step S5.out G2.out).mono ?_; rintro e w6 ⟨rfl, h6⟩; have S6 := hide h6; clear h6 S5 G2 c5 l5)
    | (refine store_core rfl (.tmp 8) (.tmp 72) rfl S6.out rfl rfl _ rfl rfl (by kernel_rfl) ?_; intro w7 h7; have p7 := h7.reg 5 (x := .int .i64 9226) rfl; have l7 := h7.ltg; have S7 := hide h7; clear h7 S6)
    | (refine load_core rfl (.tmp 8) rfl S7.out rfl rfl ?_)
    | (go_at_call 13; refine (st_step S7.out G3.out).mono ?_; rintro e w8 ⟨rfl, h8⟩; have S8 := hide h8; clear h8 S7 G3 p7 l7)
    | (refine store_core rfl (.tmp 8) (.tmp 86) rfl S8.out rfl rfl _ rfl rfl (by kernel_rfl) ?_; intro w9 h9; have S9 := hide h9; clear h9 S8)
    | (refine load_core rfl (.tmp 8) rfl S9.out rfl rfl ?_)
    | (go_at_call 13; refine (st_step S9.out G4.out).mono ?_; rintro e w10 ⟨rfl, h10⟩; have S10 := hide h10; clear h10 S9 G4)
    | (refine store_core rfl (.tmp 8) (.tmp 92) rfl S10.out rfl rfl _ rfl rfl (by kernel_rfl) ?_; intro w11 h11; have c11 := h11.get z HZ.out; rw [W2.out] at c11; have l11 := h11.lt; have p11 := h11.reg 5 (x := .int .i64 9238) rfl; have k11 := h11.ltg; have S11 := hide h11; clear h11 S10))
  all_goals first | (go_ret; exact ⟨rfl, S11.out.below⟩) | (exfalso; simp_all; done) | trace_state
end Go.Proofs.YtoijhhbiknhlnaaGreatDoor
