/- What is called comes back behind the call, with the stack as it was; what is pushed is pulled as it was: the walk. -/
import Derived.Test.YtoijhhbiknhlnaaGreatDoorCpuCallsJ45
import Derived.Test.YtoijhhbiknhlnaaGreatDoorCpuCallsJ50
import Derived.Test.YtoijhhbiknhlnaaGreatDoorCpuCallsJ27
namespace Go.Proofs.YtoijhhbiknhlnaaGreatDoor
set_option maxRecDepth 20000
open A2 B4 C3 D24 G6 I11 J23 K9 L24 L25 M5 N8 O7 P22 R15 T10 V12 W13
open Go.RowKit
set_option linter.unusedVariables false
theorem cl_far (M : Nat → Int) {z j : Nat} (h : j ≠ z) (x : Int) : up M z x j = M j := by simp [up, h]
theorem cl_at (M : Nat → Int) (z : Nat) (x : Int) : up M z x z = x := by simp [up]
theorem cl_an {p : Int} (h : IsByte p) : IsByte (anP p 32) := fin_of (P := fun p => 0 ≤ anP p 32 ∧ anP p 32 < 256) (by unfold anP; decide +kernel) h
theorem st_drew {W w : World} {b v c d g : Nat} {bs : List Int} {M : Nat → Int} {row : Array Value} (h : St W w b v c d g bs M row) : St W w.drew b v c d g bs M row := by
  have dr : Below w.heap.size w w.drew := ⟨rfl, rfl, rfl, Nat.le_refl _, fun _ _ => rfl⟩
  obtain ⟨h1, h2, h3, r⟩ := h
  exact ⟨h1.next dr, h2, bnext h3 dr, r⟩
theorem st_setr {W w : World} {b v c d g : Nat} {bs : List Int} {M : Nat → Int} {row : Array Value} (h : St W w b v c d g bs M row) (i : Nat) (x : Value) {row' : Array Value} (e : row.setIfInBounds i x = row') : St W (w.setCell ⟨g, i, none⟩ x) b v c d g bs M row' := by
  obtain ⟨h1, h2, h3, a1, a2, a3, a4, a5, a6, a7⟩ := h
  have k4 : OnlyE (fun i => i = g) w (w.setCell ⟨g, i, none⟩ x) := ⟨rfl, rfl, rfl, by simp [World.setCell], fun k hk hE => heap_setCell_other w _ k _ hE⟩
  refine ⟨h1.but k4 ⟨by omega, by omega, by omega, by omega, a5⟩, ?_, h3.trans (k4.below (fun i e => by subst e; omega) h3.size), a1, a2, a3, a4, a5, a6, a7⟩
  rw [heap_setCell_same w g i _ _ _ h2, e]
def CallC (bs : List Int) (M0 : Nat → Int) (a x s : Nat) (M : Nat → Nat → Int) (A X S P : Nat → Int) (q k : Nat → Nat) : Prop :=
  (M 0 = M0 ∧ A 0 = 0 ∧ X 0 = 0 ∧ S 0 = (s : Int) ∧ P 0 = 0 ∧ q 0 = 1024) ∧ (∀ i, i < 10 → Goes bs Yp (M i) (A i) (X i) 0 (S i) (P i) (q i) false 0 (M (i + 1)) (A (i + 1)) (X (i + 1)) 0 (S (i + 1)) (P (i + 1)) (q (i + 1)) false 0 (k i : Int)) ∧ A 10 = (a : Int) ∧ X 10 = (x : Int) ∧ S 10 = (s : Int) ∧ q 10 = 1035
theorem call_chain (bs : List Int) {M0 : Nat → Int} {a x s : Nat} (ha : a < 256) (hx : x < 256) (hs : s < 256) (hC : (M0 1024 = ((169 : Nat) : Int) ∧ M0 1025 = (a : Int)) ∧ M0 1026 = ((72 : Nat) : Int) ∧ (M0 1027 = ((162 : Nat) : Int) ∧ M0 1028 = (x : Int)) ∧ M0 1029 = ((218 : Nat) : Int) ∧ (M0 1030 = ((32 : Nat) : Int) ∧ M0 1031 = 32 ∧ M0 1032 = 36) ∧ M0 1033 = ((250 : Nat) : Int) ∧ M0 1034 = ((104 : Nat) : Int) ∧ (M0 1056 = ((169 : Nat) : Int) ∧ M0 1057 = ((0 : Nat) : Int)) ∧ M0 1058 = ((170 : Nat) : Int) ∧ M0 1059 = ((96 : Nat) : Int)) : ∃ M A X S P q k, CallC bs M0 a x s M A X S P q k := by
  obtain ⟨⟨C0, C0'⟩, C1, ⟨C2, C2'⟩, C3, ⟨C4, C4', C4''⟩, C5, C6, ⟨C7, C7'⟩, C8, C9⟩ := hC
  have aB : IsByte (a : Int) := by unfold IsByte; omega
  have xB : IsByte (x : Int) := by unfold IsByte; omega
  have sB : IsByte (s : Int) := by unfold IsByte; omega
  obtain ⟨s1, e1⟩ : ∃ s1, s1 = dn s := ⟨_, rfl⟩
  obtain ⟨s2, e2⟩ : ∃ s2, s2 = dn s1 := ⟨_, rfl⟩
  obtain ⟨s3, e3⟩ : ∃ s3, s3 = dn s2 := ⟨_, rfl⟩
  obtain ⟨s4, e4⟩ : ∃ s4, s4 = dn s3 := ⟨_, rfl⟩
  have l1 : s1 < 256 := by rw [e1]; exact dn_in _
  have l2 : s2 < 256 := by rw [e2]; exact dn_in _
  have l3 : s3 < 256 := by rw [e3]; exact dn_in _
  have l4 : s4 < 256 := by rw [e4]; exact dn_in _
  have u4 : un s4 = s3 := by rw [e4]; exact un_dn l3
  have u3 : un s3 = s2 := by rw [e3]; exact un_dn l2
  have u2 : un s2 = s1 := by rw [e2]; exact un_dn l1
  have u1 : un s1 = s := by rw [e1]; exact un_dn hs
  have ne : s ≠ s1 ∧ s ≠ s2 ∧ s ≠ s3 ∧ s1 ≠ s2 ∧ s1 ≠ s3 ∧ s2 ≠ s3 := by
    unfold dn at e1 e2 e3
    omega
  have s4B : IsByte (s4 : Int) := by unfold IsByte; omega
  have s1B : IsByte (s1 : Int) := by unfold IsByte; omega
  obtain ⟨M1, hM1⟩ : ∃ M1, M1 = up M0 (256 + s) ((a : Int) % 256) := ⟨_, rfl⟩
  obtain ⟨M2, hM2⟩ : ∃ M2, M2 = up M1 (256 + s1) ((x : Int) % 256) := ⟨_, rfl⟩
  obtain ⟨M3, hM3⟩ : ∃ M3, M3 = up (up M2 (256 + s2) (((8192 + ((1030 : Nat) : Int) + 2) / 256 % 256 % 256))) (256 + s3) (((8192 + ((1030 : Nat) : Int) + 2) % 256 % 256)) := ⟨_, rfl⟩
  have f1 : ∀ j, 512 ≤ j → M1 j = M0 j := fun j hj => by rw [hM1]; exact cl_far _ (by omega) _
  have f2 : ∀ j, 512 ≤ j → M2 j = M0 j := fun j hj => by rw [hM2, cl_far _ (by omega) _]; exact f1 j hj
  have f3 : ∀ j, 512 ≤ j → M3 j = M0 j := fun j hj => by rw [hM3, cl_far _ (by omega) _, cl_far _ (by omega) _]; exact f2 j hj
  have r3 : M3 (256 + s3) = 8 := by rw [hM3, cl_at]; rfl
  have r2 : M3 (256 + s2) = 36 := by rw [hM3, cl_far _ (by omega) _, cl_at]; rfl
  have r1 : M3 (256 + s1) = (x : Int) := by rw [hM3, cl_far _ (by omega) _, cl_far _ (by omega) _, hM2, cl_at]; omega
  have r0 : M3 (256 + s) = (a : Int) := by rw [hM3, cl_far _ (by omega) _, cl_far _ (by omega) _, hM2, cl_far _ (by omega) _, hM1, cl_at]; omega
  have G0 : Goes bs Yp M0 0 0 0 (s : Int) 0 1024 false 0 M0 (a : Int) 0 0 (s : Int) (nzOf (anP 0 32) a) 1026 false 0 ((2 : Nat) : Int) :=
    go_lda_i calm_p zB zB zB sB zB (by decide) C0 (by decide) (by kernel_rfl) (by kernel_rfl) (by kernel_rfl) ha C0' (by rw [show nameOf 169 = ⟨#[76, 68, 65]⟩ by kernel_rfl]; exact do_LDA)
  obtain ⟨P1, p1⟩ : ∃ P1, P1 = nzOf (anP 0 32) (a : Int) := ⟨_, rfl⟩
  have b1 : IsByte P1 := by rw [p1]; exact nzOf_byte _ _
  rw [← p1] at G0
  have G1 : Goes bs Yp M0 (a : Int) 0 0 (s : Int) P1 1026 false 0 M1 (a : Int) 0 0 (s1 : Int) (anP P1 32) 1027 false 0 ((3 : Nat) : Int) := by
    have k := go_pha (bs := bs) (l := 0) (f := false) calm_p aB zB zB hs b1 (q := 1026) (by decide) C1 (by decide) (by kernel_rfl) (by kernel_rfl) (by kernel_rfl) (by rw [show nameOf 72 = ⟨#[80, 72, 65]⟩ by kernel_rfl]; exact do_PHA)
    rw [← hM1, ← e1] at k
    exact k
  have b2 := cl_an b1
  have G2 : Goes bs Yp M1 (a : Int) 0 0 (s1 : Int) (anP P1 32) 1027 false 0 M1 (a : Int) (x : Int) 0 (s1 : Int) (nzOf (anP (anP P1 32) 32) x) 1029 false 0 ((2 : Nat) : Int) :=
    go_ldx_i calm_p aB zB zB s1B b2 (by decide) (by rw [f1 _ (by decide)]; exact C2) (by decide) (by kernel_rfl) (by kernel_rfl) (by kernel_rfl) hx (by rw [f1 _ (by decide)]; exact C2') (by rw [show nameOf 162 = ⟨#[76, 68, 88]⟩ by kernel_rfl]; exact do_LDX)
  obtain ⟨P3, p3⟩ : ∃ P3, P3 = nzOf (anP (anP P1 32) 32) (x : Int) := ⟨_, rfl⟩
  have b3 : IsByte P3 := by rw [p3]; exact nzOf_byte _ _
  rw [← p3] at G2
  have G3 : Goes bs Yp M1 (a : Int) (x : Int) 0 (s1 : Int) P3 1029 false 0 M2 (a : Int) (x : Int) 0 (s2 : Int) (anP P3 32) 1030 false 0 ((3 : Nat) : Int) := by
    have k := go_phx (bs := bs) (l := 0) (f := false) calm_p aB xB zB l1 b3 (q := 1029) (M := M1) (by decide) (by rw [f1 _ (by decide)]; exact C3) (by decide) (by kernel_rfl) (by kernel_rfl) (by kernel_rfl) (by rw [show nameOf 218 = ⟨#[80, 72, 88]⟩ by kernel_rfl]; exact do_PHX)
    rw [← hM2, ← e2] at k
    exact k
  have b4 := cl_an b3
  have G4 : Goes bs Yp M2 (a : Int) (x : Int) 0 (s2 : Int) (anP P3 32) 1030 false 0 M3 (a : Int) (x : Int) 0 (s4 : Int) (anP (anP P3 32) 32) 1056 false 0 ((7 : Nat) : Int) := by
    have k := go_jsr (bs := bs) (l := 0) (f := false) calm_p aB xB zB l2 b4 (q := 1030) (M := M2) (by decide) (by rw [f2 _ (by decide)]; exact C4) (by decide) (by kernel_rfl) (by kernel_rfl) (by kernel_rfl) (q' := 1056) (by rw [f2 _ (by decide), f2 _ (by decide), C4', C4'']; decide) (by decide) (by rw [show nameOf 32 = ⟨#[74, 83, 82]⟩ by kernel_rfl]; exact do_JSR)
    rw [← e3, ← hM3, ← e4] at k
    exact k
  have b5 := cl_an b4
  have G5 : Goes bs Yp M3 (a : Int) (x : Int) 0 (s4 : Int) (anP (anP P3 32) 32) 1056 false 0 M3 ((0 : Nat) : Int) (x : Int) 0 (s4 : Int) (nzOf (anP (anP (anP P3 32) 32) 32) ((0 : Nat) : Int)) 1058 false 0 ((2 : Nat) : Int) :=
    go_lda_i calm_p aB xB zB s4B b5 (by decide) (by rw [f3 _ (by decide)]; exact C7) (by decide) (by kernel_rfl) (by kernel_rfl) (by kernel_rfl) (by decide) (by rw [f3 _ (by decide)]; exact C7') (by rw [show nameOf 169 = ⟨#[76, 68, 65]⟩ by kernel_rfl]; exact do_LDA)
  obtain ⟨P6, p6⟩ : ∃ P6, P6 = nzOf (anP (anP (anP P3 32) 32) 32) ((0 : Nat) : Int) := ⟨_, rfl⟩
  have b6 : IsByte P6 := by rw [p6]; exact nzOf_byte _ _
  rw [← p6] at G5
  have G6 : Goes bs Yp M3 0 (x : Int) 0 (s4 : Int) P6 1058 false 0 M3 0 0 0 (s4 : Int) (nzOf (anP P6 32) 0) 1059 false 0 ((2 : Nat) : Int) :=
    go_tax calm_p zB xB zB s4B b6 (by decide) (by rw [f3 _ (by decide)]; exact C8) (by decide) (by kernel_rfl) (by kernel_rfl) (by kernel_rfl) (by rw [show nameOf 170 = ⟨#[84, 65, 88]⟩ by kernel_rfl]; exact do_TAX)
  obtain ⟨P7, p7⟩ : ∃ P7, P7 = nzOf (anP P6 32) 0 := ⟨_, rfl⟩
  have b7 : IsByte P7 := by rw [p7]; exact nzOf_byte _ _
  rw [← p7] at G6
  have G7 : Goes bs Yp M3 0 0 0 (s4 : Int) P7 1059 false 0 M3 0 0 0 (s2 : Int) (anP P7 32) 1033 false 0 ((7 : Nat) : Int) := by
    have k := go_rts (bs := bs) (l := 0) (f := false) calm_p zB zB zB l4 b7 (q := 1059) (M := M3) (by decide) (by rw [f3 _ (by decide)]; exact C9) (by decide) (by kernel_rfl) (by kernel_rfl) (by kernel_rfl) (q' := 1033) (by rw [u4, u3, r3, r2]; decide) (by decide) (by rw [show nameOf 96 = ⟨#[82, 84, 83]⟩ by kernel_rfl]; exact do_RTS)
    rw [u4, u3] at k
    exact k
  have b8 := cl_an b7
  have G8 : Goes bs Yp M3 0 0 0 (s2 : Int) (anP P7 32) 1033 false 0 M3 0 (x : Int) 0 (s1 : Int) (nzOf (anP (anP P7 32) 32) x) 1034 false 0 ((4 : Nat) : Int) := by
    have k := go_plx (bs := bs) (l := 0) (f := false) calm_p zB zB zB l2 b8 (q := 1033) (M := M3) (by decide) (by rw [f3 _ (by decide)]; exact C5) (by decide) (by kernel_rfl) (by kernel_rfl) (by kernel_rfl) (by rw [show nameOf 250 = ⟨#[80, 76, 88]⟩ by kernel_rfl]; exact do_PLX)
    rw [u2, r1] at k
    exact k
  obtain ⟨P9, p9⟩ : ∃ P9, P9 = nzOf (anP (anP P7 32) 32) (x : Int) := ⟨_, rfl⟩
  have b9 : IsByte P9 := by rw [p9]; exact nzOf_byte _ _
  rw [← p9] at G8
  have G9 : Goes bs Yp M3 0 (x : Int) 0 (s1 : Int) P9 1034 false 0 M3 (a : Int) (x : Int) 0 (s : Int) (nzOf (anP P9 32) a) 1035 false 0 ((4 : Nat) : Int) := by
    have k := go_pla (bs := bs) (l := 0) (f := false) calm_p zB xB zB l1 b9 (q := 1034) (M := M3) (by decide) (by rw [f3 _ (by decide)]; exact C6) (by decide) (by kernel_rfl) (by kernel_rfl) (by kernel_rfl) (by rw [show nameOf 104 = ⟨#[80, 76, 65]⟩ by kernel_rfl]; exact do_PLA)
    rw [u1, r0] at k
    exact k
  refine ⟨fun i => [M0, M0, M1, M1, M2, M3, M3, M3, M3, M3, M3].getD i M0, fun i => [0, (a : Int), (a : Int), (a : Int), (a : Int), (a : Int), 0, 0, 0, 0, (a : Int)].getD i 0, fun i => [0, 0, 0, (x : Int), (x : Int), (x : Int), (x : Int), 0, 0, (x : Int), (x : Int)].getD i 0, fun i => [(s : Int), (s : Int), (s1 : Int), (s1 : Int), (s2 : Int), (s4 : Int), (s4 : Int), (s4 : Int), (s2 : Int), (s1 : Int), (s : Int)].getD i 0, fun i => [0, P1, anP P1 32, P3, anP P3 32, anP (anP P3 32) 32, P6, P7, anP P7 32, P9, nzOf (anP P9 32) a].getD i 0, fun i => [1024, 1026, 1027, 1029, 1030, 1056, 1058, 1059, 1033, 1034, 1035].getD i 0, fun i => [2, 3, 2, 3, 7, 2, 2, 7, 4, 4].getD i 0, ⟨rfl, rfl, rfl, rfl, rfl, rfl⟩, ?_, rfl, rfl, rfl, rfl⟩
  intro i hi
  rcases i with _ | _ | _ | _ | _ | _ | _ | _ | _ | _ | i
  · exact G0
  · exact G1
  · exact G2
  · exact G3
  · exact G4
  · exact G5
  · exact G6
  · exact G7
  · exact G8
  · exact G9
  · omega
set_option maxHeartbeats 2000000 in
theorem cpuCalls_walk (a0 a1 a2 : Int) (W : World) (w0 : (Lit.int .u8 a0).wf = true) (w1 : (Lit.int .i64 a1).wf = true) (w2 : (Lit.int .u8 a2).wf = true) (hL : Tabs W ∧ HasErr W ∧ CT W) :
    Calls Tryz.prog 5 #[.int .u8 a0, .int .i64 a1, .int .u8 a2] W fun e w' => e = .returned (.bool true) ∧ Below W.heap.size W w' := by
  obtain ⟨s0, s1⟩ := u8_range w0
  obtain ⟨t0, t1⟩ := u8_range w2
  obtain ⟨a, ha, rfl⟩ : ∃ n : Nat, n < 256 ∧ a0 = (n : Int) := ⟨a0.toNat, by omega, by omega⟩
  obtain ⟨x, hx, rfl⟩ : ∃ n : Nat, n < 256 ∧ a2 = (n : Int) := ⟨a2.toNat, by omega, by omega⟩
  obtain ⟨s, hs, eS⟩ : ∃ s : Nat, s < 256 ∧ bits .and .i64 a1 255 = (s : Int) := ⟨(a1 % 256).toNat, by omega, by rw [and_255]; omega⟩
  have HL := hide hL
  have HA := hide ha
  have HX := hide hx
  have HS := hide hs
  clear hL w0 w1 w2
  go_enter Tryz.func5, Tryz.ntmps5
  go_wp2_with fail
  obtain ⟨wa, hwa⟩ : ∃ wa, W.alloc (.cells (([169, (a : Int), 72, 162, (x : Int), 218, 32, 32, 36, 250, 104, 234] : List Int).map (Value.int .u8)).toArray 5) = wa := ⟨_, rfl⟩
  have hwb := hwa
  simp only [List.map_cons, List.map_nil] at hwb
  rw [hwb]
  clear hwb
  have B0 := hide (show Below W.heap.size W wa by rw [← hwa]; exact (Below.refl _ W).alloc (Nat.le_refl _) _)
  have SL := hide (show SlB wa (some ⟨W.heap.size, 0, none⟩) 12 (fun i => [169, (a : Int), 72, 162, (x : Int), 218, 32, 32, 36, 250, 104, 234].getD i 0) from lit_slb (l := [169, (a : Int), 72, 162, (x : Int), 218, 32, 32, 36, 250, 104, 234]) (by rw [← hwa]; exact heap_alloc_new _ _) (show 12 ≤ 9223372036854775807 by decide) (fun y hy => by simp only [List.mem_cons, List.not_mem_nil, or_false] at hy; omega))
  clear hwa
  refine (put_is ⟨HL.out.1.next B0.out, HL.out.2.1.next B0.out, HL.out.2.2.next B0.out⟩ SL.out (nil_slb wa fun _ => 0) (by decide) (by decide)).mono ?_
  rintro e w1 ⟨b, v, c, d, bs, rfl, hc, ⟨lb, lv⟩, b1⟩
  have H1 := hide hc
  have B1 := hide (bnext B0.out b1)
  have LB := hide (show W.heap.size ≤ b ∧ W.heap.size ≤ v by have := B0.out.size; omega)
  clear hc lb lv b1 SL B0 HL
  obtain ⟨M0, hM⟩ : ∃ M, M = putM (fun i => [169, (a : Int), 72, 162, (x : Int), 218, 32, 32, 36, 250, 104, 234].getD i 0) (fun _ => 0) 12 0 := ⟨_, rfl⟩
  rw [← hM] at H1
  have MM := hide (show ((up (up (up (up M0 1056 169) 1057 0) 1058 170) 1059 96) 1024 = ((169 : Nat) : Int) ∧ (up (up (up (up M0 1056 169) 1057 0) 1058 170) 1059 96) 1025 = (a : Int)) ∧ (up (up (up (up M0 1056 169) 1057 0) 1058 170) 1059 96) 1026 = ((72 : Nat) : Int) ∧ ((up (up (up (up M0 1056 169) 1057 0) 1058 170) 1059 96) 1027 = ((162 : Nat) : Int) ∧ (up (up (up (up M0 1056 169) 1057 0) 1058 170) 1059 96) 1028 = (x : Int)) ∧ (up (up (up (up M0 1056 169) 1057 0) 1058 170) 1059 96) 1029 = ((218 : Nat) : Int) ∧ ((up (up (up (up M0 1056 169) 1057 0) 1058 170) 1059 96) 1030 = ((32 : Nat) : Int) ∧ (up (up (up (up M0 1056 169) 1057 0) 1058 170) 1059 96) 1031 = 32 ∧ (up (up (up (up M0 1056 169) 1057 0) 1058 170) 1059 96) 1032 = 36) ∧ (up (up (up (up M0 1056 169) 1057 0) 1058 170) 1059 96) 1033 = ((250 : Nat) : Int) ∧ (up (up (up (up M0 1056 169) 1057 0) 1058 170) 1059 96) 1034 = ((104 : Nat) : Int) ∧ ((up (up (up (up M0 1056 169) 1057 0) 1058 170) 1059 96) 1056 = ((169 : Nat) : Int) ∧ (up (up (up (up M0 1056 169) 1057 0) 1058 170) 1059 96) 1057 = ((0 : Nat) : Int)) ∧ (up (up (up (up M0 1056 169) 1057 0) 1058 170) 1059 96) 1058 = ((170 : Nat) : Int) ∧ (up (up (up (up M0 1056 169) 1057 0) 1058 170) 1059 96) 1059 = ((96 : Nat) : Int) by rw [hM]; exact ⟨⟨rfl, rfl⟩, rfl, ⟨rfl, rfl⟩, rfl, ⟨rfl, rfl, rfl⟩, rfl, rfl, ⟨rfl, rfl⟩, rfl, rfl⟩)
  clear hM
  obtain ⟨M, A, X, S, P, q, k, hCC⟩ := call_chain bs HA.out HX.out HS.out MM.out
  have CC := hide hCC
  clear hCC MM
  have S0 := hide (st_first H1.out B1.out LB.out #[.int .i64 0, .int .i64 0, .int .i64 0, .int .i64 0, .int .i64 0, .int .i64 0, .bool false, .int .i64 0])
  clear H1 B1 LB
  obtain ⟨g, hg⟩ : ∃ g, g = w1.heap.size := ⟨_, rfl⟩
  rw [← hg] at S0
  go_wp2_with (first
    | (rw [← hg]; clear hg; refine store_core rfl (.tmp 8) (.tmp 18) rfl S0.out rfl rfl _ rfl rfl (by kernel_rfl) ?_; intro x0 h2; have S2 := hide h2; clear h2 S0))
  refine wp_region_state (ofList [.pointer (some ⟨b, 0, none⟩), .pointer (some ⟨b, 0, none⟩), .pointer (some ⟨b, 0, none⟩), .pointer (some ⟨b, 0, none⟩), .pointer (some ⟨b, 0, none⟩), .pointer (some ⟨b, 283, none⟩), .pointer (some ⟨b, 1339, none⟩), undef, .pointer (some ⟨b, 0, none⟩), .pointer (some ⟨b, 283, none⟩), .pointer (some ⟨b, 1340, none⟩), undef, .pointer (some ⟨b, 0, none⟩), .pointer (some ⟨b, 283, none⟩), .pointer (some ⟨b, 1341, none⟩), undef, .pointer (some ⟨b, 0, none⟩), .pointer (some ⟨b, 283, none⟩), .pointer (some ⟨b, 1342, none⟩), undef]) (fun dd ww => (stgs [(fun x => St W x b v c d g bs M0 #[.int .i64 0, .int .i64 0, .int .i64 0, .int .i64 255, .int .i64 0, .int .i64 9216, .bool false, .int .i64 0]), (fun x => St W x b v c d g bs (up M0 1056 169) #[.int .i64 0, .int .i64 0, .int .i64 0, .int .i64 255, .int .i64 0, .int .i64 9216, .bool false, .int .i64 0]), (fun x => St W x b v c d g bs (up (up M0 1056 169) 1057 0) #[.int .i64 0, .int .i64 0, .int .i64 0, .int .i64 255, .int .i64 0, .int .i64 9216, .bool false, .int .i64 0]), (fun x => St W x b v c d g bs (up (up (up M0 1056 169) 1057 0) 1058 170) #[.int .i64 0, .int .i64 0, .int .i64 0, .int .i64 255, .int .i64 0, .int .i64 9216, .bool false, .int .i64 0]), (fun x => St W x b v c d g bs (up (up (up (up M0 1056 169) 1057 0) 1058 170) 1059 96) #[.int .i64 0, .int .i64 0, .int .i64 0, .int .i64 255, .int .i64 0, .int .i64 9216, .bool false, .int .i64 0])]) (cntD [7, 11, 15, 19] dd) ww) _ (fun vals => by simp only [putAll, Act.put, List.setIfInBounds_toArray, List.set_cons_succ, List.set_cons_zero, Nat.reduceAdd]; rfl) (by kernel_rfl) (by kernel_rfl) (by kernel_rfl) (fun dn hd => stage_none (A := (stgs [(fun x => St W x b v c d g bs M0 #[.int .i64 0, .int .i64 0, .int .i64 0, .int .i64 255, .int .i64 0, .int .i64 9216, .bool false, .int .i64 0]), (fun x => St W x b v c d g bs (up M0 1056 169) #[.int .i64 0, .int .i64 0, .int .i64 0, .int .i64 255, .int .i64 0, .int .i64 9216, .bool false, .int .i64 0]), (fun x => St W x b v c d g bs (up (up M0 1056 169) 1057 0) #[.int .i64 0, .int .i64 0, .int .i64 0, .int .i64 255, .int .i64 0, .int .i64 9216, .bool false, .int .i64 0]), (fun x => St W x b v c d g bs (up (up (up M0 1056 169) 1057 0) 1058 170) #[.int .i64 0, .int .i64 0, .int .i64 0, .int .i64 255, .int .i64 0, .int .i64 9216, .bool false, .int .i64 0]), (fun x => St W x b v c d g bs (up (up (up (up M0 1056 169) 1057 0) 1058 170) 1059 96) #[.int .i64 0, .int .i64 0, .int .i64 0, .int .i64 255, .int .i64 0, .int .i64 9216, .bool false, .int .i64 0])])) hd (st_drew S2.out)) ?_ ?_
  · refine stepsS_cons (fun vals dn x hi hc hk hs => ?_) (stepsS_cons (fun vals dn x hi hc hk hs => ?_) (stepsS_cons (fun vals dn x hi hc hk hs => ?_) (stepsS_cons (fun vals dn x hi hc hk hs => ?_) (stepsS_cons (fun vals dn x hi hc hk hs => ?_) (stepsS_cons (fun vals dn x hi hc hk hs => ?_) (stepsS_cons (fun vals dn x hi hc hk hs => ?_) (stepsS_cons (fun vals dn x hi hc hk hs => ?_) (stepsS_cons (fun vals dn x hi hc hk hs => ?_) (stepsS_cons (fun vals dn x hi hc hk hs => ?_) (stepsS_cons (fun vals dn x hi hc hk hs => ?_) (stepsS_cons (fun vals dn x hi hc hk hs => ?_) (stepsS_cons (fun vals dn x hi hc hk hs => ?_) (stepsS_cons (fun vals dn x hi hc hk hs => ?_) (stepsS_cons (fun vals dn x hi hc hk hs => ?_) (stepsS_cons (fun vals dn x hi hc hk hs => ?_) (stepsS_cons (fun vals dn x hi hc hk hs => ?_) (stepsS_cons (fun vals dn x hi hc hk hs => ?_) (stepsS_cons (fun vals dn x hi hc hk hs => ?_) (stepsS_cons (fun vals dn x hi hc hk hs => ?_) stepsS_nil)))))))))))))))))))
    · set_option maxRecDepth 20000 in
      go_wp2_with fail
      exact postS_mk _ rfl rfl (stage_keep (A := (stgs [(fun x => St W x b v c d g bs M0 #[.int .i64 0, .int .i64 0, .int .i64 0, .int .i64 255, .int .i64 0, .int .i64 9216, .bool false, .int .i64 0]), (fun x => St W x b v c d g bs (up M0 1056 169) #[.int .i64 0, .int .i64 0, .int .i64 0, .int .i64 255, .int .i64 0, .int .i64 9216, .bool false, .int .i64 0]), (fun x => St W x b v c d g bs (up (up M0 1056 169) 1057 0) #[.int .i64 0, .int .i64 0, .int .i64 0, .int .i64 255, .int .i64 0, .int .i64 9216, .bool false, .int .i64 0]), (fun x => St W x b v c d g bs (up (up (up M0 1056 169) 1057 0) 1058 170) #[.int .i64 0, .int .i64 0, .int .i64 0, .int .i64 255, .int .i64 0, .int .i64 9216, .bool false, .int .i64 0]), (fun x => St W x b v c d g bs (up (up (up (up M0 1056 169) 1057 0) 1058 170) 1059 96) #[.int .i64 0, .int .i64 0, .int .i64 0, .int .i64 255, .int .i64 0, .int .i64 9216, .bool false, .int .i64 0])])) (ps := [7, 11, 15, 19]) (i := 0) rfl hs)
    · obtain ⟨_, _⟩ := hk
      go_wp2_with fail
      exact postS_mk _ rfl rfl (stage_keep (A := (stgs [(fun x => St W x b v c d g bs M0 #[.int .i64 0, .int .i64 0, .int .i64 0, .int .i64 255, .int .i64 0, .int .i64 9216, .bool false, .int .i64 0]), (fun x => St W x b v c d g bs (up M0 1056 169) #[.int .i64 0, .int .i64 0, .int .i64 0, .int .i64 255, .int .i64 0, .int .i64 9216, .bool false, .int .i64 0]), (fun x => St W x b v c d g bs (up (up M0 1056 169) 1057 0) #[.int .i64 0, .int .i64 0, .int .i64 0, .int .i64 255, .int .i64 0, .int .i64 9216, .bool false, .int .i64 0]), (fun x => St W x b v c d g bs (up (up (up M0 1056 169) 1057 0) 1058 170) #[.int .i64 0, .int .i64 0, .int .i64 0, .int .i64 255, .int .i64 0, .int .i64 9216, .bool false, .int .i64 0]), (fun x => St W x b v c d g bs (up (up (up (up M0 1056 169) 1057 0) 1058 170) 1059 96) #[.int .i64 0, .int .i64 0, .int .i64 0, .int .i64 255, .int .i64 0, .int .i64 9216, .bool false, .int .i64 0])])) (ps := [7, 11, 15, 19]) (i := 1) rfl hs)
    · obtain ⟨_, _⟩ := hk
      go_wp2_with fail
      exact postS_mk _ rfl rfl (stage_keep (A := (stgs [(fun x => St W x b v c d g bs M0 #[.int .i64 0, .int .i64 0, .int .i64 0, .int .i64 255, .int .i64 0, .int .i64 9216, .bool false, .int .i64 0]), (fun x => St W x b v c d g bs (up M0 1056 169) #[.int .i64 0, .int .i64 0, .int .i64 0, .int .i64 255, .int .i64 0, .int .i64 9216, .bool false, .int .i64 0]), (fun x => St W x b v c d g bs (up (up M0 1056 169) 1057 0) #[.int .i64 0, .int .i64 0, .int .i64 0, .int .i64 255, .int .i64 0, .int .i64 9216, .bool false, .int .i64 0]), (fun x => St W x b v c d g bs (up (up (up M0 1056 169) 1057 0) 1058 170) #[.int .i64 0, .int .i64 0, .int .i64 0, .int .i64 255, .int .i64 0, .int .i64 9216, .bool false, .int .i64 0]), (fun x => St W x b v c d g bs (up (up (up (up M0 1056 169) 1057 0) 1058 170) 1059 96) #[.int .i64 0, .int .i64 0, .int .i64 0, .int .i64 255, .int .i64 0, .int .i64 9216, .bool false, .int .i64 0])])) (ps := [7, 11, 15, 19]) (i := 2) rfl hs)
    · obtain ⟨_, _⟩ := hk
      go_wp2_with fail
      exact postS_mk _ rfl rfl (stage_keep (A := (stgs [(fun x => St W x b v c d g bs M0 #[.int .i64 0, .int .i64 0, .int .i64 0, .int .i64 255, .int .i64 0, .int .i64 9216, .bool false, .int .i64 0]), (fun x => St W x b v c d g bs (up M0 1056 169) #[.int .i64 0, .int .i64 0, .int .i64 0, .int .i64 255, .int .i64 0, .int .i64 9216, .bool false, .int .i64 0]), (fun x => St W x b v c d g bs (up (up M0 1056 169) 1057 0) #[.int .i64 0, .int .i64 0, .int .i64 0, .int .i64 255, .int .i64 0, .int .i64 9216, .bool false, .int .i64 0]), (fun x => St W x b v c d g bs (up (up (up M0 1056 169) 1057 0) 1058 170) #[.int .i64 0, .int .i64 0, .int .i64 0, .int .i64 255, .int .i64 0, .int .i64 9216, .bool false, .int .i64 0]), (fun x => St W x b v c d g bs (up (up (up (up M0 1056 169) 1057 0) 1058 170) 1059 96) #[.int .i64 0, .int .i64 0, .int .i64 0, .int .i64 255, .int .i64 0, .int .i64 9216, .bool false, .int .i64 0])])) (ps := [7, 11, 15, 19]) (i := 3) rfl hs)
    · obtain ⟨⟨(h0 : vals 0 = .pointer (some ⟨b, 0, none⟩)), t0⟩, _⟩ := hk
      simp only [h0]
      clear h0
      go_wp2_with fail
      exact postS_mk _ rfl rfl (stage_keep (A := (stgs [(fun x => St W x b v c d g bs M0 #[.int .i64 0, .int .i64 0, .int .i64 0, .int .i64 255, .int .i64 0, .int .i64 9216, .bool false, .int .i64 0]), (fun x => St W x b v c d g bs (up M0 1056 169) #[.int .i64 0, .int .i64 0, .int .i64 0, .int .i64 255, .int .i64 0, .int .i64 9216, .bool false, .int .i64 0]), (fun x => St W x b v c d g bs (up (up M0 1056 169) 1057 0) #[.int .i64 0, .int .i64 0, .int .i64 0, .int .i64 255, .int .i64 0, .int .i64 9216, .bool false, .int .i64 0]), (fun x => St W x b v c d g bs (up (up (up M0 1056 169) 1057 0) 1058 170) #[.int .i64 0, .int .i64 0, .int .i64 0, .int .i64 255, .int .i64 0, .int .i64 9216, .bool false, .int .i64 0]), (fun x => St W x b v c d g bs (up (up (up (up M0 1056 169) 1057 0) 1058 170) 1059 96) #[.int .i64 0, .int .i64 0, .int .i64 0, .int .i64 255, .int .i64 0, .int .i64 9216, .bool false, .int .i64 0])])) (ps := [7, 11, 15, 19]) (i := 4) rfl hs)
    · obtain ⟨⟨(h4 : vals 4 = .pointer (some ⟨b, 0, none⟩)), t4⟩, _⟩ := hk
      simp only [h4]
      clear h4
      go_wp2_with fail
      exact postS_mk _ rfl rfl (stage_keep (A := (stgs [(fun x => St W x b v c d g bs M0 #[.int .i64 0, .int .i64 0, .int .i64 0, .int .i64 255, .int .i64 0, .int .i64 9216, .bool false, .int .i64 0]), (fun x => St W x b v c d g bs (up M0 1056 169) #[.int .i64 0, .int .i64 0, .int .i64 0, .int .i64 255, .int .i64 0, .int .i64 9216, .bool false, .int .i64 0]), (fun x => St W x b v c d g bs (up (up M0 1056 169) 1057 0) #[.int .i64 0, .int .i64 0, .int .i64 0, .int .i64 255, .int .i64 0, .int .i64 9216, .bool false, .int .i64 0]), (fun x => St W x b v c d g bs (up (up (up M0 1056 169) 1057 0) 1058 170) #[.int .i64 0, .int .i64 0, .int .i64 0, .int .i64 255, .int .i64 0, .int .i64 9216, .bool false, .int .i64 0]), (fun x => St W x b v c d g bs (up (up (up (up M0 1056 169) 1057 0) 1058 170) 1059 96) #[.int .i64 0, .int .i64 0, .int .i64 0, .int .i64 255, .int .i64 0, .int .i64 9216, .bool false, .int .i64 0])])) (ps := [7, 11, 15, 19]) (i := 5) rfl hs)
    · obtain ⟨⟨(h5 : vals 5 = .pointer (some ⟨b, 283, none⟩)), t5⟩, ⟨(h0 : vals 0 = .pointer (some ⟨b, 0, none⟩)), t0⟩, _, _, _, _⟩ := hk
      simp only [h5]
      clear h5 h0
      go_wp2_with fail
      exact postS_mk _ rfl rfl (stage_keep (A := (stgs [(fun x => St W x b v c d g bs M0 #[.int .i64 0, .int .i64 0, .int .i64 0, .int .i64 255, .int .i64 0, .int .i64 9216, .bool false, .int .i64 0]), (fun x => St W x b v c d g bs (up M0 1056 169) #[.int .i64 0, .int .i64 0, .int .i64 0, .int .i64 255, .int .i64 0, .int .i64 9216, .bool false, .int .i64 0]), (fun x => St W x b v c d g bs (up (up M0 1056 169) 1057 0) #[.int .i64 0, .int .i64 0, .int .i64 0, .int .i64 255, .int .i64 0, .int .i64 9216, .bool false, .int .i64 0]), (fun x => St W x b v c d g bs (up (up (up M0 1056 169) 1057 0) 1058 170) #[.int .i64 0, .int .i64 0, .int .i64 0, .int .i64 255, .int .i64 0, .int .i64 9216, .bool false, .int .i64 0]), (fun x => St W x b v c d g bs (up (up (up (up M0 1056 169) 1057 0) 1058 170) 1059 96) #[.int .i64 0, .int .i64 0, .int .i64 0, .int .i64 255, .int .i64 0, .int .i64 9216, .bool false, .int .i64 0])])) (ps := [7, 11, 15, 19]) (i := 6) rfl hs)
    · obtain ⟨⟨(h6 : vals 6 = .pointer (some ⟨b, 1339, none⟩)), t6⟩, ⟨(h0 : vals 0 = .pointer (some ⟨b, 0, none⟩)), t0⟩, _, _, _, _⟩ := hk
      simp only [h6]
      clear h6 h0
      have d7 := hi
      have d11 := not_yet hc hi 11 60 (by kernel_rfl)
      have d15 := not_yet hc hi 15 60 (by kernel_rfl)
      have d19 := not_yet hc hi 19 60 (by kernel_rfl)
      have hn : cntD [7, 11, 15, 19] dn = 0 := by show (if dn 7 = true then 1 else 0) + ((if dn 11 = true then 1 else 0) + ((if dn 15 = true then 1 else 0) + ((if dn 19 = true then 1 else 0) + 0))) = 0; rw [d7, d11, d15, d19]; rfl
      have hs1 := stage_at (A := (stgs [(fun x => St W x b v c d g bs M0 #[.int .i64 0, .int .i64 0, .int .i64 0, .int .i64 255, .int .i64 0, .int .i64 9216, .bool false, .int .i64 0]), (fun x => St W x b v c d g bs (up M0 1056 169) #[.int .i64 0, .int .i64 0, .int .i64 0, .int .i64 255, .int .i64 0, .int .i64 9216, .bool false, .int .i64 0]), (fun x => St W x b v c d g bs (up (up M0 1056 169) 1057 0) #[.int .i64 0, .int .i64 0, .int .i64 0, .int .i64 255, .int .i64 0, .int .i64 9216, .bool false, .int .i64 0]), (fun x => St W x b v c d g bs (up (up (up M0 1056 169) 1057 0) 1058 170) #[.int .i64 0, .int .i64 0, .int .i64 0, .int .i64 255, .int .i64 0, .int .i64 9216, .bool false, .int .i64 0]), (fun x => St W x b v c d g bs (up (up (up (up M0 1056 169) 1057 0) 1058 170) 1059 96) #[.int .i64 0, .int .i64 0, .int .i64 0, .int .i64 255, .int .i64 0, .int .i64 9216, .bool false, .int .i64 0])])) hn hs
      have hn2 : cntD [7, 11, 15, 19] (updD dn 7) = 1 := by show (if updD dn 7 7 = true then 1 else 0) + ((if updD dn 7 11 = true then 1 else 0) + ((if updD dn 7 15 = true then 1 else 0) + ((if updD dn 7 19 = true then 1 else 0) + 0))) = 1; rw [updD_same, updD_other dn (show ¬ 11 = 7 by decide), updD_other dn (show ¬ 15 = 7 by decide), updD_other dn (show ¬ 19 = 7 by decide), d11, d15, d19]; rfl
      have HN2 := hide hn2
      clear hn hn2 d11 d15 d19
      have q := (fun h : (fun x => St W x b v c d g bs M0 #[.int .i64 0, .int .i64 0, .int .i64 0, .int .i64 255, .int .i64 0, .int .i64 9216, .bool false, .int .i64 0]) x => show x.cell? ⟨b, 1339, none⟩ = some (.int .u8 (M0 1056)) from h.get 1056 (by decide)) hs1
      have z := (fun h : (fun x => St W x b v c d g bs M0 #[.int .i64 0, .int .i64 0, .int .i64 0, .int .i64 255, .int .i64 0, .int .i64 9216, .bool false, .int .i64 0]) x => show x.frozen? ⟨b, 1339, none⟩ = false from h.fro 1056 (by decide)) hs1
      have H2 := hide ((fun h : (fun x => St W x b v c d g bs M0 #[.int .i64 0, .int .i64 0, .int .i64 0, .int .i64 255, .int .i64 0, .int .i64 9216, .bool false, .int .i64 0]) x => show (fun x => St W x b v c d g bs (up M0 1056 169) #[.int .i64 0, .int .i64 0, .int .i64 0, .int .i64 255, .int .i64 0, .int .i64 9216, .bool false, .int .i64 0]) (x.setCell ⟨b, 1339, none⟩ (.int .u8 169)) from h.set 1056 (by decide) (by decide)) hs1)
      clear hs hs1
      go_wp2_with fail
      exact postS_mk _ rfl rfl (stage_of (A := (stgs [(fun x => St W x b v c d g bs M0 #[.int .i64 0, .int .i64 0, .int .i64 0, .int .i64 255, .int .i64 0, .int .i64 9216, .bool false, .int .i64 0]), (fun x => St W x b v c d g bs (up M0 1056 169) #[.int .i64 0, .int .i64 0, .int .i64 0, .int .i64 255, .int .i64 0, .int .i64 9216, .bool false, .int .i64 0]), (fun x => St W x b v c d g bs (up (up M0 1056 169) 1057 0) #[.int .i64 0, .int .i64 0, .int .i64 0, .int .i64 255, .int .i64 0, .int .i64 9216, .bool false, .int .i64 0]), (fun x => St W x b v c d g bs (up (up (up M0 1056 169) 1057 0) 1058 170) #[.int .i64 0, .int .i64 0, .int .i64 0, .int .i64 255, .int .i64 0, .int .i64 9216, .bool false, .int .i64 0]), (fun x => St W x b v c d g bs (up (up (up (up M0 1056 169) 1057 0) 1058 170) 1059 96) #[.int .i64 0, .int .i64 0, .int .i64 0, .int .i64 255, .int .i64 0, .int .i64 9216, .bool false, .int .i64 0])])) HN2.out H2.out)
    · obtain ⟨⟨(h1 : vals 1 = .pointer (some ⟨b, 0, none⟩)), t1⟩, _⟩ := hk
      simp only [h1]
      clear h1
      go_wp2_with fail
      exact postS_mk _ rfl rfl (stage_keep (A := (stgs [(fun x => St W x b v c d g bs M0 #[.int .i64 0, .int .i64 0, .int .i64 0, .int .i64 255, .int .i64 0, .int .i64 9216, .bool false, .int .i64 0]), (fun x => St W x b v c d g bs (up M0 1056 169) #[.int .i64 0, .int .i64 0, .int .i64 0, .int .i64 255, .int .i64 0, .int .i64 9216, .bool false, .int .i64 0]), (fun x => St W x b v c d g bs (up (up M0 1056 169) 1057 0) #[.int .i64 0, .int .i64 0, .int .i64 0, .int .i64 255, .int .i64 0, .int .i64 9216, .bool false, .int .i64 0]), (fun x => St W x b v c d g bs (up (up (up M0 1056 169) 1057 0) 1058 170) #[.int .i64 0, .int .i64 0, .int .i64 0, .int .i64 255, .int .i64 0, .int .i64 9216, .bool false, .int .i64 0]), (fun x => St W x b v c d g bs (up (up (up (up M0 1056 169) 1057 0) 1058 170) 1059 96) #[.int .i64 0, .int .i64 0, .int .i64 0, .int .i64 255, .int .i64 0, .int .i64 9216, .bool false, .int .i64 0])])) (ps := [7, 11, 15, 19]) (i := 8) rfl hs)
    · obtain ⟨⟨(h8 : vals 8 = .pointer (some ⟨b, 0, none⟩)), t8⟩, _⟩ := hk
      simp only [h8]
      clear h8
      go_wp2_with fail
      exact postS_mk _ rfl rfl (stage_keep (A := (stgs [(fun x => St W x b v c d g bs M0 #[.int .i64 0, .int .i64 0, .int .i64 0, .int .i64 255, .int .i64 0, .int .i64 9216, .bool false, .int .i64 0]), (fun x => St W x b v c d g bs (up M0 1056 169) #[.int .i64 0, .int .i64 0, .int .i64 0, .int .i64 255, .int .i64 0, .int .i64 9216, .bool false, .int .i64 0]), (fun x => St W x b v c d g bs (up (up M0 1056 169) 1057 0) #[.int .i64 0, .int .i64 0, .int .i64 0, .int .i64 255, .int .i64 0, .int .i64 9216, .bool false, .int .i64 0]), (fun x => St W x b v c d g bs (up (up (up M0 1056 169) 1057 0) 1058 170) #[.int .i64 0, .int .i64 0, .int .i64 0, .int .i64 255, .int .i64 0, .int .i64 9216, .bool false, .int .i64 0]), (fun x => St W x b v c d g bs (up (up (up (up M0 1056 169) 1057 0) 1058 170) 1059 96) #[.int .i64 0, .int .i64 0, .int .i64 0, .int .i64 255, .int .i64 0, .int .i64 9216, .bool false, .int .i64 0])])) (ps := [7, 11, 15, 19]) (i := 9) rfl hs)
    · obtain ⟨⟨(h9 : vals 9 = .pointer (some ⟨b, 283, none⟩)), t9⟩, ⟨(h0 : vals 0 = .pointer (some ⟨b, 0, none⟩)), t0⟩, ⟨(h1 : vals 1 = .pointer (some ⟨b, 0, none⟩)), t1⟩, _, _, ⟨(h4 : vals 4 = .pointer (some ⟨b, 0, none⟩)), t4⟩, ⟨(h5 : vals 5 = .pointer (some ⟨b, 283, none⟩)), t5⟩, ⟨(h6 : vals 6 = .pointer (some ⟨b, 1339, none⟩)), t6⟩, ⟨(h7 : vals 7 = undef), t7⟩, _⟩ := hk
      simp only [h9]
      clear h9 h0 h1 h4 h5 h6 h7
      go_wp2_with fail
      exact postS_mk _ rfl rfl (stage_keep (A := (stgs [(fun x => St W x b v c d g bs M0 #[.int .i64 0, .int .i64 0, .int .i64 0, .int .i64 255, .int .i64 0, .int .i64 9216, .bool false, .int .i64 0]), (fun x => St W x b v c d g bs (up M0 1056 169) #[.int .i64 0, .int .i64 0, .int .i64 0, .int .i64 255, .int .i64 0, .int .i64 9216, .bool false, .int .i64 0]), (fun x => St W x b v c d g bs (up (up M0 1056 169) 1057 0) #[.int .i64 0, .int .i64 0, .int .i64 0, .int .i64 255, .int .i64 0, .int .i64 9216, .bool false, .int .i64 0]), (fun x => St W x b v c d g bs (up (up (up M0 1056 169) 1057 0) 1058 170) #[.int .i64 0, .int .i64 0, .int .i64 0, .int .i64 255, .int .i64 0, .int .i64 9216, .bool false, .int .i64 0]), (fun x => St W x b v c d g bs (up (up (up (up M0 1056 169) 1057 0) 1058 170) 1059 96) #[.int .i64 0, .int .i64 0, .int .i64 0, .int .i64 255, .int .i64 0, .int .i64 9216, .bool false, .int .i64 0])])) (ps := [7, 11, 15, 19]) (i := 10) rfl hs)
    · obtain ⟨⟨(h10 : vals 10 = .pointer (some ⟨b, 1340, none⟩)), t10⟩, ⟨(h7 : vals 7 = undef), t7⟩, ⟨(h0 : vals 0 = .pointer (some ⟨b, 0, none⟩)), t0⟩, ⟨(h1 : vals 1 = .pointer (some ⟨b, 0, none⟩)), t1⟩, _, _, ⟨(h4 : vals 4 = .pointer (some ⟨b, 0, none⟩)), t4⟩, ⟨(h5 : vals 5 = .pointer (some ⟨b, 283, none⟩)), t5⟩, ⟨(h6 : vals 6 = .pointer (some ⟨b, 1339, none⟩)), t6⟩, _, _⟩ := hk
      simp only [h10]
      clear h10 h7 h0 h1 h4 h5 h6
      have d7 := t7
      have d11 := hi
      have d15 := not_yet hc hi 15 60 (by kernel_rfl)
      have d19 := not_yet hc hi 19 60 (by kernel_rfl)
      have hn : cntD [7, 11, 15, 19] dn = 1 := by show (if dn 7 = true then 1 else 0) + ((if dn 11 = true then 1 else 0) + ((if dn 15 = true then 1 else 0) + ((if dn 19 = true then 1 else 0) + 0))) = 1; rw [d7, d11, d15, d19]; rfl
      have hs1 := stage_at (A := (stgs [(fun x => St W x b v c d g bs M0 #[.int .i64 0, .int .i64 0, .int .i64 0, .int .i64 255, .int .i64 0, .int .i64 9216, .bool false, .int .i64 0]), (fun x => St W x b v c d g bs (up M0 1056 169) #[.int .i64 0, .int .i64 0, .int .i64 0, .int .i64 255, .int .i64 0, .int .i64 9216, .bool false, .int .i64 0]), (fun x => St W x b v c d g bs (up (up M0 1056 169) 1057 0) #[.int .i64 0, .int .i64 0, .int .i64 0, .int .i64 255, .int .i64 0, .int .i64 9216, .bool false, .int .i64 0]), (fun x => St W x b v c d g bs (up (up (up M0 1056 169) 1057 0) 1058 170) #[.int .i64 0, .int .i64 0, .int .i64 0, .int .i64 255, .int .i64 0, .int .i64 9216, .bool false, .int .i64 0]), (fun x => St W x b v c d g bs (up (up (up (up M0 1056 169) 1057 0) 1058 170) 1059 96) #[.int .i64 0, .int .i64 0, .int .i64 0, .int .i64 255, .int .i64 0, .int .i64 9216, .bool false, .int .i64 0])])) hn hs
      have hn2 : cntD [7, 11, 15, 19] (updD dn 11) = 2 := by show (if updD dn 11 7 = true then 1 else 0) + ((if updD dn 11 11 = true then 1 else 0) + ((if updD dn 11 15 = true then 1 else 0) + ((if updD dn 11 19 = true then 1 else 0) + 0))) = 2; rw [updD_other dn (show ¬ 7 = 11 by decide), updD_same, updD_other dn (show ¬ 15 = 11 by decide), updD_other dn (show ¬ 19 = 11 by decide), d7, d15, d19]; rfl
      have HN2 := hide hn2
      clear hn hn2 d7 d15 d19
      have q := (fun h : (fun x => St W x b v c d g bs (up M0 1056 169) #[.int .i64 0, .int .i64 0, .int .i64 0, .int .i64 255, .int .i64 0, .int .i64 9216, .bool false, .int .i64 0]) x => show x.cell? ⟨b, 1340, none⟩ = some (.int .u8 (up M0 1056 169 1057)) from h.get 1057 (by decide)) hs1
      have z := (fun h : (fun x => St W x b v c d g bs (up M0 1056 169) #[.int .i64 0, .int .i64 0, .int .i64 0, .int .i64 255, .int .i64 0, .int .i64 9216, .bool false, .int .i64 0]) x => show x.frozen? ⟨b, 1340, none⟩ = false from h.fro 1057 (by decide)) hs1
      have H2 := hide ((fun h : (fun x => St W x b v c d g bs (up M0 1056 169) #[.int .i64 0, .int .i64 0, .int .i64 0, .int .i64 255, .int .i64 0, .int .i64 9216, .bool false, .int .i64 0]) x => show (fun x => St W x b v c d g bs (up (up M0 1056 169) 1057 0) #[.int .i64 0, .int .i64 0, .int .i64 0, .int .i64 255, .int .i64 0, .int .i64 9216, .bool false, .int .i64 0]) (x.setCell ⟨b, 1340, none⟩ (.int .u8 0)) from h.set 1057 (by decide) (by decide)) hs1)
      clear hs hs1
      go_wp2_with fail
      exact postS_mk _ rfl rfl (stage_of (A := (stgs [(fun x => St W x b v c d g bs M0 #[.int .i64 0, .int .i64 0, .int .i64 0, .int .i64 255, .int .i64 0, .int .i64 9216, .bool false, .int .i64 0]), (fun x => St W x b v c d g bs (up M0 1056 169) #[.int .i64 0, .int .i64 0, .int .i64 0, .int .i64 255, .int .i64 0, .int .i64 9216, .bool false, .int .i64 0]), (fun x => St W x b v c d g bs (up (up M0 1056 169) 1057 0) #[.int .i64 0, .int .i64 0, .int .i64 0, .int .i64 255, .int .i64 0, .int .i64 9216, .bool false, .int .i64 0]), (fun x => St W x b v c d g bs (up (up (up M0 1056 169) 1057 0) 1058 170) #[.int .i64 0, .int .i64 0, .int .i64 0, .int .i64 255, .int .i64 0, .int .i64 9216, .bool false, .int .i64 0]), (fun x => St W x b v c d g bs (up (up (up (up M0 1056 169) 1057 0) 1058 170) 1059 96) #[.int .i64 0, .int .i64 0, .int .i64 0, .int .i64 255, .int .i64 0, .int .i64 9216, .bool false, .int .i64 0])])) HN2.out H2.out)
    · obtain ⟨⟨(h2 : vals 2 = .pointer (some ⟨b, 0, none⟩)), t2⟩, _⟩ := hk
      simp only [h2]
      clear h2
      go_wp2_with fail
      exact postS_mk _ rfl rfl (stage_keep (A := (stgs [(fun x => St W x b v c d g bs M0 #[.int .i64 0, .int .i64 0, .int .i64 0, .int .i64 255, .int .i64 0, .int .i64 9216, .bool false, .int .i64 0]), (fun x => St W x b v c d g bs (up M0 1056 169) #[.int .i64 0, .int .i64 0, .int .i64 0, .int .i64 255, .int .i64 0, .int .i64 9216, .bool false, .int .i64 0]), (fun x => St W x b v c d g bs (up (up M0 1056 169) 1057 0) #[.int .i64 0, .int .i64 0, .int .i64 0, .int .i64 255, .int .i64 0, .int .i64 9216, .bool false, .int .i64 0]), (fun x => St W x b v c d g bs (up (up (up M0 1056 169) 1057 0) 1058 170) #[.int .i64 0, .int .i64 0, .int .i64 0, .int .i64 255, .int .i64 0, .int .i64 9216, .bool false, .int .i64 0]), (fun x => St W x b v c d g bs (up (up (up (up M0 1056 169) 1057 0) 1058 170) 1059 96) #[.int .i64 0, .int .i64 0, .int .i64 0, .int .i64 255, .int .i64 0, .int .i64 9216, .bool false, .int .i64 0])])) (ps := [7, 11, 15, 19]) (i := 12) rfl hs)
    · obtain ⟨⟨(h12 : vals 12 = .pointer (some ⟨b, 0, none⟩)), t12⟩, _⟩ := hk
      simp only [h12]
      clear h12
      go_wp2_with fail
      exact postS_mk _ rfl rfl (stage_keep (A := (stgs [(fun x => St W x b v c d g bs M0 #[.int .i64 0, .int .i64 0, .int .i64 0, .int .i64 255, .int .i64 0, .int .i64 9216, .bool false, .int .i64 0]), (fun x => St W x b v c d g bs (up M0 1056 169) #[.int .i64 0, .int .i64 0, .int .i64 0, .int .i64 255, .int .i64 0, .int .i64 9216, .bool false, .int .i64 0]), (fun x => St W x b v c d g bs (up (up M0 1056 169) 1057 0) #[.int .i64 0, .int .i64 0, .int .i64 0, .int .i64 255, .int .i64 0, .int .i64 9216, .bool false, .int .i64 0]), (fun x => St W x b v c d g bs (up (up (up M0 1056 169) 1057 0) 1058 170) #[.int .i64 0, .int .i64 0, .int .i64 0, .int .i64 255, .int .i64 0, .int .i64 9216, .bool false, .int .i64 0]), (fun x => St W x b v c d g bs (up (up (up (up M0 1056 169) 1057 0) 1058 170) 1059 96) #[.int .i64 0, .int .i64 0, .int .i64 0, .int .i64 255, .int .i64 0, .int .i64 9216, .bool false, .int .i64 0])])) (ps := [7, 11, 15, 19]) (i := 13) rfl hs)
    · obtain ⟨⟨(h13 : vals 13 = .pointer (some ⟨b, 283, none⟩)), t13⟩, ⟨(h0 : vals 0 = .pointer (some ⟨b, 0, none⟩)), t0⟩, ⟨(h1 : vals 1 = .pointer (some ⟨b, 0, none⟩)), t1⟩, ⟨(h2 : vals 2 = .pointer (some ⟨b, 0, none⟩)), t2⟩, _, ⟨(h4 : vals 4 = .pointer (some ⟨b, 0, none⟩)), t4⟩, ⟨(h5 : vals 5 = .pointer (some ⟨b, 283, none⟩)), t5⟩, ⟨(h6 : vals 6 = .pointer (some ⟨b, 1339, none⟩)), t6⟩, ⟨(h7 : vals 7 = undef), t7⟩, ⟨(h8 : vals 8 = .pointer (some ⟨b, 0, none⟩)), t8⟩, ⟨(h9 : vals 9 = .pointer (some ⟨b, 283, none⟩)), t9⟩, ⟨(h10 : vals 10 = .pointer (some ⟨b, 1340, none⟩)), t10⟩, ⟨(h11 : vals 11 = undef), t11⟩, _⟩ := hk
      simp only [h13]
      clear h13 h0 h1 h2 h4 h5 h6 h7 h8 h9 h10 h11
      go_wp2_with fail
      exact postS_mk _ rfl rfl (stage_keep (A := (stgs [(fun x => St W x b v c d g bs M0 #[.int .i64 0, .int .i64 0, .int .i64 0, .int .i64 255, .int .i64 0, .int .i64 9216, .bool false, .int .i64 0]), (fun x => St W x b v c d g bs (up M0 1056 169) #[.int .i64 0, .int .i64 0, .int .i64 0, .int .i64 255, .int .i64 0, .int .i64 9216, .bool false, .int .i64 0]), (fun x => St W x b v c d g bs (up (up M0 1056 169) 1057 0) #[.int .i64 0, .int .i64 0, .int .i64 0, .int .i64 255, .int .i64 0, .int .i64 9216, .bool false, .int .i64 0]), (fun x => St W x b v c d g bs (up (up (up M0 1056 169) 1057 0) 1058 170) #[.int .i64 0, .int .i64 0, .int .i64 0, .int .i64 255, .int .i64 0, .int .i64 9216, .bool false, .int .i64 0]), (fun x => St W x b v c d g bs (up (up (up (up M0 1056 169) 1057 0) 1058 170) 1059 96) #[.int .i64 0, .int .i64 0, .int .i64 0, .int .i64 255, .int .i64 0, .int .i64 9216, .bool false, .int .i64 0])])) (ps := [7, 11, 15, 19]) (i := 14) rfl hs)
    · obtain ⟨⟨(h14 : vals 14 = .pointer (some ⟨b, 1341, none⟩)), t14⟩, ⟨(h11 : vals 11 = undef), t11⟩, ⟨(h0 : vals 0 = .pointer (some ⟨b, 0, none⟩)), t0⟩, ⟨(h1 : vals 1 = .pointer (some ⟨b, 0, none⟩)), t1⟩, ⟨(h2 : vals 2 = .pointer (some ⟨b, 0, none⟩)), t2⟩, _, ⟨(h4 : vals 4 = .pointer (some ⟨b, 0, none⟩)), t4⟩, ⟨(h5 : vals 5 = .pointer (some ⟨b, 283, none⟩)), t5⟩, ⟨(h6 : vals 6 = .pointer (some ⟨b, 1339, none⟩)), t6⟩, ⟨(h7 : vals 7 = undef), t7⟩, ⟨(h8 : vals 8 = .pointer (some ⟨b, 0, none⟩)), t8⟩, ⟨(h9 : vals 9 = .pointer (some ⟨b, 283, none⟩)), t9⟩, ⟨(h10 : vals 10 = .pointer (some ⟨b, 1340, none⟩)), t10⟩, _, _⟩ := hk
      simp only [h14]
      clear h14 h11 h0 h1 h2 h4 h5 h6 h7 h8 h9 h10
      have d7 := t7
      have d11 := t11
      have d15 := hi
      have d19 := not_yet hc hi 19 60 (by kernel_rfl)
      have hn : cntD [7, 11, 15, 19] dn = 2 := by show (if dn 7 = true then 1 else 0) + ((if dn 11 = true then 1 else 0) + ((if dn 15 = true then 1 else 0) + ((if dn 19 = true then 1 else 0) + 0))) = 2; rw [d7, d11, d15, d19]; rfl
      have hs1 := stage_at (A := (stgs [(fun x => St W x b v c d g bs M0 #[.int .i64 0, .int .i64 0, .int .i64 0, .int .i64 255, .int .i64 0, .int .i64 9216, .bool false, .int .i64 0]), (fun x => St W x b v c d g bs (up M0 1056 169) #[.int .i64 0, .int .i64 0, .int .i64 0, .int .i64 255, .int .i64 0, .int .i64 9216, .bool false, .int .i64 0]), (fun x => St W x b v c d g bs (up (up M0 1056 169) 1057 0) #[.int .i64 0, .int .i64 0, .int .i64 0, .int .i64 255, .int .i64 0, .int .i64 9216, .bool false, .int .i64 0]), (fun x => St W x b v c d g bs (up (up (up M0 1056 169) 1057 0) 1058 170) #[.int .i64 0, .int .i64 0, .int .i64 0, .int .i64 255, .int .i64 0, .int .i64 9216, .bool false, .int .i64 0]), (fun x => St W x b v c d g bs (up (up (up (up M0 1056 169) 1057 0) 1058 170) 1059 96) #[.int .i64 0, .int .i64 0, .int .i64 0, .int .i64 255, .int .i64 0, .int .i64 9216, .bool false, .int .i64 0])])) hn hs
      have hn2 : cntD [7, 11, 15, 19] (updD dn 15) = 3 := by show (if updD dn 15 7 = true then 1 else 0) + ((if updD dn 15 11 = true then 1 else 0) + ((if updD dn 15 15 = true then 1 else 0) + ((if updD dn 15 19 = true then 1 else 0) + 0))) = 3; rw [updD_other dn (show ¬ 7 = 15 by decide), updD_other dn (show ¬ 11 = 15 by decide), updD_same, updD_other dn (show ¬ 19 = 15 by decide), d7, d11, d19]; rfl
      have HN2 := hide hn2
      clear hn hn2 d7 d11 d19
      have q := (fun h : (fun x => St W x b v c d g bs (up (up M0 1056 169) 1057 0) #[.int .i64 0, .int .i64 0, .int .i64 0, .int .i64 255, .int .i64 0, .int .i64 9216, .bool false, .int .i64 0]) x => show x.cell? ⟨b, 1341, none⟩ = some (.int .u8 (up (up M0 1056 169) 1057 0 1058)) from h.get 1058 (by decide)) hs1
      have z := (fun h : (fun x => St W x b v c d g bs (up (up M0 1056 169) 1057 0) #[.int .i64 0, .int .i64 0, .int .i64 0, .int .i64 255, .int .i64 0, .int .i64 9216, .bool false, .int .i64 0]) x => show x.frozen? ⟨b, 1341, none⟩ = false from h.fro 1058 (by decide)) hs1
      have H2 := hide ((fun h : (fun x => St W x b v c d g bs (up (up M0 1056 169) 1057 0) #[.int .i64 0, .int .i64 0, .int .i64 0, .int .i64 255, .int .i64 0, .int .i64 9216, .bool false, .int .i64 0]) x => show (fun x => St W x b v c d g bs (up (up (up M0 1056 169) 1057 0) 1058 170) #[.int .i64 0, .int .i64 0, .int .i64 0, .int .i64 255, .int .i64 0, .int .i64 9216, .bool false, .int .i64 0]) (x.setCell ⟨b, 1341, none⟩ (.int .u8 170)) from h.set 1058 (by decide) (by decide)) hs1)
      clear hs hs1
      go_wp2_with fail
      exact postS_mk _ rfl rfl (stage_of (A := (stgs [(fun x => St W x b v c d g bs M0 #[.int .i64 0, .int .i64 0, .int .i64 0, .int .i64 255, .int .i64 0, .int .i64 9216, .bool false, .int .i64 0]), (fun x => St W x b v c d g bs (up M0 1056 169) #[.int .i64 0, .int .i64 0, .int .i64 0, .int .i64 255, .int .i64 0, .int .i64 9216, .bool false, .int .i64 0]), (fun x => St W x b v c d g bs (up (up M0 1056 169) 1057 0) #[.int .i64 0, .int .i64 0, .int .i64 0, .int .i64 255, .int .i64 0, .int .i64 9216, .bool false, .int .i64 0]), (fun x => St W x b v c d g bs (up (up (up M0 1056 169) 1057 0) 1058 170) #[.int .i64 0, .int .i64 0, .int .i64 0, .int .i64 255, .int .i64 0, .int .i64 9216, .bool false, .int .i64 0]), (fun x => St W x b v c d g bs (up (up (up (up M0 1056 169) 1057 0) 1058 170) 1059 96) #[.int .i64 0, .int .i64 0, .int .i64 0, .int .i64 255, .int .i64 0, .int .i64 9216, .bool false, .int .i64 0])])) HN2.out H2.out)
    · obtain ⟨⟨(h3 : vals 3 = .pointer (some ⟨b, 0, none⟩)), t3⟩, _⟩ := hk
      simp only [h3]
      clear h3
      go_wp2_with fail
      exact postS_mk _ rfl rfl (stage_keep (A := (stgs [(fun x => St W x b v c d g bs M0 #[.int .i64 0, .int .i64 0, .int .i64 0, .int .i64 255, .int .i64 0, .int .i64 9216, .bool false, .int .i64 0]), (fun x => St W x b v c d g bs (up M0 1056 169) #[.int .i64 0, .int .i64 0, .int .i64 0, .int .i64 255, .int .i64 0, .int .i64 9216, .bool false, .int .i64 0]), (fun x => St W x b v c d g bs (up (up M0 1056 169) 1057 0) #[.int .i64 0, .int .i64 0, .int .i64 0, .int .i64 255, .int .i64 0, .int .i64 9216, .bool false, .int .i64 0]), (fun x => St W x b v c d g bs (up (up (up M0 1056 169) 1057 0) 1058 170) #[.int .i64 0, .int .i64 0, .int .i64 0, .int .i64 255, .int .i64 0, .int .i64 9216, .bool false, .int .i64 0]), (fun x => St W x b v c d g bs (up (up (up (up M0 1056 169) 1057 0) 1058 170) 1059 96) #[.int .i64 0, .int .i64 0, .int .i64 0, .int .i64 255, .int .i64 0, .int .i64 9216, .bool false, .int .i64 0])])) (ps := [7, 11, 15, 19]) (i := 16) rfl hs)
    · obtain ⟨⟨(h16 : vals 16 = .pointer (some ⟨b, 0, none⟩)), t16⟩, _⟩ := hk
      simp only [h16]
      clear h16
      go_wp2_with fail
      exact postS_mk _ rfl rfl (stage_keep (A := (stgs [(fun x => St W x b v c d g bs M0 #[.int .i64 0, .int .i64 0, .int .i64 0, .int .i64 255, .int .i64 0, .int .i64 9216, .bool false, .int .i64 0]), (fun x => St W x b v c d g bs (up M0 1056 169) #[.int .i64 0, .int .i64 0, .int .i64 0, .int .i64 255, .int .i64 0, .int .i64 9216, .bool false, .int .i64 0]), (fun x => St W x b v c d g bs (up (up M0 1056 169) 1057 0) #[.int .i64 0, .int .i64 0, .int .i64 0, .int .i64 255, .int .i64 0, .int .i64 9216, .bool false, .int .i64 0]), (fun x => St W x b v c d g bs (up (up (up M0 1056 169) 1057 0) 1058 170) #[.int .i64 0, .int .i64 0, .int .i64 0, .int .i64 255, .int .i64 0, .int .i64 9216, .bool false, .int .i64 0]), (fun x => St W x b v c d g bs (up (up (up (up M0 1056 169) 1057 0) 1058 170) 1059 96) #[.int .i64 0, .int .i64 0, .int .i64 0, .int .i64 255, .int .i64 0, .int .i64 9216, .bool false, .int .i64 0])])) (ps := [7, 11, 15, 19]) (i := 17) rfl hs)
    · obtain ⟨⟨(h17 : vals 17 = .pointer (some ⟨b, 283, none⟩)), t17⟩, ⟨(h0 : vals 0 = .pointer (some ⟨b, 0, none⟩)), t0⟩, ⟨(h1 : vals 1 = .pointer (some ⟨b, 0, none⟩)), t1⟩, ⟨(h2 : vals 2 = .pointer (some ⟨b, 0, none⟩)), t2⟩, ⟨(h3 : vals 3 = .pointer (some ⟨b, 0, none⟩)), t3⟩, ⟨(h4 : vals 4 = .pointer (some ⟨b, 0, none⟩)), t4⟩, ⟨(h5 : vals 5 = .pointer (some ⟨b, 283, none⟩)), t5⟩, ⟨(h6 : vals 6 = .pointer (some ⟨b, 1339, none⟩)), t6⟩, ⟨(h7 : vals 7 = undef), t7⟩, ⟨(h8 : vals 8 = .pointer (some ⟨b, 0, none⟩)), t8⟩, ⟨(h9 : vals 9 = .pointer (some ⟨b, 283, none⟩)), t9⟩, ⟨(h10 : vals 10 = .pointer (some ⟨b, 1340, none⟩)), t10⟩, ⟨(h11 : vals 11 = undef), t11⟩, ⟨(h12 : vals 12 = .pointer (some ⟨b, 0, none⟩)), t12⟩, ⟨(h13 : vals 13 = .pointer (some ⟨b, 283, none⟩)), t13⟩, ⟨(h14 : vals 14 = .pointer (some ⟨b, 1341, none⟩)), t14⟩, ⟨(h15 : vals 15 = undef), t15⟩, _⟩ := hk
      simp only [h17]
      clear h17 h0 h1 h2 h3 h4 h5 h6 h7 h8 h9 h10 h11 h12 h13 h14 h15
      go_wp2_with fail
      exact postS_mk _ rfl rfl (stage_keep (A := (stgs [(fun x => St W x b v c d g bs M0 #[.int .i64 0, .int .i64 0, .int .i64 0, .int .i64 255, .int .i64 0, .int .i64 9216, .bool false, .int .i64 0]), (fun x => St W x b v c d g bs (up M0 1056 169) #[.int .i64 0, .int .i64 0, .int .i64 0, .int .i64 255, .int .i64 0, .int .i64 9216, .bool false, .int .i64 0]), (fun x => St W x b v c d g bs (up (up M0 1056 169) 1057 0) #[.int .i64 0, .int .i64 0, .int .i64 0, .int .i64 255, .int .i64 0, .int .i64 9216, .bool false, .int .i64 0]), (fun x => St W x b v c d g bs (up (up (up M0 1056 169) 1057 0) 1058 170) #[.int .i64 0, .int .i64 0, .int .i64 0, .int .i64 255, .int .i64 0, .int .i64 9216, .bool false, .int .i64 0]), (fun x => St W x b v c d g bs (up (up (up (up M0 1056 169) 1057 0) 1058 170) 1059 96) #[.int .i64 0, .int .i64 0, .int .i64 0, .int .i64 255, .int .i64 0, .int .i64 9216, .bool false, .int .i64 0])])) (ps := [7, 11, 15, 19]) (i := 18) rfl hs)
    · obtain ⟨⟨(h18 : vals 18 = .pointer (some ⟨b, 1342, none⟩)), t18⟩, ⟨(h15 : vals 15 = undef), t15⟩, ⟨(h0 : vals 0 = .pointer (some ⟨b, 0, none⟩)), t0⟩, ⟨(h1 : vals 1 = .pointer (some ⟨b, 0, none⟩)), t1⟩, ⟨(h2 : vals 2 = .pointer (some ⟨b, 0, none⟩)), t2⟩, ⟨(h3 : vals 3 = .pointer (some ⟨b, 0, none⟩)), t3⟩, ⟨(h4 : vals 4 = .pointer (some ⟨b, 0, none⟩)), t4⟩, ⟨(h5 : vals 5 = .pointer (some ⟨b, 283, none⟩)), t5⟩, ⟨(h6 : vals 6 = .pointer (some ⟨b, 1339, none⟩)), t6⟩, ⟨(h7 : vals 7 = undef), t7⟩, ⟨(h8 : vals 8 = .pointer (some ⟨b, 0, none⟩)), t8⟩, ⟨(h9 : vals 9 = .pointer (some ⟨b, 283, none⟩)), t9⟩, ⟨(h10 : vals 10 = .pointer (some ⟨b, 1340, none⟩)), t10⟩, ⟨(h11 : vals 11 = undef), t11⟩, ⟨(h12 : vals 12 = .pointer (some ⟨b, 0, none⟩)), t12⟩, ⟨(h13 : vals 13 = .pointer (some ⟨b, 283, none⟩)), t13⟩, ⟨(h14 : vals 14 = .pointer (some ⟨b, 1341, none⟩)), t14⟩, _, _⟩ := hk
      simp only [h18]
      clear h18 h15 h0 h1 h2 h3 h4 h5 h6 h7 h8 h9 h10 h11 h12 h13 h14
      have d7 := t7
      have d11 := t11
      have d15 := t15
      have d19 := hi
      have hn : cntD [7, 11, 15, 19] dn = 3 := by show (if dn 7 = true then 1 else 0) + ((if dn 11 = true then 1 else 0) + ((if dn 15 = true then 1 else 0) + ((if dn 19 = true then 1 else 0) + 0))) = 3; rw [d7, d11, d15, d19]; rfl
      have hs1 := stage_at (A := (stgs [(fun x => St W x b v c d g bs M0 #[.int .i64 0, .int .i64 0, .int .i64 0, .int .i64 255, .int .i64 0, .int .i64 9216, .bool false, .int .i64 0]), (fun x => St W x b v c d g bs (up M0 1056 169) #[.int .i64 0, .int .i64 0, .int .i64 0, .int .i64 255, .int .i64 0, .int .i64 9216, .bool false, .int .i64 0]), (fun x => St W x b v c d g bs (up (up M0 1056 169) 1057 0) #[.int .i64 0, .int .i64 0, .int .i64 0, .int .i64 255, .int .i64 0, .int .i64 9216, .bool false, .int .i64 0]), (fun x => St W x b v c d g bs (up (up (up M0 1056 169) 1057 0) 1058 170) #[.int .i64 0, .int .i64 0, .int .i64 0, .int .i64 255, .int .i64 0, .int .i64 9216, .bool false, .int .i64 0]), (fun x => St W x b v c d g bs (up (up (up (up M0 1056 169) 1057 0) 1058 170) 1059 96) #[.int .i64 0, .int .i64 0, .int .i64 0, .int .i64 255, .int .i64 0, .int .i64 9216, .bool false, .int .i64 0])])) hn hs
      have hn2 : cntD [7, 11, 15, 19] (updD dn 19) = 4 := by show (if updD dn 19 7 = true then 1 else 0) + ((if updD dn 19 11 = true then 1 else 0) + ((if updD dn 19 15 = true then 1 else 0) + ((if updD dn 19 19 = true then 1 else 0) + 0))) = 4; rw [updD_other dn (show ¬ 7 = 19 by decide), updD_other dn (show ¬ 11 = 19 by decide), updD_other dn (show ¬ 15 = 19 by decide), updD_same, d7, d11, d15]; rfl
      have HN2 := hide hn2
      clear hn hn2 d7 d11 d15
      have q := (fun h : (fun x => St W x b v c d g bs (up (up (up M0 1056 169) 1057 0) 1058 170) #[.int .i64 0, .int .i64 0, .int .i64 0, .int .i64 255, .int .i64 0, .int .i64 9216, .bool false, .int .i64 0]) x => show x.cell? ⟨b, 1342, none⟩ = some (.int .u8 (up (up (up M0 1056 169) 1057 0) 1058 170 1059)) from h.get 1059 (by decide)) hs1
      have z := (fun h : (fun x => St W x b v c d g bs (up (up (up M0 1056 169) 1057 0) 1058 170) #[.int .i64 0, .int .i64 0, .int .i64 0, .int .i64 255, .int .i64 0, .int .i64 9216, .bool false, .int .i64 0]) x => show x.frozen? ⟨b, 1342, none⟩ = false from h.fro 1059 (by decide)) hs1
      have H2 := hide ((fun h : (fun x => St W x b v c d g bs (up (up (up M0 1056 169) 1057 0) 1058 170) #[.int .i64 0, .int .i64 0, .int .i64 0, .int .i64 255, .int .i64 0, .int .i64 9216, .bool false, .int .i64 0]) x => show (fun x => St W x b v c d g bs (up (up (up (up M0 1056 169) 1057 0) 1058 170) 1059 96) #[.int .i64 0, .int .i64 0, .int .i64 0, .int .i64 255, .int .i64 0, .int .i64 9216, .bool false, .int .i64 0]) (x.setCell ⟨b, 1342, none⟩ (.int .u8 96)) from h.set 1059 (by decide) (by decide)) hs1)
      clear hs hs1
      go_wp2_with fail
      exact postS_mk _ rfl rfl (stage_of (A := (stgs [(fun x => St W x b v c d g bs M0 #[.int .i64 0, .int .i64 0, .int .i64 0, .int .i64 255, .int .i64 0, .int .i64 9216, .bool false, .int .i64 0]), (fun x => St W x b v c d g bs (up M0 1056 169) #[.int .i64 0, .int .i64 0, .int .i64 0, .int .i64 255, .int .i64 0, .int .i64 9216, .bool false, .int .i64 0]), (fun x => St W x b v c d g bs (up (up M0 1056 169) 1057 0) #[.int .i64 0, .int .i64 0, .int .i64 0, .int .i64 255, .int .i64 0, .int .i64 9216, .bool false, .int .i64 0]), (fun x => St W x b v c d g bs (up (up (up M0 1056 169) 1057 0) 1058 170) #[.int .i64 0, .int .i64 0, .int .i64 0, .int .i64 255, .int .i64 0, .int .i64 9216, .bool false, .int .i64 0]), (fun x => St W x b v c d g bs (up (up (up (up M0 1056 169) 1057 0) 1058 170) 1059 96) #[.int .i64 0, .int .i64 0, .int .i64 0, .int .i64 255, .int .i64 0, .int .i64 9216, .bool false, .int .i64 0])])) HN2.out H2.out)
  rintro vals dn x hall hs hv
  clear hv
  have hn : cntD [7, 11, 15, 19] dn = 4 := by show (if dn 7 = true then 1 else 0) + ((if dn 11 = true then 1 else 0) + ((if dn 15 = true then 1 else 0) + ((if dn 19 = true then 1 else 0) + 0))) = 4; rw [hall 7 (by decide), hall 11 (by decide), hall 15 (by decide), hall 19 (by decide)]; rfl
  have hs := stage_at (A := (stgs [(fun x => St W x b v c d g bs M0 #[.int .i64 0, .int .i64 0, .int .i64 0, .int .i64 255, .int .i64 0, .int .i64 9216, .bool false, .int .i64 0]), (fun x => St W x b v c d g bs (up M0 1056 169) #[.int .i64 0, .int .i64 0, .int .i64 0, .int .i64 255, .int .i64 0, .int .i64 9216, .bool false, .int .i64 0]), (fun x => St W x b v c d g bs (up (up M0 1056 169) 1057 0) #[.int .i64 0, .int .i64 0, .int .i64 0, .int .i64 255, .int .i64 0, .int .i64 9216, .bool false, .int .i64 0]), (fun x => St W x b v c d g bs (up (up (up M0 1056 169) 1057 0) 1058 170) #[.int .i64 0, .int .i64 0, .int .i64 0, .int .i64 255, .int .i64 0, .int .i64 9216, .bool false, .int .i64 0]), (fun x => St W x b v c d g bs (up (up (up (up M0 1056 169) 1057 0) 1058 170) 1059 96) #[.int .i64 0, .int .i64 0, .int .i64 0, .int .i64 255, .int .i64 0, .int .i64 9216, .bool false, .int .i64 0])])) hn hs
  clear hn hall
  have h3 : St W x b v c d g bs (up (up (up (up M0 1056 169) 1057 0) 1058 170) 1059 96) #[.int .i64 0, .int .i64 0, .int .i64 0, .int .i64 255, .int .i64 0, .int .i64 9216, .bool false, .int .i64 0] := hs
  have S3 := hide h3
  have c3 := h3.reg 3 (x := .int .i64 255) rfl
  have f3 := frozen_of_row x g 3 _ _ h3.2.1
  have g3 := h3.ltg
  have S4 := hide (st_setr h3 3 (.int .i64 (s : Int)) (row' := #[.int .i64 0, .int .i64 0, .int .i64 0, .int .i64 (s : Int), .int .i64 0, .int .i64 9216, .bool false, .int .i64 0]) rfl)
  clear h3 hs S2
  have g4 := (show St W (x.setCell ⟨g, 3, none⟩ (.int .i64 (s : Int))) b v c d g bs (up (up (up (up M0 1056 169) 1057 0) 1058 170) 1059 96) #[.int .i64 0, .int .i64 0, .int .i64 0, .int .i64 (s : Int), .int .i64 0, .int .i64 9216, .bool false, .int .i64 0] from S4.out)
  have E0 := CC.out.1
  have S5 : Hid (St W (x.setCell ⟨g, 3, none⟩ (.int .i64 (s : Int))) b v c d g bs (M 0) #[.int .i64 (A 0), .int .i64 (X 0), .int .i64 0, .int .i64 (S 0), .int .i64 (P 0), .int .i64 (8192 + (q 0 : Int)), .bool false, .int .i64 0]) := hide (by
    rw [E0.1, E0.2.1, E0.2.2.1, E0.2.2.2.1, E0.2.2.2.2.1, E0.2.2.2.2.2]
    exact g4)
  clear g4 E0 S4
  go_wp2_with fail
  clear c3 f3 g3 S3
  refine under_name fun xs hxs => ?_
  rw [← hxs] at S5
  clear hxs
  go_loopw [9] (fun v9 wr => ∃ (t : Nat), t ≤ 10 ∧ v9 = .int .i64 (t : Int) ∧ St W wr b v c d g bs (M t) #[.int .i64 (A t), .int .i64 (X t), .int .i64 0, .int .i64 (S t), .int .i64 (P t), .int .i64 (8192 + (q t : Int)), .bool false, .int .i64 0]) (fun v9 _ => 10 - (intOf v9).toNat)
  case atStart => exact ⟨0, Nat.zero_le _, rfl, S5.out⟩
  case round =>
    clear S5
    obtain ⟨t, ht, rfl, hS⟩ := hrel
    have S6 := hide hS
    clear hS
    by_cases hlt : t < 10
    · have G6 := hide (CC.out.2.1 t hlt)
      go_wp2_with (first
        | (refine load_core rfl (.tmp 8) rfl S6.out rfl rfl ?_)
        | (go_at_call 13; refine (st_step S6.out G6.out).mono ?_; rintro e w4 ⟨rfl, h4⟩; have S7 := hide h4; clear h4 S6 G6)
        | (refine store_core rfl (.tmp 8) (.tmp 48) rfl S7.out rfl rfl _ rfl rfl (by kernel_rfl) ?_; intro w5 h5; have S8 := hide h5; clear h5 S7))
      go_roundw
      case rel => exact ⟨t + 1, by omega, by go_num, S8.out⟩
      case measure => simp [intOf]; omega
    · obtain rfl : t = 10 := by omega
      have E := CC.out.2.2
      have r0 := S6.out.reg 0 rfl
      have r1 := S6.out.reg 1 rfl
      have r3 := S6.out.reg 3 rfl
      have r5 := S6.out.reg 5 rfl
      rw [E.1] at r0
      rw [E.2.1] at r1
      rw [E.2.2.1] at r3
      rw [E.2.2.2] at r5
      have g6 := S6.out.ltg
      clear E CC
      go_wp2_with fail
      all_goals first | (go_ret; exact ⟨rfl, S6.out.below⟩) | (exfalso; simp_all; done) | (exfalso; omega) | trace_state
end Go.Proofs.YtoijhhbiknhlnaaGreatDoor
