/- A program that adds two bytes, with a carry, and lays the sum, lays it, and the carry; in the decimal mode of decimal numbers: the walk. -/
import Derived.Test.YtoijhhbiknhlnaaGreatDoorCpuSumsJ45
import Derived.Test.YtoijhhbiknhlnaaGreatDoorCpuSumsJ50
import Derived.Test.YtoijhhbiknhlnaaGreatDoorCpuSumsJ36
namespace Go.Proofs.YtoijhhbiknhlnaaGreatDoor
set_option maxRecDepth 20000
open A2 B4 C3 D24 G6 I11 J23 K9 L24 L25 M5 N8 O7 P22 R15 T10 V12 W13
open Go.RowKit
set_option linter.unusedVariables false
theorem an32 {p : Int} (h : IsByte p) : (anP p 32 % 2 = p % 2 ∧ anP p 32 / 8 % 2 = p / 8 % 2) ∧ anP p 32 / 32 % 2 = 0 ∧ (0 ≤ anP p 32 ∧ anP p 32 < 256) :=
  fin_of (P := fun p => (anP p 32 % 2 = p % 2 ∧ anP p 32 / 8 % 2 = p / 8 % 2) ∧ anP p 32 / 32 % 2 = 0 ∧ (0 ≤ anP p 32 ∧ anP p 32 < 256)) (by unfold anP; decide +kernel) h
theorem has_32 {p : Int} (h : IsByte p) : hasF p 32 = decide (p / 32 % 2 = 1) := fin_of (P := fun p => hasF p 32 = decide (p / 32 % 2 = 1)) (by unfold hasF; decide +kernel) h
theorem isB_an {p : Int} (h : IsByte p) : IsByte (anP p 32) := ⟨(an32 h).2.2.1, by have := (an32 h).2.2.2; omega⟩
theorem no_t {p x : Int} (h : IsByte p) : hasF (nzOf (anP p 32) x) 32 = false := by
  rw [has_32 (nzOf_byte _ _)]
  have k := (nz_bits (anP p 32) x).2.2.1
  have e := (an32 h).2.1
  simp only [decide_eq_false_iff_not]
  omega
theorem adc_like {a m p p' : Int} (h : p % 2 = p' % 2) (k : p / 8 % 2 = p' / 8 % 2) : (doOf 3 a m p).1 = (doOf 3 a m p').1 ∧ (doOf 3 a m p).2 % 2 = (doOf 3 a m p').2 % 2 := by
  show (adcOf a m p).1 = (adcOf a m p').1 ∧ (adcOf a m p).2 % 2 = (adcOf a m p').2 % 2
  unfold adcOf
  rw [← k]
  split
  · unfold adcTen
    simp only [← h, set1_mod]
    exact ⟨trivial, trivial⟩
  · unfold adcTwo
    simp only [← h, set64_mod, set1_mod]
    exact ⟨trivial, trivial⟩
theorem s_cld {bs : List Int} {M : Nat → Int} {a p : Int} (ha : IsByte a) (hp : IsByte p) (h0 : M 1024 = ((216 : Nat) : Int)) : Goes bs Yp M a 0 0 255 p 1024 false 0 M a 0 0 255 (anP (anP p 32) 8) 1025 false 0 2 :=
  go_flag calm_p ha zB zB mB hp (by decide) h0 (by decide) (by kernel_rfl) (by kernel_rfl) (by kernel_rfl) (fun p => anP p 8) (by rw [show nameOf 216 = ⟨#[67, 76, 68]⟩ by kernel_rfl]; exact do_CLD)
theorem s_sed {bs : List Int} {M : Nat → Int} {a p : Int} (ha : IsByte a) (hp : IsByte p) (h0 : M 1024 = ((248 : Nat) : Int)) : Goes bs Yp M a 0 0 255 p 1024 false 0 M a 0 0 255 (orP (anP p 32) 8) 1025 false 0 2 :=
  go_flag calm_p ha zB zB mB hp (by decide) h0 (by decide) (by kernel_rfl) (by kernel_rfl) (by kernel_rfl) (fun p => orP p 8) (by rw [show nameOf 248 = ⟨#[83, 69, 68]⟩ by kernel_rfl]; exact do_SED)
theorem s_clc {bs : List Int} {M : Nat → Int} {a p : Int} (ha : IsByte a) (hp : IsByte p) (h0 : M 1025 = ((24 : Nat) : Int)) : Goes bs Yp M a 0 0 255 p 1025 false 0 M a 0 0 255 (anP (anP p 32) 1) 1026 false 0 2 :=
  go_flag calm_p ha zB zB mB hp (by decide) h0 (by decide) (by kernel_rfl) (by kernel_rfl) (by kernel_rfl) (fun p => anP p 1) (by rw [show nameOf 24 = ⟨#[67, 76, 67]⟩ by kernel_rfl]; exact do_CLC)
theorem s_lda {bs : List Int} {M : Nat → Int} {a p : Int} (ha : IsByte a) (hp : IsByte p) (h0 : M 1026 = ((165 : Nat) : Int)) (h1 : M 1027 = ((0 : Nat) : Int)) : Goes bs Yp M a 0 0 255 p 1026 false 0 M (M 0) 0 0 255 (nzOf (anP p 32) (M 0)) 1028 false 0 4 :=
  go_lda_z calm_p ha zB zB mB hp (by decide) h0 (by decide) (by kernel_rfl) (by kernel_rfl) (by decide) h1 (by kernel_rfl) (by rw [show nameOf 165 = ⟨#[76, 68, 65]⟩ by kernel_rfl]; exact do_LDA)
theorem s_adc {bs : List Int} {M : Nat → Int} {a p : Int} (ha : IsByte a) (hp : IsByte p) (h0 : M 1028 = ((101 : Nat) : Int)) (h1 : M 1029 = ((1 : Nat) : Int)) (ht : hasF p 32 = false) : Goes bs Yp M a 0 0 255 p 1028 false 0 M (rkV 3 a (M 1) (anP p 32)) 0 0 255 (rkP 3 a (M 1) (anP p 32)) 1030 false 0 4 :=
  go_adc_z calm_p ha zB zB mB hp (by decide) h0 (by decide) (by kernel_rfl) (by kernel_rfl) (by decide) h1 (by kernel_rfl) ht (by rw [show nameOf 101 = ⟨#[65, 68, 67]⟩ by kernel_rfl]; exact do_ADC_no)
theorem s_sta {bs : List Int} {M : Nat → Int} {a p : Int} (ha : IsByte a) (hp : IsByte p) {q z : Nat} (hq : q + 7 ≤ 8192) (hz : z < 256) (h0 : M q = ((133 : Nat) : Int)) (h1 : M (q + 1) = (z : Int)) : Goes bs Yp M a 0 0 255 p q false 0 (up M z (a % 256)) a 0 0 255 (anP p 32) (q + 2) false 0 4 :=
  go_sta_z calm_p ha zB zB mB hp hq h0 (by decide) (by kernel_rfl) (by kernel_rfl) hz h1 (by kernel_rfl) (by rw [show nameOf 133 = ⟨#[83, 84, 65]⟩ by kernel_rfl]; exact do_STA)
theorem s_ldi {bs : List Int} {M : Nat → Int} {a p : Int} (ha : IsByte a) (hp : IsByte p) (h0 : M 1032 = ((169 : Nat) : Int)) (h1 : M 1033 = ((0 : Nat) : Int)) : Goes bs Yp M a 0 0 255 p 1032 false 0 M ((0 : Nat) : Int) 0 0 255 (nzOf (anP p 32) ((0 : Nat) : Int)) 1034 false 0 2 :=
  go_lda_i calm_p ha zB zB mB hp (by decide) h0 (by decide) (by kernel_rfl) (by kernel_rfl) (by kernel_rfl) (by decide) h1 (by rw [show nameOf 169 = ⟨#[76, 68, 65]⟩ by kernel_rfl]; exact do_LDA)
theorem s_rol {bs : List Int} {M : Nat → Int} {a p : Int} (ha : IsByte a) (hp : IsByte p) (h0 : M 1034 = ((42 : Nat) : Int)) : Goes bs Yp M a 0 0 255 p 1034 false 0 M (rkV 10 a a (anP p 32)) 0 0 255 (rkP 10 a a (anP p 32)) 1035 false 0 2 :=
  go_rol_a calm_p ha zB zB mB hp (by decide) h0 (by decide) (by kernel_rfl) (by kernel_rfl) (by kernel_rfl) (by rw [show nameOf 42 = ⟨#[82, 79, 76]⟩ by kernel_rfl]; exact do_ROL)
theorem rol_c (p : Int) : rkV 10 0 0 p = p % 256 % 2 := by
  show (0 : Int) % 256 * 2 % 256 + p % 256 % 2 = _
  omega
def SumC (bs : List Int) (M0 : Nat → Int) (V C : Int) (M : Nat → Nat → Int) (A P : Nat → Int) (q cy k : Nat → Nat) : Prop :=
  (M 0 = M0 ∧ A 0 = 0 ∧ P 0 = 0 ∧ q 0 = 1024 ∧ cy 0 = 0) ∧ (∀ i, i < 8 → Goes bs Yp (M i) (A i) 0 0 255 (P i) (q i) false 0 (M (i + 1)) (A (i + 1)) 0 0 255 (P (i + 1)) (q (i + 1)) false 0 (k i : Int) ∧ cy (i + 1) = cy i + k i ∧ cy i ≤ 24) ∧ q 8 = 1037 ∧ cy 8 = 24 ∧ M 8 2 = V ∧ M 8 3 = C
theorem sum_chain (bs : List Int) {M0 : Nat → Int} {a b dd : Int} {m0 : Nat} (ha : IsByte a) (hb : IsByte b) (hd : (m0 = 216 ∧ dd = 0) ∨ (m0 = 248 ∧ dd = 8))
    (hC : (M0 1024 = (m0 : Int)) ∧ (M0 1025 = ((24 : Nat) : Int)) ∧ (M0 1026 = ((165 : Nat) : Int) ∧ M0 1027 = ((0 : Nat) : Int)) ∧ (M0 1028 = ((101 : Nat) : Int) ∧ M0 1029 = ((1 : Nat) : Int)) ∧ (M0 1030 = ((133 : Nat) : Int) ∧ M0 1031 = ((2 : Nat) : Int)) ∧ (M0 1032 = ((169 : Nat) : Int) ∧ M0 1033 = ((0 : Nat) : Int)) ∧ M0 1034 = ((42 : Nat) : Int) ∧ (M0 1035 = ((133 : Nat) : Int) ∧ M0 1036 = ((3 : Nat) : Int)) ∧ M0 0 = a ∧ M0 1 = b) :
    ∃ M A P q cy k, SumC bs M0 (doOf 3 a b dd).1 ((doOf 3 a b dd).2 % 2) M A P q cy k := by
  obtain ⟨C0, C1, ⟨C2, C2'⟩, ⟨C3, C3'⟩, ⟨C4, C4'⟩, ⟨C5, C5'⟩, C6, ⟨C7, C7'⟩, CA, CB⟩ := hC
  have dB : IsByte dd := by rcases hd with ⟨_, rfl⟩ | ⟨_, rfl⟩ <;> exact ⟨by decide, by decide⟩
  have G0 : Goes bs Yp M0 0 0 0 255 0 1024 false 0 M0 0 0 0 255 dd 1025 false 0 ((2 : Nat) : Int) := by
    rcases hd with ⟨rfl, rfl⟩ | ⟨rfl, rfl⟩
    · have k := s_cld (bs := bs) (a := 0) (p := 0) zB zB C0
      rwa [show anP (anP 0 32) 8 = 0 by unfold anP; decide +kernel] at k
    · have k := s_sed (bs := bs) (a := 0) (p := 0) zB zB C0
      rwa [show orP (anP 0 32) 8 = 8 by unfold orP anP; decide +kernel] at k
  have G1 : Goes bs Yp M0 0 0 0 255 dd 1025 false 0 M0 0 0 0 255 dd 1026 false 0 ((2 : Nat) : Int) := by
    have k := s_clc (bs := bs) (a := 0) zB dB C1
    rcases hd with ⟨_, rfl⟩ | ⟨_, rfl⟩
    · rwa [show anP (anP 0 32) 1 = 0 by unfold anP; decide +kernel] at k
    · rwa [show anP (anP 8 32) 1 = 8 by unfold anP; decide +kernel] at k
  have G2 : Goes bs Yp M0 0 0 0 255 dd 1026 false 0 M0 a 0 0 255 (nzOf (anP dd 32) a) 1028 false 0 ((4 : Nat) : Int) := by
    have k := s_lda (bs := bs) (a := 0) zB dB C2 C2'
    rwa [CA] at k
  obtain ⟨P3, hP3⟩ : ∃ P3, P3 = nzOf (anP dd 32) a := ⟨_, rfl⟩
  have B3 : IsByte P3 := by rw [hP3]; exact nzOf_byte _ _
  have t3 : hasF P3 32 = false := by rw [hP3]; exact no_t dB
  have m3 : P3 % 2 = dd % 2 ∧ P3 / 8 % 2 = dd / 8 % 2 := by
    have e := nz_bits (anP dd 32) a
    have e2 := (an32 dB).1
    rw [hP3]
    omega
  rw [← hP3] at G2
  have G3 : Goes bs Yp M0 a 0 0 255 P3 1028 false 0 M0 (rkV 3 a b (anP P3 32)) 0 0 255 (rkP 3 a b (anP P3 32)) 1030 false 0 ((4 : Nat) : Int) := by
    have k := s_adc (bs := bs) ha B3 C3 C3' t3
    rwa [CB] at k
  obtain ⟨A4, hA4⟩ : ∃ A4, A4 = rkV 3 a b (anP P3 32) := ⟨_, rfl⟩
  obtain ⟨P4, hP4⟩ : ∃ P4, P4 = rkP 3 a b (anP P3 32) := ⟨_, rfl⟩
  have A4B : IsByte A4 := by rw [hA4]; exact (rk_in _ _ _ _).1
  have P4B : IsByte P4 := by rw [hP4]; exact (rk_in _ _ _ _).2
  rw [← hA4, ← hP4] at G3
  have key : A4 = (doOf 3 a b dd).1 ∧ P4 % 2 = (doOf 3 a b dd).2 % 2 := by
    have e := an32 B3
    have l := adc_like (a := a) (m := b) (p := anP P3 32) (p' := dd) (by omega) (by omega)
    have ea : a % 256 = a := by have := ha.1; have := ha.2; omega
    have eb : b % 256 = b := by have := hb.1; have := hb.2; omega
    have ep : anP P3 32 % 256 = anP P3 32 := by omega
    rw [hA4, hP4]
    unfold rkV rkP
    rw [ea, eb, ep]
    exact l
  have G4 : Goes bs Yp M0 A4 0 0 255 P4 1030 false 0 (up M0 2 (A4 % 256)) A4 0 0 255 (anP P4 32) 1032 false 0 ((4 : Nat) : Int) := s_sta A4B P4B (by decide) (by decide) C4 C4'
  have fr : ∀ j, j ≠ 2 → up M0 2 (A4 % 256) j = M0 j := fun j hj => by simp [up, hj]
  have P5B := isB_an P4B
  have G5 : Goes bs Yp (up M0 2 (A4 % 256)) A4 0 0 255 (anP P4 32) 1032 false 0 (up M0 2 (A4 % 256)) ((0 : Nat) : Int) 0 0 255 (nzOf (anP (anP P4 32) 32) ((0 : Nat) : Int)) 1034 false 0 ((2 : Nat) : Int) :=
    s_ldi A4B P5B (by rw [fr _ (by decide)]; exact C5) (by rw [fr _ (by decide)]; exact C5')
  obtain ⟨P6, hP6⟩ : ∃ P6, P6 = nzOf (anP (anP P4 32) 32) ((0 : Nat) : Int) := ⟨_, rfl⟩
  have B6 : IsByte P6 := by rw [hP6]; exact nzOf_byte _ _
  have m6 : P6 % 2 = P4 % 2 := by
    have e := nz_bits (anP (anP P4 32) 32) ((0 : Nat) : Int)
    have e2 := (an32 P5B).1
    have e3 := (an32 P4B).1
    rw [hP6]
    omega
  rw [← hP6] at G5
  have G6 : Goes bs Yp (up M0 2 (A4 % 256)) ((0 : Nat) : Int) 0 0 255 P6 1034 false 0 (up M0 2 (A4 % 256)) (rkV 10 0 0 (anP P6 32)) 0 0 255 (rkP 10 0 0 (anP P6 32)) 1035 false 0 ((2 : Nat) : Int) :=
    s_rol zB B6 (by rw [fr _ (by decide)]; exact C6)
  obtain ⟨P7, hP7⟩ : ∃ P7, P7 = rkP 10 0 0 (anP P6 32) := ⟨_, rfl⟩
  have P7B : IsByte P7 := by rw [hP7]; exact (rk_in _ _ _ _).2
  have e7 : rkV 10 0 0 (anP P6 32) = P4 % 2 := by
    have e := an32 B6
    rw [rol_c]
    omega
  rw [← hP7, e7] at G6
  have A7B : IsByte (P4 % 2) := ⟨by omega, by omega⟩
  have G7 : Goes bs Yp (up M0 2 (A4 % 256)) (P4 % 2) 0 0 255 P7 1035 false 0 (up (up M0 2 (A4 % 256)) 3 (P4 % 2 % 256)) (P4 % 2) 0 0 255 (anP P7 32) 1037 false 0 ((4 : Nat) : Int) :=
    s_sta A7B P7B (by decide) (by decide) (by rw [fr _ (by decide)]; exact C7) (by rw [fr _ (by decide)]; exact C7')
  refine ⟨fun i => [M0, M0, M0, M0, M0, up M0 2 (A4 % 256), up M0 2 (A4 % 256), up M0 2 (A4 % 256), up (up M0 2 (A4 % 256)) 3 (P4 % 2 % 256)].getD i M0, fun i => [0, 0, 0, a, A4, A4, ((0 : Nat) : Int), P4 % 2, P4 % 2].getD i 0, fun i => [0, dd, dd, P3, P4, anP P4 32, P6, P7, anP P7 32].getD i 0, fun i => [1024, 1025, 1026, 1028, 1030, 1032, 1034, 1035, 1037].getD i 0, fun i => [0, 2, 4, 8, 12, 16, 18, 20, 24].getD i 0, fun i => [2, 2, 4, 4, 4, 2, 2, 4].getD i 0, ⟨rfl, rfl, rfl, rfl, rfl⟩, ?_, rfl, rfl, ?_, ?_⟩
  · intro i hi
    rcases i with _ | _ | _ | _ | _ | _ | _ | _ | i
    · exact ⟨G0, rfl, by decide⟩
    · exact ⟨G1, rfl, by decide⟩
    · exact ⟨G2, rfl, by decide⟩
    · exact ⟨G3, rfl, by decide⟩
    · exact ⟨G4, rfl, by decide⟩
    · exact ⟨G5, rfl, by decide⟩
    · exact ⟨G6, rfl, by decide⟩
    · exact ⟨G7, rfl, by decide⟩
    · omega
  · show up (up M0 2 (A4 % 256)) 3 (P4 % 2 % 256) 2 = _
    rw [← key.1]
    have := A4B.1
    have := A4B.2
    simp [up]
    omega
  · show up (up M0 2 (A4 % 256)) 3 (P4 % 2 % 256) 3 = _
    rw [← key.2]
    simp [up]
    omega
theorem bcd_u8 {x : Int} (h : 0 ≤ x ∧ x < 100) : bits .and .u8 (bcdOf x) 15 = x % 10 ∧ bcdOf x / 16 = x / 10 := by
  refine ⟨?_, by unfold bcdOf; omega⟩
  have k := fin_of (P := fun a => bits .and .u8 a 15 = a % 16) (by decide +kernel) (bcd_byte h)
  rw [k]
  unfold bcdOf
  omega
theorem or_bcd {n : Int} (h : 0 ≤ n ∧ n < 200) : bits .or .i64 (bits .or .i64 (n / 100 * 256) (n % 100 / 10 * 16)) (n % 10) = n / 100 * 256 + bcdOf (n % 100) := by
  rw [or_add 8 (n / 100 * 256) (n % 100 / 10 * 16) (by omega) (by omega) (by omega) (by omega) (by omega) (by omega), or_add 4 _ (n % 10) (by omega) (by omega) (by omega) (by omega) (by omega) (by omega)]
  unfold bcdOf
  omega
set_option maxHeartbeats 2000000 in
theorem cpuSums_walk (a0 a1 : Int) (a2 : Bool) (W : World) (w0 : (Lit.int .u8 a0).wf = true) (w1 : (Lit.int .u8 a1).wf = true) (hL : Tabs W ∧ HasErr W ∧ CT W) :
    Calls Tryz.prog 4 #[.int .u8 a0, .int .u8 a1, .bool a2] W fun e w' => e = .returned (.bool true) ∧ Below W.heap.size W w' := by
  obtain ⟨s0, s1⟩ := u8_range w0
  obtain ⟨t0, t1⟩ := u8_range w1
  have HL := hide hL
  clear hL w0 w1
  cases a2
  · set_option maxRecDepth 20000 in
    go_enter Tryz.func4, Tryz.ntmps4
    go_wp2_with fail
    have AB : Hid (IsByte a0) := hide ⟨s0, by omega⟩
    have BB : Hid (IsByte a1) := hide ⟨t0, by omega⟩
    have EV : Hid ((doOf 3 a0 a1 0).1 = (a0 + a1) % 256 ∧ (doOf 3 a0 a1 0).2 % 2 = (a0 + a1) / 256) := hide (by
      obtain ⟨q, e1, e2⟩ := add_two AB.out BB.out (c := 0) (by decide)
      rw [e1, Int.add_zero] at *
      exact ⟨rfl, e2⟩)
    have eA : bits .and .i64 (a0 + a1) 255 = (a0 + a1) % 256 := and_255 _
    obtain ⟨wa, hwa⟩ : ∃ wa, (W.alloc (.cells (([216, 24, 165, 0, 101, 1, 133, 2, 169, 0, 42, 133, 3] : List Int).map (Value.int .u8)).toArray 5)).alloc (.cells (([a0, a1] : List Int).map (Value.int .u8)).toArray 5) = wa := ⟨_, rfl⟩
    have hwb := hwa
    simp only [List.map_cons, List.map_nil] at hwb
    rw [hwb]
    clear hwb
    have B0 := hide (show Below W.heap.size W wa by rw [← hwa]; exact ((Below.refl _ W).alloc (Nat.le_refl _) _).alloc (by simp) _)
    have SL := hide (show SlB wa (some ⟨W.heap.size, 0, none⟩) 13 (fun i => [216, 24, 165, 0, 101, 1, 133, 2, 169, 0, 42, 133, 3].getD i 0) from lit_slb (l := [216, 24, 165, 0, 101, 1, 133, 2, 169, 0, 42, 133, 3]) (by rw [← hwa, heap_alloc_old _ _ (by simp)]; exact heap_alloc_new _ _) (show 13 ≤ 9223372036854775807 by decide) (fun y hy => by simp only [List.mem_cons, List.not_mem_nil, or_false] at hy; omega))
    have SM := hide (show SlB wa (some ⟨W.heap.size + 1, 0, none⟩) 2 (fun i => [a0, a1].getD i 0) from lit_slb (l := [a0, a1]) (by
      have k := heap_alloc_new (W.alloc (.cells (([216, 24, 165, 0, 101, 1, 133, 2, 169, 0, 42, 133, 3] : List Int).map (Value.int .u8)).toArray 5)) (.cells (([a0, a1] : List Int).map (Value.int .u8)).toArray 5)
      rw [show (W.alloc (.cells (([216, 24, 165, 0, 101, 1, 133, 2, 169, 0, 42, 133, 3] : List Int).map (Value.int .u8)).toArray 5)).heap.size = W.heap.size + 1 by simp] at k
      rw [← hwa]
      exact k) (show 2 ≤ 9223372036854775807 by decide) (fun y hy => by simp only [List.mem_cons, List.not_mem_nil, or_false] at hy; have := AB.out.1; have := AB.out.2; have := BB.out.1; have := BB.out.2; omega))
    clear hwa
    refine (put_is ⟨HL.out.1.next B0.out, HL.out.2.1.next B0.out, HL.out.2.2.next B0.out⟩ SL.out SM.out (by decide) (by decide)).mono ?_
    rintro e w1 ⟨b1, v, c, d, bs, rfl, hc, ⟨lb, lv⟩, bw⟩
    have H1 := hide hc
    have B1 := hide (bnext B0.out bw)
    have LB := hide (show W.heap.size ≤ b1 ∧ W.heap.size ≤ v by have := B0.out.size; omega)
    clear hc lb lv bw SL SM B0 HL
    obtain ⟨M0, hM⟩ : ∃ M, M = putM (fun i => [216, 24, 165, 0, 101, 1, 133, 2, 169, 0, 42, 133, 3].getD i 0) (fun i => [a0, a1].getD i 0) 13 2 := ⟨_, rfl⟩
    rw [← hM] at H1
    obtain ⟨M, A, P, q, cy, k, hCC⟩ := sum_chain bs (M0 := M0) (m0 := 216) (dd := 0) AB.out BB.out (by first | exact .inl ⟨rfl, rfl⟩ | exact .inr ⟨rfl, rfl⟩) (by rw [hM]; exact ⟨rfl, rfl, ⟨rfl, rfl⟩, ⟨rfl, rfl⟩, ⟨rfl, rfl⟩, ⟨rfl, rfl⟩, rfl, ⟨rfl, rfl⟩, rfl, rfl⟩)
    clear hM
    rw [EV.out.1, EV.out.2] at hCC
    have CC := hide hCC
    clear hCC
    have S0 := hide (st_first H1.out B1.out LB.out #[.int .i64 0, .int .i64 0, .int .i64 0, .int .i64 0, .int .i64 0, .int .i64 0, .bool false, .int .i64 0])
    clear H1 B1 LB
    obtain ⟨g, hg⟩ : ∃ g, g = w1.heap.size := ⟨_, rfl⟩
    rw [← hg] at S0
    go_wp2_with (first
      | (rw [← hg]; clear hg; refine store_core rfl (.tmp 9) (.tmp 38) rfl S0.out rfl rfl _ rfl rfl (by kernel_rfl) ?_; intro x0 h2; have S2 := hide h2; clear h2 S0))
    have S5 : Hid (St W x0 b1 v c d g bs (M 0) #[.int .i64 (A 0), .int .i64 0, .int .i64 0, .int .i64 255, .int .i64 (P 0), .int .i64 (8192 + (q 0 : Int)), .bool false, .int .i64 0]) := hide (by
      have E0 := CC.out.1
      rw [E0.1, E0.2.1, E0.2.2.1, E0.2.2.2.1]
      exact S2.out)
    clear S2
    go_loopw [10, 11, 12] (fun v10 v11 v12 wr => ∃ (t : Nat), t ≤ 8 ∧ v11 = .int .i64 (t : Int) ∧ v10 = .int .i64 (cy t : Int) ∧ St W wr b1 v c d g bs (M t) #[.int .i64 (A t), .int .i64 0, .int .i64 0, .int .i64 255, .int .i64 (P t), .int .i64 (8192 + (q t : Int)), .bool false, .int .i64 0]) (fun _ v11 _ _ => 8 - (intOf v11).toNat)
    case atStart => exact ⟨0, Nat.zero_le _, rfl, by rw [CC.out.1.2.2.2.2]; rfl, S5.out⟩
    case round =>
      clear S5
      obtain ⟨t, ht, rfl, rfl, hS⟩ := hrel
      have S6 := hide hS
      clear hS
      by_cases hlt : t < 8
      · obtain ⟨hG, hcy, hle⟩ := CC.out.2.1 t hlt
        have G6 := hide hG
        have k2 : wrap64 ((cy t : Int) + (k t : Int)) = ((cy (t + 1) : Nat) : Int) := by
          have l2 : cy (t + 1) ≤ 24 := by
            by_cases e7 : t = 7
            · subst e7; have := CC.out.2.2.2.1; show cy 8 ≤ 24; omega
            · exact (CC.out.2.1 (t + 1) (by omega)).2.2
          unfold wrap64
          omega
        clear hG
        have HC := hide hcy
        have HLE := hide hle
        clear hcy hle
        go_wp2_with (first
          | (refine load_core rfl (.tmp 9) rfl S6.out rfl rfl ?_)
          | (go_at_call 13; refine (st_step S6.out G6.out).mono ?_; rintro e w4 ⟨rfl, h4⟩; have S7 := hide h4; clear h4 S6 G6)
          | (refine store_core rfl (.tmp 9) (.tmp 49) rfl S7.out rfl rfl _ rfl rfl (by kernel_rfl) ?_; intro w5 h5; have S8 := hide h5; clear h5 S7))
        go_roundw
        case rel => exact ⟨t + 1, by omega, by go_num, by first | rw [k2] | rfl | go_num, S8.out⟩
        case measure => simp [intOf]; omega
      · obtain rfl : t = 8 := by omega
        have E := CC.out.2.2
        have c2 := S6.out.get 2 (by decide)
        have c3 := S6.out.get 3 (by decide)
        have r5 := S6.out.reg 5 rfl
        rw [E.2.2.1] at c2
        rw [E.2.2.2] at c3
        rw [E.1] at r5
        have ec := E.2.1
        have g6 := S6.out.ltg
        have l6 := S6.out.lt
        rw [ec]
        clear E CC ec
        go_wp2_with fail
        all_goals first | (go_ret; exact ⟨rfl, S6.out.below⟩) | (exfalso; simp_all; done) | (exfalso; omega) | trace_state
  · set_option maxRecDepth 20000 in
    go_enter Tryz.func4, Tryz.ntmps4
    go_wp2_with fail
    obtain ⟨x, hx⟩ : ∃ x, x = a0 % 100 := ⟨_, rfl⟩
    obtain ⟨y, hy⟩ : ∃ y, y = a1 % 100 := ⟨_, rfl⟩
    have x0 : 0 ≤ x ∧ x < 100 := by omega
    have y0 : 0 ≤ y ∧ y < 100 := by omega
    obtain ⟨a, ha⟩ : ∃ a, a0 % 100 / 10 * 16 + a0 % 10 = a := ⟨_, rfl⟩
    obtain ⟨b, hb⟩ : ∃ b, a1 % 100 / 10 * 16 + a1 % 10 = b := ⟨_, rfl⟩
    have ax : a = bcdOf x := by rw [← ha, hx]; unfold bcdOf; omega
    have bY : b = bcdOf y := by rw [← hb, hy]; unfold bcdOf; omega
    simp only [ha, hb]
    have AB : Hid (IsByte a) := hide (by rw [ax]; exact bcd_byte x0)
    have BB : Hid (IsByte b) := hide (by rw [bY]; exact bcd_byte y0)
    obtain ⟨n, hn⟩ : ∃ n, n = x + y := ⟨_, rfl⟩
    have n0 : 0 ≤ n ∧ n < 200 := by omega
    obtain ⟨V, hV⟩ : ∃ V, V = bcdOf (n % 100) := ⟨_, rfl⟩
    obtain ⟨C, hC⟩ : ∃ C, C = n / 100 := ⟨_, rfl⟩
    have EV : Hid ((doOf 3 a b 8).1 = V ∧ (doOf 3 a b 8).2 % 2 = C) := hide (by
      obtain ⟨q, e1, e2⟩ := add_ten x0 y0 (c := 0) (by decide)
      rw [← ax, ← bY, Int.add_zero, Int.add_zero, ← hn, ← hV] at e1
      rw [Int.add_zero, ← hn] at e2
      rw [e1]
      refine ⟨rfl, ?_⟩
      rw [e2, hC]
      by_cases h9 : 99 < n
      · rw [b01_yes h9]; omega
      · rw [b01_no h9]; omega)
    obtain ⟨T, hT⟩ : ∃ T, bits .or .i64 (bits .or .i64 (n / 100 * 256) (n % 100 / 10 * 16)) (n % 10) = T := ⟨_, rfl⟩
    have eT : T = C * 256 + V := by rw [← hT, or_bcd n0, hC, hV]
    have vB : 0 ≤ V ∧ V < 256 := by rw [hV]; unfold bcdOf; omega
    have eA : bits .and .i64 T 255 = V := by rw [and_255, eT]; omega
    have eC : T / 256 = C := by rw [eT]; omega
    obtain ⟨x1, hx1⟩ : ∃ x1, a / 16 = x1 := ⟨_, rfl⟩
    obtain ⟨y1, hy1⟩ : ∃ y1, b / 16 = y1 := ⟨_, rfl⟩
    obtain ⟨x2, hx2⟩ : ∃ x2, bits .and .u8 a 15 = x2 := ⟨_, rfl⟩
    obtain ⟨y2, hy2⟩ : ∃ y2, bits .and .u8 b 15 = y2 := ⟨_, rfl⟩
    have q1 := bcd_u8 x0
    have q2 := bcd_u8 y0
    rw [← ax, hx1, hx2] at q1
    rw [← bY, hy1, hy2] at q2
    have eN : x1 * 10 + x2 + y1 * 10 + y2 = n := by omega
    have bx : (0 ≤ x1 ∧ x1 < 10) ∧ (0 ≤ x2 ∧ x2 < 10) ∧ (0 ≤ y1 ∧ y1 < 10) ∧ (0 ≤ y2 ∧ y2 < 10) := by omega
    have tB : 0 ≤ T ∧ T < 512 := by omega
    clear ax bY ha hb hx hy hn hV hC eT q1 q2 s0 s1 t0 t1 x0 y0
    obtain ⟨wa, hwa⟩ : ∃ wa, (W.alloc (.cells (([248, 24, 165, 0, 101, 1, 133, 2, 169, 0, 42, 133, 3] : List Int).map (Value.int .u8)).toArray 5)).alloc (.cells (([a, b] : List Int).map (Value.int .u8)).toArray 5) = wa := ⟨_, rfl⟩
    have hwb := hwa
    simp only [List.map_cons, List.map_nil] at hwb
    rw [hwb]
    clear hwb
    have B0 := hide (show Below W.heap.size W wa by rw [← hwa]; exact ((Below.refl _ W).alloc (Nat.le_refl _) _).alloc (by simp) _)
    have SL := hide (show SlB wa (some ⟨W.heap.size, 0, none⟩) 13 (fun i => [248, 24, 165, 0, 101, 1, 133, 2, 169, 0, 42, 133, 3].getD i 0) from lit_slb (l := [248, 24, 165, 0, 101, 1, 133, 2, 169, 0, 42, 133, 3]) (by rw [← hwa, heap_alloc_old _ _ (by simp)]; exact heap_alloc_new _ _) (show 13 ≤ 9223372036854775807 by decide) (fun y hy => by simp only [List.mem_cons, List.not_mem_nil, or_false] at hy; omega))
    have SM := hide (show SlB wa (some ⟨W.heap.size + 1, 0, none⟩) 2 (fun i => [a, b].getD i 0) from lit_slb (l := [a, b]) (by
      have k := heap_alloc_new (W.alloc (.cells (([248, 24, 165, 0, 101, 1, 133, 2, 169, 0, 42, 133, 3] : List Int).map (Value.int .u8)).toArray 5)) (.cells (([a, b] : List Int).map (Value.int .u8)).toArray 5)
      rw [show (W.alloc (.cells (([248, 24, 165, 0, 101, 1, 133, 2, 169, 0, 42, 133, 3] : List Int).map (Value.int .u8)).toArray 5)).heap.size = W.heap.size + 1 by simp] at k
      rw [← hwa]
      exact k) (show 2 ≤ 9223372036854775807 by decide) (fun y hy => by simp only [List.mem_cons, List.not_mem_nil, or_false] at hy; have := AB.out.1; have := AB.out.2; have := BB.out.1; have := BB.out.2; omega))
    clear hwa
    refine (put_is ⟨HL.out.1.next B0.out, HL.out.2.1.next B0.out, HL.out.2.2.next B0.out⟩ SL.out SM.out (by decide) (by decide)).mono ?_
    rintro e w1 ⟨b1, v, c, d, bs, rfl, hc, ⟨lb, lv⟩, bw⟩
    have H1 := hide hc
    have B1 := hide (bnext B0.out bw)
    have LB := hide (show W.heap.size ≤ b1 ∧ W.heap.size ≤ v by have := B0.out.size; omega)
    clear hc lb lv bw SL SM B0 HL
    obtain ⟨M0, hM⟩ : ∃ M, M = putM (fun i => [248, 24, 165, 0, 101, 1, 133, 2, 169, 0, 42, 133, 3].getD i 0) (fun i => [a, b].getD i 0) 13 2 := ⟨_, rfl⟩
    rw [← hM] at H1
    obtain ⟨M, A, P, q, cy, k, hCC⟩ := sum_chain bs (M0 := M0) (m0 := 248) (dd := 8) AB.out BB.out (by first | exact .inl ⟨rfl, rfl⟩ | exact .inr ⟨rfl, rfl⟩) (by rw [hM]; exact ⟨rfl, rfl, ⟨rfl, rfl⟩, ⟨rfl, rfl⟩, ⟨rfl, rfl⟩, ⟨rfl, rfl⟩, rfl, ⟨rfl, rfl⟩, rfl, rfl⟩)
    clear hM
    rw [EV.out.1, EV.out.2] at hCC
    have CC := hide hCC
    clear hCC
    have S0 := hide (st_first H1.out B1.out LB.out #[.int .i64 0, .int .i64 0, .int .i64 0, .int .i64 0, .int .i64 0, .int .i64 0, .bool false, .int .i64 0])
    clear H1 B1 LB
    obtain ⟨g, hg⟩ : ∃ g, g = w1.heap.size := ⟨_, rfl⟩
    rw [← hg] at S0
    go_wp2_with (first
      | (rw [← hg]; clear hg; refine store_core rfl (.tmp 9) (.tmp 38) rfl S0.out rfl rfl _ rfl rfl (by kernel_rfl) ?_; intro x0 h2; have S2 := hide h2; clear h2 S0))
    have S5 : Hid (St W x0 b1 v c d g bs (M 0) #[.int .i64 (A 0), .int .i64 0, .int .i64 0, .int .i64 255, .int .i64 (P 0), .int .i64 (8192 + (q 0 : Int)), .bool false, .int .i64 0]) := hide (by
      have E0 := CC.out.1
      rw [E0.1, E0.2.1, E0.2.2.1, E0.2.2.2.1]
      exact S2.out)
    clear S2
    go_loopw [10, 11, 12] (fun v10 v11 v12 wr => ∃ (t : Nat), t ≤ 8 ∧ v11 = .int .i64 (t : Int) ∧ v10 = .int .i64 (cy t : Int) ∧ St W wr b1 v c d g bs (M t) #[.int .i64 (A t), .int .i64 0, .int .i64 0, .int .i64 255, .int .i64 (P t), .int .i64 (8192 + (q t : Int)), .bool false, .int .i64 0]) (fun _ v11 _ _ => 8 - (intOf v11).toNat)
    case atStart => exact ⟨0, Nat.zero_le _, rfl, by rw [CC.out.1.2.2.2.2]; rfl, S5.out⟩
    case round =>
      clear S5
      obtain ⟨t, ht, rfl, rfl, hS⟩ := hrel
      have S6 := hide hS
      clear hS
      by_cases hlt : t < 8
      · obtain ⟨hG, hcy, hle⟩ := CC.out.2.1 t hlt
        have G6 := hide hG
        have k2 : wrap64 ((cy t : Int) + (k t : Int)) = ((cy (t + 1) : Nat) : Int) := by
          have l2 : cy (t + 1) ≤ 24 := by
            by_cases e7 : t = 7
            · subst e7; have := CC.out.2.2.2.1; show cy 8 ≤ 24; omega
            · exact (CC.out.2.1 (t + 1) (by omega)).2.2
          unfold wrap64
          omega
        clear hG
        have HC := hide hcy
        have HLE := hide hle
        clear hcy hle
        go_wp2_with (first
          | (refine load_core rfl (.tmp 9) rfl S6.out rfl rfl ?_)
          | (go_at_call 13; refine (st_step S6.out G6.out).mono ?_; rintro e w4 ⟨rfl, h4⟩; have S7 := hide h4; clear h4 S6 G6)
          | (refine store_core rfl (.tmp 9) (.tmp 49) rfl S7.out rfl rfl _ rfl rfl (by kernel_rfl) ?_; intro w5 h5; have S8 := hide h5; clear h5 S7))
        go_roundw
        case rel => exact ⟨t + 1, by omega, by go_num, by first | rw [k2] | rfl | go_num, S8.out⟩
        case measure => simp [intOf]; omega
      · obtain rfl : t = 8 := by omega
        have E := CC.out.2.2
        have c2 := S6.out.get 2 (by decide)
        have c3 := S6.out.get 3 (by decide)
        have r5 := S6.out.reg 5 rfl
        rw [E.2.2.1] at c2
        rw [E.2.2.2] at c3
        rw [E.1] at r5
        have ec := E.2.1
        have g6 := S6.out.ltg
        have l6 := S6.out.lt
        rw [ec]
        clear E CC ec
        go_wp2_with fail
        all_goals first | (go_ret; exact ⟨rfl, S6.out.below⟩) | (exfalso; simp_all; done) | (exfalso; omega) | trace_state
end Go.Proofs.YtoijhhbiknhlnaaGreatDoor
