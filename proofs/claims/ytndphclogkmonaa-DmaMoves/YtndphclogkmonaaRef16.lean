/- The document's own Move. -/
import Derived.Test.YtndphclogkmonaaRef13
import Derived.Test.YtndphclogkmonaaDma16
namespace Go.Proofs.Ytndphclogkmonaa
open Go.RowKit
set_option linter.unusedVariables false

theorem on_is (r c k S x : Int) (hS : farOf c k = S) (h0 : 0 ≤ r) (h1 : r < 65536) (hx : (r + S) % 65536 = x) (w : World) : Calls Try.prog 20 #[.int .i64 r, .int .i64 c, .int .i64 k] w fun e w' => e = .returned (.int .i64 x) ∧ w' = w := by
  have HB := hide (rbit_any c k)
  unfold farOf at hS
  rcases bitOf_two c k with hb | hb
  · rw [hb] at HB hS
    obtain rfl : S = 1 := by omega
    go_enter Try.func20, Try.ntmps20
    go_wp2_with (first | (go_at_call 25; refine (HB.out _).mono ?_; rintro e w' ⟨rfl, hw⟩; subst w') | (go_at_call 18; refine (rword_any _ _).mono ?_; rintro e w' ⟨rfl, hw⟩; subst w'))
    go_ret
    exact ⟨rfl, rfl⟩
  · rw [hb] at HB hS
    obtain rfl : S = -1 := by omega
    go_enter Try.func20, Try.ntmps20
    go_wp2_with (first | (go_at_call 25; refine (HB.out _).mono ?_; rintro e w' ⟨rfl, hw⟩; subst w') | (go_at_call 18; refine (rword_any _ _).mono ?_; rintro e w' ⟨rfl, hw⟩; subst w'))
    go_ret
    exact ⟨ret_int (by omega), rfl⟩
set_option maxHeartbeats 1000000 in
theorem rmove_is (c d : Nat) (f : Nat → Int) (wr rd st lo bu : Int) (w : World) (h : HasR w c d f wr rd st lo bu) (e0 e1 n k A S B T X Y : Int) (N : Nat) (F : Nat → Int) (hA : e0 % 65536 = A) (hB : e1 % 65536 = B) (hS : farOf k 2 = S) (hT : farOf k 3 = T) (hN : n % 65536 + 1 = (N : Int)) (hX : placeAt A S N = X) (hY : placeAt B T N = Y) (hF : mvTo f A S B T N = F) :
    Calls Try.prog 12 #[.pointer (some ⟨c, 0, none⟩), .int .i64 e0, .int .i64 e1, .int .i64 n, .int .i64 k] w fun e w' => e = .returned (.tuple #[.int .i64 X, .int .i64 Y]) ∧ HasR w' c d F wr rd st lo bu ∧ Only2 c d w w' := by
  have H := hide h
  have HS := hide hS
  have HT := hide hT
  have HX := hide hX
  have HY := hide hY
  have HF := hide hF
  have hN1 : (N : Int) ≤ 65536 := by omega
  have A0 : 0 ≤ A := by omega
  have A1 : A < 65536 := by omega
  have B0 : 0 ≤ B := by omega
  have B1 : B < 65536 := by omega
  clear h hS hT hX hY hF
  have P0 := hide (placeAt_zero A S A0 A1)
  have Q0 := hide (placeAt_zero B T B0 B1)
  go_enter Try.func12, Try.ntmps12
  go_wp2_with (first | (go_at_call 18; refine (rword_any _ _).mono ?_; rintro e w' ⟨rfl, hw⟩; subst w'))
  go_loopw [1, 2, 12] (fun s9 s10 si wv => ∃ (i : Nat), i ≤ N ∧ si = .int .i64 (i : Int) ∧ s9 = .int .i64 (placeAt A S i) ∧ s10 = .int .i64 (placeAt B T i) ∧ HasR wv c d (mvTo f A S B T i) wr rd st lo bu ∧ Only2 c d w wv) (fun _ _ si _ => N - (intOf si).toNat)
  case atStart => exact ⟨0, Nat.zero_le _, rfl, by rw [P0.out], by rw [Q0.out], H.out, Only2.refl _ _ _⟩
  case round =>
    obtain ⟨i, hi, rfl, rfl, rfl, hr, ho⟩ := hrel
    have RK := hide hr
    have OK := hide ho
    clear hr ho H P0 Q0
    by_cases hlt : i < N
    · have HN1 := hide (placeAt_next A S i)
      have HN2 := hide (placeAt_next B T i)
      have pa0 := placeAt_ge A S i
      have pa1 := placeAt_lt A S i
      have pb0 := placeAt_ge B T i
      have pb1 := placeAt_lt B T i
      have HM := hide (mvTo_next f A S B T i)
      obtain ⟨a, ha⟩ : ∃ a, placeAt A S i = a := ⟨_, rfl⟩
      obtain ⟨b, hb⟩ : ∃ b, placeAt B T i = b := ⟨_, rfl⟩
      rw [ha] at HN1 pa0 pa1 HM ⊢
      rw [hb] at HN2 pb0 pb1 HM ⊢
      clear ha hb
      go_wp2_with fail
      refine (rword_is c d _ _ _ _ _ _ _ RK.out a _ rfl).mono ?_
      rintro e w' ⟨rfl, hw⟩
      subst w'
      go_wp2_with fail
      refine (rpoke_is c d _ _ _ _ _ _ _ RK.out b _ _ HM.out).mono ?_
      rintro e w4 ⟨rfl, r4, o4⟩
      have R4 := hide r4
      have O4 := hide (OK.out.trans o4)
      clear r4 o4 RK OK
      go_wp2_with fail
      refine (on_is a k 2 S _ HS.out pa0 pa1 HN1.out _).mono ?_
      rintro e w' ⟨rfl, hw⟩
      subst w'
      go_wp2_with fail
      refine (on_is b k 3 T _ HT.out pb0 pb1 HN2.out _).mono ?_
      rintro e w' ⟨rfl, hw⟩
      subst w'
      go_wp2_with fail
      go_roundw
      case rel => exact ⟨i + 1, by omega, by go_num, rfl, rfl, R4.out, O4.out⟩
      case measure => simp [intOf]; omega
    · obtain rfl : i = N := by omega
      go_wp2_with fail
      go_ret2
      exact ⟨ret_two HX.out HY.out, by rw [← HF.out]; exact RK.out, OK.out⟩
end Go.Proofs.Ytndphclogkmonaa
