/- What each function of the document's answer for layer 2 returns: one contract a function. -/
import Derived.Test.YtjainjpfmmonbaaAluDo
namespace Go.Proofs.Ytjainjpfmmonbaa
open Go.RowKit
set_option linter.unusedVariables false

theorem rset_any (p f : Int) (on : Bool) (w : World) (hp : IsByte p) (hf : IsFlag f) :
    Calls Try.prog 24 #[.int .i64 p, .int .i64 f, .bool on] w fun e w' => e = .returned (.int .i64 (setOf p f on)) ∧ w' = w := by
  obtain ⟨h0, h1⟩ := hp
  rcases hf with rfl | rfl | rfl | rfl
  all_goals
    cases on
    all_goals
      go_enter Try.func24, Try.ntmps24
      go_wp2
      go_ret
      exact ⟨ret_int (by unfold setOf; simp), rfl⟩

theorem rnz_any (p b : Int) (w : World) :
    Calls Try.prog 12 #[.int .i64 p, .int .i64 b] w fun e w' => e = .returned (.int .i64 (nzOf p b)) ∧ w' = w := by
  go_enter Try.func12, Try.ntmps12
  go_wp2_with (first | (go_at_call 20; refine (rbyte_any _ _).mono ?_; rintro e w' ⟨rfl, rfl⟩) | (go_at_call 24; refine (rset_any _ _ _ _ (by repeat (first | assumption | exact isByte_mod _ | exact nzOf_byte _ _ | refine setOf_byte _ ?_ ?_ | (unfold IsFlag; omega))) (by unfold IsFlag; omega)).mono ?_; rintro e w' ⟨rfl, rfl⟩))
  go_ret
  exact ⟨rfl, rfl⟩

theorem rsign_any (b : Int) (w : World) (h : IsByte b) :
    Calls Try.prog 31 #[.int .i64 b] w fun e w' => e = .returned (.int .i64 (b / 128)) ∧ w' = w := by
  obtain ⟨h0, h1⟩ := h
  go_enter Try.func31, Try.ntmps31
  go_wp2
  go_ret
  exact ⟨rfl, rfl⟩

theorem rtwo_any (p m : Int) (w : World) (hp : IsByte p) (hm : IsByte m) :
    Calls Try.prog 25 #[.int .i64 p, .int .i64 m] w fun e w' => e = .returned (.int .i64 (setOf (setOf p 128 (decide (128 ≤ m))) 64 (decide (m / 64 % 2 = 1)))) ∧ w' = w := by
  obtain ⟨m0, m1⟩ := hm
  go_enter Try.func25, Try.ntmps25
  go_wp2_with (first | (go_at_call 24; refine (rset_any _ _ _ _ (by repeat (first | assumption | exact isByte_mod _ | exact nzOf_byte _ _ | refine setOf_byte _ ?_ ?_ | (unfold IsFlag; omega))) (by unfold IsFlag; omega)).mono ?_; rintro e w' ⟨rfl, rfl⟩))
  go_ret
  exact ⟨rfl, rfl⟩
/-- Bits one by one: how great the sum is by then. -/
theorem each_small (f : Int → Int → Int) (a m : Int) (hf : ∀ x y : Int, (x = 0 ∨ x = 1) → (y = 0 ∨ y = 1) → 0 ≤ f x y ∧ f x y ≤ 1) : ∀ k : Nat, 0 ≤ eachTo f a m k ∧ eachTo f a m k < 2 ^ k
  | 0 => by simp [eachTo]
  | k + 1 => by
    have ih := each_small f a m hf k
    have ha := bitOf_01 a k
    have hm := bitOf_01 m k
    have h := hf (bitOf a k) (bitOf m k) (by omega) (by omega)
    have e : (2 : Int) ^ (k + 1) = 2 ^ k * 2 := by rw [Int.pow_succ]
    have hv : f (bitOf a k) (bitOf m k) = 0 ∨ f (bitOf a k) (bitOf m k) = 1 := by omega
    simp only [eachTo, e]
    rcases hv with hv | hv <;> rw [hv] <;> omega
theorem f_or (x y : Int) (hx : x = 0 ∨ x = 1) (hy : y = 0 ∨ y = 1) : 0 ≤ x + y - x * y ∧ x + y - x * y ≤ 1 := by rcases hx with rfl | rfl <;> rcases hy with rfl | rfl <;> decide
theorem f_and (x y : Int) (hx : x = 0 ∨ x = 1) (hy : y = 0 ∨ y = 1) : 0 ≤ x * y ∧ x * y ≤ 1 := by rcases hx with rfl | rfl <;> rcases hy with rfl | rfl <;> decide
theorem f_xor (x y : Int) (hx : x = 0 ∨ x = 1) (hy : y = 0 ∨ y = 1) : 0 ≤ x + y - 2 * x * y ∧ x + y - 2 * x * y ≤ 1 := by rcases hx with rfl | rfl <;> rcases hy with rfl | rfl <;> decide
theorem f_two (x y : Int) (hx : x = 0 ∨ x = 1) (hy : y = 0 ∨ y = 1) : 0 ≤ 2 * x * y ∧ 2 * x * y ≤ 2 := by rcases hx with rfl | rfl <;> rcases hy with rfl | rfl <;> decide
theorem f_bic (x y : Int) (hx : x = 0 ∨ x = 1) (hy : y = 0 ∨ y = 1) : 0 ≤ y - x * y ∧ y - x * y ≤ 1 := by rcases hx with rfl | rfl <;> rcases hy with rfl | rfl <;> decide

theorem reach_0 (a m : Int) (w : World) (ha : IsByte a) (hm : IsByte m) :
    Calls Try.prog 21 #[.int .i64 0, .int .i64 a, .int .i64 m] w fun e w' => e = .returned (.int .i64 (orB a m)) ∧ w' = w := by
  have HE := hide (each_or ha hm)
  go_enter Try.func21, Try.ntmps21
  go_wp2
  go_loop [7, 8] (fun t i => ∃ k : Nat, k ≤ 8 ∧ i = .int .i64 k ∧ t = .int .i64 (eachTo (fun x y => x + y - x * y) a m k)) (fun _ i => 8 - (intOf i).toNat)
  case atStart => exact ⟨0, Nat.zero_le _, rfl, rfl⟩
  case round =>
    obtain ⟨k, hk, rfl, rfl⟩ := hrel
    have ho := each_small (fun x y => x + y - x * y) a m f_or k
    have hp : (2 : Int) ^ k ≤ 256 := by
      have h : (2 : Int) ^ k ≤ 2 ^ 8 := by exact_mod_cast Nat.pow_le_pow_right (n := 2) (by decide) hk
      omega
    have hp0 : (1 : Int) ≤ 2 ^ k := by exact_mod_cast Nat.two_pow_pos k
    have ho' : 0 ≤ eachTo (fun x y => x + y - x * y) a m k ∧ eachTo (fun x y => x + y - x * y) a m k ≤ 256 := by omega
    by_cases hlt : k < 8
    · have HS : Hid (eachTo (fun x y => x + y - x * y) a m (k + 1) = eachTo (fun x y => x + y - x * y) a m k + (fun x y => x + y - x * y) (bitOf a k) (bitOf m k) * 2 ^ k) := hide rfl
      have b1 := bitOf_01 a k
      have b2 := bitOf_01 m k
      have x1 : bitOf a k = 0 ∨ bitOf a k = 1 := by omega
      have x2 : bitOf m k = 0 ∨ bitOf m k = 1 := by omega
      have g1 := f_and _ _ x1 x2
      have g2 := f_or _ _ x1 x2
      have g3 := f_two _ _ x1 x2
      have cx := hide (rbit_any a k)
      have cy := hide (rbit_any m k)
      have cp := hide (fun w => power_any (k : Int) w (by omega) (by omega))
      have g4 : 0 ≤ ((bitOf a k) + (bitOf m k) - (bitOf a k) * (bitOf m k)) * 2 ^ k ∧ ((bitOf a k) + (bitOf m k) - (bitOf a k) * (bitOf m k)) * 2 ^ k ≤ 256 := by
        have : ((bitOf a k) + (bitOf m k) - (bitOf a k) * (bitOf m k)) = 0 ∨ ((bitOf a k) + (bitOf m k) - (bitOf a k) * (bitOf m k)) = 1 := by omega
        rcases this with h | h <;> rw [h] <;> omega
      clear x1 x2 ho
      simp only [Int.toNat_natCast] at cp
      generalize bitOf a k = x at *
      generalize bitOf m k = y at *
      generalize (2 : Int) ^ k = P at *
      generalize eachTo (fun x y => x + y - x * y) a m k = T at *
      go_wp2_with fail
      refine (cx.out _).mono ?_
      rintro e w' ⟨rfl, rfl⟩
      go_wp2_with fail
      refine (cy.out _).mono ?_
      rintro e w' ⟨rfl, rfl⟩
      go_wp2_with fail
      refine (cp.out _).mono ?_
      rintro e w' ⟨rfl, rfl⟩
      go_wp2_with fail
      go_round
      case rel => exact ⟨k + 1, by omega, by go_num, by rw [HS.out]⟩
      case measure => simp [intOf]; omega
    · obtain rfl : k = 8 := by omega
      go_wp2
      go_ret
      exact ⟨ret_int HE.out, rfl⟩

theorem reach_7 (a m : Int) (w : World) (ha : IsByte a) (hm : IsByte m) :
    Calls Try.prog 21 #[.int .i64 7, .int .i64 a, .int .i64 m] w fun e w' => e = .returned (.int .i64 (orB a m)) ∧ w' = w := by
  have HE := hide (each_or ha hm)
  go_enter Try.func21, Try.ntmps21
  go_wp2
  go_loop [7, 8] (fun t i => ∃ k : Nat, k ≤ 8 ∧ i = .int .i64 k ∧ t = .int .i64 (eachTo (fun x y => x + y - x * y) a m k)) (fun _ i => 8 - (intOf i).toNat)
  case atStart => exact ⟨0, Nat.zero_le _, rfl, rfl⟩
  case round =>
    obtain ⟨k, hk, rfl, rfl⟩ := hrel
    have ho := each_small (fun x y => x + y - x * y) a m f_or k
    have hp : (2 : Int) ^ k ≤ 256 := by
      have h : (2 : Int) ^ k ≤ 2 ^ 8 := by exact_mod_cast Nat.pow_le_pow_right (n := 2) (by decide) hk
      omega
    have hp0 : (1 : Int) ≤ 2 ^ k := by exact_mod_cast Nat.two_pow_pos k
    have ho' : 0 ≤ eachTo (fun x y => x + y - x * y) a m k ∧ eachTo (fun x y => x + y - x * y) a m k ≤ 256 := by omega
    by_cases hlt : k < 8
    · have HS : Hid (eachTo (fun x y => x + y - x * y) a m (k + 1) = eachTo (fun x y => x + y - x * y) a m k + (fun x y => x + y - x * y) (bitOf a k) (bitOf m k) * 2 ^ k) := hide rfl
      have b1 := bitOf_01 a k
      have b2 := bitOf_01 m k
      have x1 : bitOf a k = 0 ∨ bitOf a k = 1 := by omega
      have x2 : bitOf m k = 0 ∨ bitOf m k = 1 := by omega
      have g1 := f_and _ _ x1 x2
      have g2 := f_or _ _ x1 x2
      have g3 := f_two _ _ x1 x2
      have cx := hide (rbit_any a k)
      have cy := hide (rbit_any m k)
      have cp := hide (fun w => power_any (k : Int) w (by omega) (by omega))
      have g4 : 0 ≤ ((bitOf a k) + (bitOf m k) - (bitOf a k) * (bitOf m k)) * 2 ^ k ∧ ((bitOf a k) + (bitOf m k) - (bitOf a k) * (bitOf m k)) * 2 ^ k ≤ 256 := by
        have : ((bitOf a k) + (bitOf m k) - (bitOf a k) * (bitOf m k)) = 0 ∨ ((bitOf a k) + (bitOf m k) - (bitOf a k) * (bitOf m k)) = 1 := by omega
        rcases this with h | h <;> rw [h] <;> omega
      clear x1 x2 ho
      simp only [Int.toNat_natCast] at cp
      generalize bitOf a k = x at *
      generalize bitOf m k = y at *
      generalize (2 : Int) ^ k = P at *
      generalize eachTo (fun x y => x + y - x * y) a m k = T at *
      go_wp2_with fail
      refine (cx.out _).mono ?_
      rintro e w' ⟨rfl, rfl⟩
      go_wp2_with fail
      refine (cy.out _).mono ?_
      rintro e w' ⟨rfl, rfl⟩
      go_wp2_with fail
      refine (cp.out _).mono ?_
      rintro e w' ⟨rfl, rfl⟩
      go_wp2_with fail
      go_round
      case rel => exact ⟨k + 1, by omega, by go_num, by rw [HS.out]⟩
      case measure => simp [intOf]; omega
    · obtain rfl : k = 8 := by omega
      go_wp2
      go_ret
      exact ⟨ret_int HE.out, rfl⟩

theorem reach_1 (a m : Int) (w : World) (ha : IsByte a) (hm : IsByte m) :
    Calls Try.prog 21 #[.int .i64 1, .int .i64 a, .int .i64 m] w fun e w' => e = .returned (.int .i64 (andB a m)) ∧ w' = w := by
  have HE := hide (each_and ha hm)
  go_enter Try.func21, Try.ntmps21
  go_wp2
  go_loop [7, 8] (fun t i => ∃ k : Nat, k ≤ 8 ∧ i = .int .i64 k ∧ t = .int .i64 (eachTo (fun x y => x * y) a m k)) (fun _ i => 8 - (intOf i).toNat)
  case atStart => exact ⟨0, Nat.zero_le _, rfl, rfl⟩
  case round =>
    obtain ⟨k, hk, rfl, rfl⟩ := hrel
    have ho := each_small (fun x y => x * y) a m f_and k
    have hp : (2 : Int) ^ k ≤ 256 := by
      have h : (2 : Int) ^ k ≤ 2 ^ 8 := by exact_mod_cast Nat.pow_le_pow_right (n := 2) (by decide) hk
      omega
    have hp0 : (1 : Int) ≤ 2 ^ k := by exact_mod_cast Nat.two_pow_pos k
    have ho' : 0 ≤ eachTo (fun x y => x * y) a m k ∧ eachTo (fun x y => x * y) a m k ≤ 256 := by omega
    by_cases hlt : k < 8
    · have HS : Hid (eachTo (fun x y => x * y) a m (k + 1) = eachTo (fun x y => x * y) a m k + (fun x y => x * y) (bitOf a k) (bitOf m k) * 2 ^ k) := hide rfl
      have b1 := bitOf_01 a k
      have b2 := bitOf_01 m k
      have x1 : bitOf a k = 0 ∨ bitOf a k = 1 := by omega
      have x2 : bitOf m k = 0 ∨ bitOf m k = 1 := by omega
      have g1 := f_and _ _ x1 x2
      have g2 := f_and _ _ x1 x2
      have g3 := f_two _ _ x1 x2
      have cx := hide (rbit_any a k)
      have cy := hide (rbit_any m k)
      have cp := hide (fun w => power_any (k : Int) w (by omega) (by omega))
      have g4 : 0 ≤ ((bitOf a k) * (bitOf m k)) * 2 ^ k ∧ ((bitOf a k) * (bitOf m k)) * 2 ^ k ≤ 256 := by
        have : ((bitOf a k) * (bitOf m k)) = 0 ∨ ((bitOf a k) * (bitOf m k)) = 1 := by omega
        rcases this with h | h <;> rw [h] <;> omega
      clear x1 x2 ho
      simp only [Int.toNat_natCast] at cp
      generalize bitOf a k = x at *
      generalize bitOf m k = y at *
      generalize (2 : Int) ^ k = P at *
      generalize eachTo (fun x y => x * y) a m k = T at *
      go_wp2_with fail
      refine (cx.out _).mono ?_
      rintro e w' ⟨rfl, rfl⟩
      go_wp2_with fail
      refine (cy.out _).mono ?_
      rintro e w' ⟨rfl, rfl⟩
      go_wp2_with fail
      refine (cp.out _).mono ?_
      rintro e w' ⟨rfl, rfl⟩
      go_wp2_with fail
      go_round
      case rel => exact ⟨k + 1, by omega, by go_num, by rw [HS.out]⟩
      case measure => simp [intOf]; omega
    · obtain rfl : k = 8 := by omega
      go_wp2
      go_ret
      exact ⟨ret_int HE.out, rfl⟩

theorem reach_2 (a m : Int) (w : World) (ha : IsByte a) (hm : IsByte m) :
    Calls Try.prog 21 #[.int .i64 2, .int .i64 a, .int .i64 m] w fun e w' => e = .returned (.int .i64 (xorB a m)) ∧ w' = w := by
  have HE := hide (each_xor ha hm)
  go_enter Try.func21, Try.ntmps21
  go_wp2
  go_loop [7, 8] (fun t i => ∃ k : Nat, k ≤ 8 ∧ i = .int .i64 k ∧ t = .int .i64 (eachTo (fun x y => x + y - 2 * x * y) a m k)) (fun _ i => 8 - (intOf i).toNat)
  case atStart => exact ⟨0, Nat.zero_le _, rfl, rfl⟩
  case round =>
    obtain ⟨k, hk, rfl, rfl⟩ := hrel
    have ho := each_small (fun x y => x + y - 2 * x * y) a m f_xor k
    have hp : (2 : Int) ^ k ≤ 256 := by
      have h : (2 : Int) ^ k ≤ 2 ^ 8 := by exact_mod_cast Nat.pow_le_pow_right (n := 2) (by decide) hk
      omega
    have hp0 : (1 : Int) ≤ 2 ^ k := by exact_mod_cast Nat.two_pow_pos k
    have ho' : 0 ≤ eachTo (fun x y => x + y - 2 * x * y) a m k ∧ eachTo (fun x y => x + y - 2 * x * y) a m k ≤ 256 := by omega
    by_cases hlt : k < 8
    · have HS : Hid (eachTo (fun x y => x + y - 2 * x * y) a m (k + 1) = eachTo (fun x y => x + y - 2 * x * y) a m k + (fun x y => x + y - 2 * x * y) (bitOf a k) (bitOf m k) * 2 ^ k) := hide rfl
      have b1 := bitOf_01 a k
      have b2 := bitOf_01 m k
      have x1 : bitOf a k = 0 ∨ bitOf a k = 1 := by omega
      have x2 : bitOf m k = 0 ∨ bitOf m k = 1 := by omega
      have g1 := f_and _ _ x1 x2
      have g2 := f_xor _ _ x1 x2
      have g3 := f_two _ _ x1 x2
      have cx := hide (rbit_any a k)
      have cy := hide (rbit_any m k)
      have cp := hide (fun w => power_any (k : Int) w (by omega) (by omega))
      have g4 : 0 ≤ ((bitOf a k) + (bitOf m k) - 2 * (bitOf a k) * (bitOf m k)) * 2 ^ k ∧ ((bitOf a k) + (bitOf m k) - 2 * (bitOf a k) * (bitOf m k)) * 2 ^ k ≤ 256 := by
        have : ((bitOf a k) + (bitOf m k) - 2 * (bitOf a k) * (bitOf m k)) = 0 ∨ ((bitOf a k) + (bitOf m k) - 2 * (bitOf a k) * (bitOf m k)) = 1 := by omega
        rcases this with h | h <;> rw [h] <;> omega
      clear x1 x2 ho
      simp only [Int.toNat_natCast] at cp
      generalize bitOf a k = x at *
      generalize bitOf m k = y at *
      generalize (2 : Int) ^ k = P at *
      generalize eachTo (fun x y => x + y - 2 * x * y) a m k = T at *
      go_wp2_with fail
      refine (cx.out _).mono ?_
      rintro e w' ⟨rfl, rfl⟩
      go_wp2_with fail
      refine (cy.out _).mono ?_
      rintro e w' ⟨rfl, rfl⟩
      go_wp2_with fail
      refine (cp.out _).mono ?_
      rintro e w' ⟨rfl, rfl⟩
      go_wp2_with fail
      go_round
      case rel => exact ⟨k + 1, by omega, by go_num, by rw [HS.out]⟩
      case measure => simp [intOf]; omega
    · obtain rfl : k = 8 := by omega
      go_wp2
      go_ret
      exact ⟨ret_int HE.out, rfl⟩

theorem reach_8 (a m : Int) (w : World) (ha : IsByte a) (hm : IsByte m) :
    Calls Try.prog 21 #[.int .i64 8, .int .i64 a, .int .i64 m] w fun e w' => e = .returned (.int .i64 (bicB m a)) ∧ w' = w := by
  have HE := hide (each_bic ha hm)
  go_enter Try.func21, Try.ntmps21
  go_wp2
  go_loop [7, 8] (fun t i => ∃ k : Nat, k ≤ 8 ∧ i = .int .i64 k ∧ t = .int .i64 (eachTo (fun x y => y - x * y) a m k)) (fun _ i => 8 - (intOf i).toNat)
  case atStart => exact ⟨0, Nat.zero_le _, rfl, rfl⟩
  case round =>
    obtain ⟨k, hk, rfl, rfl⟩ := hrel
    have ho := each_small (fun x y => y - x * y) a m f_bic k
    have hp : (2 : Int) ^ k ≤ 256 := by
      have h : (2 : Int) ^ k ≤ 2 ^ 8 := by exact_mod_cast Nat.pow_le_pow_right (n := 2) (by decide) hk
      omega
    have hp0 : (1 : Int) ≤ 2 ^ k := by exact_mod_cast Nat.two_pow_pos k
    have ho' : 0 ≤ eachTo (fun x y => y - x * y) a m k ∧ eachTo (fun x y => y - x * y) a m k ≤ 256 := by omega
    by_cases hlt : k < 8
    · have HS : Hid (eachTo (fun x y => y - x * y) a m (k + 1) = eachTo (fun x y => y - x * y) a m k + (fun x y => y - x * y) (bitOf a k) (bitOf m k) * 2 ^ k) := hide rfl
      have b1 := bitOf_01 a k
      have b2 := bitOf_01 m k
      have x1 : bitOf a k = 0 ∨ bitOf a k = 1 := by omega
      have x2 : bitOf m k = 0 ∨ bitOf m k = 1 := by omega
      have g1 := f_and _ _ x1 x2
      have g2 := f_bic _ _ x1 x2
      have g3 := f_two _ _ x1 x2
      have cx := hide (rbit_any a k)
      have cy := hide (rbit_any m k)
      have cp := hide (fun w => power_any (k : Int) w (by omega) (by omega))
      have g4 : 0 ≤ ((bitOf m k) - (bitOf a k) * (bitOf m k)) * 2 ^ k ∧ ((bitOf m k) - (bitOf a k) * (bitOf m k)) * 2 ^ k ≤ 256 := by
        have : ((bitOf m k) - (bitOf a k) * (bitOf m k)) = 0 ∨ ((bitOf m k) - (bitOf a k) * (bitOf m k)) = 1 := by omega
        rcases this with h | h <;> rw [h] <;> omega
      clear x1 x2 ho
      simp only [Int.toNat_natCast] at cp
      generalize bitOf a k = x at *
      generalize bitOf m k = y at *
      generalize (2 : Int) ^ k = P at *
      generalize eachTo (fun x y => y - x * y) a m k = T at *
      go_wp2_with fail
      refine (cx.out _).mono ?_
      rintro e w' ⟨rfl, rfl⟩
      go_wp2_with fail
      refine (cy.out _).mono ?_
      rintro e w' ⟨rfl, rfl⟩
      go_wp2_with fail
      refine (cp.out _).mono ?_
      rintro e w' ⟨rfl, rfl⟩
      go_wp2_with fail
      go_round
      case rel => exact ⟨k + 1, by omega, by go_num, by rw [HS.out]⟩
      case measure => simp [intOf]; omega
    · obtain rfl : k = 8 := by omega
      go_wp2
      go_ret
      exact ⟨ret_int HE.out, rfl⟩

end Go.Proofs.Ytjainjpfmmonbaa
