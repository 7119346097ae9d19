/- The document's own answers for layer 11: contracts, and that they are the program's. -/
import Derived.Test.YtnmdifgoimoecaaDoorBits
import Derived.Test.YtnmdifgoimoecaaDoorPick
namespace Go.Proofs.YtnmdifgoimoecaaDoor
open Go.RowKit
set_option linter.unusedVariables false

/-! ### Plain facts -/
theorem bit_low (n : Int) : bitOf n 0 = bitOf (n % 8) 0 ∧ bitOf n 1 = bitOf (n % 8) 1 ∧ bitOf n 2 = bitOf (n % 8) 2 := by
  refine ⟨?_, ?_, ?_⟩
  · rw [bitOf_in n 0 (by decide) (by decide), bitOf_in (n % 8) 0 (by decide) (by decide)]
    show n % 65536 / 1 % 2 = n % 8 % 65536 / 1 % 2
    omega
  · rw [bitOf_in n 1 (by decide) (by decide), bitOf_in (n % 8) 1 (by decide) (by decide)]
    show n % 65536 / 2 % 2 = n % 8 % 65536 / 2 % 2
    omega
  · rw [bitOf_in n 2 (by decide) (by decide), bitOf_in (n % 8) 2 (by decide) (by decide)]
    show n % 65536 / 4 % 2 = n % 8 % 65536 / 4 % 2
    omega
theorem put_clock (l : Int) : putOf (l % 8) 2 false = bic3 l 4 := by
  rw [bic3_mod]
  exact all_8 (p := fun x => putOf x 2 false = bic3 x (4 % 8)) (by decide +kernel) (mod8_in l).1 (mod8_in l).2
/-- The lines behind k rounds of the document's loop. -/
def liftTo (l n : Int) (on : Bool) : Nat → Int
  | 0 => l % 8
  | k + 1 => if bitOf n (k : Int) = 1 then putOf (liftTo l n on k) (k : Int) on else liftTo l n on k
theorem lift_both (l n : Int) (on : Bool) : liftTo l n on 3 = liftOf l n on := by
  have h : liftTo l n on 3 = liftTo (l % 8) (n % 8) on 3 := by
    obtain ⟨h0, h1, h2⟩ := bit_low n
    have k0 : bitOf n ((0 : Nat) : Int) = bitOf (n % 8) ((0 : Nat) : Int) := h0
    have k1 : bitOf n ((1 : Nat) : Int) = bitOf (n % 8) ((1 : Nat) : Int) := h1
    have k2 : bitOf n ((2 : Nat) : Int) = bitOf (n % 8) ((2 : Nat) : Int) := h2
    simp only [liftTo, k0, k1, k2, mod_mod8]
  have k : liftOf l n on = liftOf (l % 8) (n % 8) on := by
    unfold liftOf
    cases on
    · exact bic3_mod l n
    · exact or3_mod l n
  rw [h, k]
  exact all_88 (p := fun l n => liftTo l n on 3 = liftOf l n on) (by cases on <;> decide +kernel) (mod8_in l).1 (mod8_in l).2 (mod8_in n).1 (mod8_in n).2
theorem flag_bit (p : Int) : bitOf p 2 = if 4 ≤ p % 8 then 1 else 0 := by
  rw [(bit_low p).2.2]
  exact all_8 (p := fun x => bitOf x 2 = if 4 ≤ x then 1 else 0) (by decide +kernel) (mod8_in p).1 (mod8_in p).2
/-- Whether a line is free, by its bits. -/
def freeB (l m i : Int) : Prop := bitOf l i = 1 ∧ bitOf m i = 0
def firstB (l m : Int) : Bool :=
  (!(decide (bitOf l 2 = 1 ∧ bitOf m 2 = 0)) || (vecOf (bic3 l m) == 65530 && anyOf (bic3 l m))) &&
  (decide (bitOf l 2 = 1 ∧ bitOf m 2 = 0) || !(decide (bitOf l 1 = 1 ∧ bitOf m 1 = 0)) || (vecOf (bic3 l m) == 65528 && anyOf (bic3 l m))) &&
  (decide (bitOf l 2 = 1 ∧ bitOf m 2 = 0) || decide (bitOf l 1 = 1 ∧ bitOf m 1 = 0) || !(decide (bitOf l 0 = 1 ∧ bitOf m 0 = 0)) || (vecOf (bic3 l m) == 65526 && anyOf (bic3 l m))) &&
  (decide (bitOf l 2 = 1 ∧ bitOf m 2 = 0) || decide (bitOf l 1 = 1 ∧ bitOf m 1 = 0) || decide (bitOf l 0 = 1 ∧ bitOf m 0 = 0) || (vecOf (bic3 l m) == 0 && !anyOf (bic3 l m)))
theorem first_all : ∀ l m : Fin 8, firstB (l.val : Int) (m.val : Int) = true := by decide +kernel
theorem first_is (l m : Int) : firstB l m = true := by
  have e : firstB l m = firstB (l % 8) (m % 8) := by
    unfold firstB
    rw [(bit_low l).1, (bit_low l).2.1, (bit_low l).2.2, (bit_low m).1, (bit_low m).2.1, (bit_low m).2.2, bic3_mod l m]
  rw [e]
  exact all_88 (p := fun l m => firstB l m = true) first_all (mod8_in l).1 (mod8_in l).2 (mod8_in m).1 (mod8_in m).2
theorem first_spec (l m : Int) :
    (freeB l m 2 → vecOf (bic3 l m) = 65530 ∧ anyOf (bic3 l m) = true) ∧ (¬ freeB l m 2 → freeB l m 1 → vecOf (bic3 l m) = 65528 ∧ anyOf (bic3 l m) = true) ∧
    (¬ freeB l m 2 → ¬ freeB l m 1 → freeB l m 0 → vecOf (bic3 l m) = 65526 ∧ anyOf (bic3 l m) = true) ∧ (¬ freeB l m 2 → ¬ freeB l m 1 → ¬ freeB l m 0 → vecOf (bic3 l m) = 0 ∧ anyOf (bic3 l m) = false) := by
  have h := first_is l m
  unfold firstB at h
  unfold freeB
  generalize vecOf (bic3 l m) = v at *
  generalize anyOf (bic3 l m) = o at *
  refine ⟨fun a => ?_, fun a b => ?_, fun a b c => ?_, fun a b c => ?_⟩
  · simpa [a] using h
  · simpa [a, b] using h
  · simpa [a, b, c] using h
  · simpa [a, b, c] using h

/-! ### Contracts -/
theorem three_any (n : Int) (w : World) : Calls Tryd.prog 17 #[.int .i64 n] w fun e w' => e = .returned (.int .i64 (n % 8)) ∧ w' = w := by
  go_enter Tryd.func17, Tryd.ntmps17
  go_wp2_with (go_at_call 21; refine (mod_any _ _ _ (by decide) (by decide)).mono ?_; rintro e w' ⟨rfl, rfl⟩)
  go_ret
  exact ⟨rfl, rfl⟩
theorem rread_any (m l a : Int) (w : World) : Calls Tryd.prog 13 #[.int .i64 m, .int .i64 l, .int .i64 a] w fun e w' => e = .returned (.int .i64 (readOf m l a)) ∧ w' = w := by
  unfold readOf
  by_cases h2 : a = 2
  · subst h2
    rw [if_pos rfl]
    go_enter Tryd.func13, Tryd.ntmps13
    go_wp2_with (first | (go_at_call 17; refine (three_any _ _).mono ?_; rintro e w' ⟨rfl, rfl⟩))
    go_ret
    exact ⟨rfl, rfl⟩
  · rw [if_neg h2]
    by_cases h3 : a = 3
    · subst h3
      rw [if_pos rfl]
      go_enter Tryd.func13, Tryd.ntmps13
      go_wp2_with (first | (go_at_call 17; refine (three_any _ _).mono ?_; rintro e w' ⟨rfl, rfl⟩))
      go_ret
      exact ⟨rfl, rfl⟩
    · rw [if_neg h3]
      go_enter Tryd.func13, Tryd.ntmps13
      go_wp2
      go_ret
      exact ⟨rfl, rfl⟩
theorem rwrite_2 (m l b : Int) (w : World) : Calls Tryd.prog 11 #[.int .i64 m, .int .i64 l, .int .i64 2, .int .i64 b] w fun e w' => e = .returned (.tuple #[.int .i64 (b % 8), .int .i64 (l % 8)]) ∧ w' = w := by
  go_enter Tryd.func11, Tryd.ntmps11
  go_wp2_with (first | (go_at_call 17; refine (three_any _ _).mono ?_; rintro e w' ⟨rfl, rfl⟩))
  go_ret2
  exact ⟨rfl, rfl⟩
theorem rwrite_3 (m l b : Int) (w : World) : Calls Tryd.prog 11 #[.int .i64 m, .int .i64 l, .int .i64 3, .int .i64 b] w fun e w' => e = .returned (.tuple #[.int .i64 (m % 8), .int .i64 (bic3 l 4)]) ∧ w' = w := by
  have CP := hide (fun w => rput_any (l % 8) 2 false w)
  rw [put_clock] at CP
  go_enter Tryd.func11, Tryd.ntmps11
  go_wp2_with (first | (go_at_call 17; refine (three_any _ _).mono ?_; rintro e w' ⟨rfl, rfl⟩) | (go_at_call 18; refine (CP.out _).mono ?_; rintro e w' ⟨rfl, rfl⟩))
  go_ret2
  exact ⟨rfl, rfl⟩
theorem rwrite_no (m l a b : Int) (h2 : ¬ a = 2) (h3 : ¬ a = 3) (w : World) : Calls Tryd.prog 11 #[.int .i64 m, .int .i64 l, .int .i64 a, .int .i64 b] w fun e w' => e = .returned (.tuple #[.int .i64 m, .int .i64 l]) ∧ w' = w := by
  go_enter Tryd.func11, Tryd.ntmps11
  go_wp2
  go_ret2
  exact ⟨rfl, rfl⟩
theorem rraise_any (m l n : Int) (on : Bool) (w : World) : Calls Tryd.prog 9 #[.int .i64 m, .int .i64 l, .int .i64 n, .bool on] w fun e w' => e = .returned (.tuple #[.int .i64 (m % 8), .int .i64 (liftOf l n on)]) ∧ w' = w := by
  rw [← lift_both]
  have T0 : l % 8 = liftTo l n on 0 := rfl
  go_enter Tryd.func9, Tryd.ntmps9
  go_wp2_with (first | (go_at_call 17; refine (three_any _ _).mono ?_; rintro e w' ⟨rfl, rfl⟩))
  go_loop [10, 11] (fun o i => ∃ k : Nat, k ≤ 3 ∧ i = .int .i64 (k : Int) ∧ o = .int .i64 (liftTo l n on k)) (fun _ i => 3 - (intOf i).toNat)
  case atStart => exact ⟨0, Nat.zero_le _, rfl, rfl⟩
  case round =>
    obtain ⟨k, hk, rfl, rfl⟩ := hrel
    by_cases hlt : k < 3
    · by_cases hb : bitOf n (k : Int) = 1
      · have HS := hide (show liftTo l n on (k + 1) = putOf (liftTo l n on k) (k : Int) on from if_pos hb)
        clear T0
        generalize liftTo l n on k = q at *
        go_wp2_with (first | (go_at_call 15; refine (rbit_any _ _ _).mono ?_; rintro e w' ⟨rfl, rfl⟩) | (go_at_call 18; refine (rput_any _ _ _ _).mono ?_; rintro e w' ⟨rfl, rfl⟩))
        go_round
        case rel => exact ⟨k + 1, by omega, by go_num, by rw [HS.out]⟩
        case measure => simp [intOf]; omega
      · have HS := hide (show liftTo l n on (k + 1) = liftTo l n on k from if_neg hb)
        clear T0
        generalize liftTo l n on k = q at *
        go_wp2_with (first | (go_at_call 15; refine (rbit_any _ _ _).mono ?_; rintro e w' ⟨rfl, rfl⟩))
        go_round
        case rel => exact ⟨k + 1, by omega, by go_num, by rw [HS.out]⟩
        case measure => simp [intOf]; omega
    · obtain rfl : k = 3 := by omega
      go_wp2_with (first | (go_at_call 17; refine (three_any _ _).mono ?_; rintro e w' ⟨rfl, rfl⟩))
      go_ret2
      exact ⟨rfl, rfl⟩
theorem rpick_held (m l p : Int) (hp : 4 ≤ p % 8) (w : World) : Calls Tryd.prog 7 #[.int .i64 m, .int .i64 l, .int .i64 p] w fun e w' => e = .returned (.tuple #[.int .i64 0, .bool false]) ∧ w' = w := by
  have C := hide (fun w => rbit_any p 2 w)
  rw [flag_bit, if_pos hp] at C
  go_enter Tryd.func7, Tryd.ntmps7
  go_wp2_with (first | (go_at_call 15; refine (C.out _).mono ?_; rintro e w' ⟨rfl, rfl⟩))
  go_ret2
  exact ⟨rfl, rfl⟩
theorem rpick_at (m l p : Int) (hp : p % 8 < 4) (w : World) : Calls Tryd.prog 7 #[.int .i64 m, .int .i64 l, .int .i64 p] w fun e w' =>
    ((∃ t : Int, 0 ≤ t ∧ t ≤ 2 ∧ freeB l m t ∧ (∀ i, t < i → i ≤ 2 → ¬ freeB l m i) ∧ e = .returned (.tuple #[.int .i64 (65526 + 2 * t), .bool true])) ∨ ((∀ i, 0 ≤ i → i ≤ 2 → ¬ freeB l m i) ∧ e = .returned (.tuple #[.int .i64 0, .bool false]))) ∧ w' = w := by
  have C := hide (fun w => rbit_any p 2 w)
  rw [flag_bit, if_neg (by omega)] at C
  clear hp
  go_enter Tryd.func7, Tryd.ntmps7
  go_wp2_with (first | (go_at_call 15; refine (C.out _).mono ?_; rintro e w' ⟨rfl, rfl⟩))
  go_loop [8] (fun i => ∃ t : Int, -1 ≤ t ∧ t ≤ 2 ∧ i = .int .i64 t ∧ ∀ i, t < i → i ≤ 2 → ¬ freeB l m i) (fun i => (intOf i + 1).toNat)
  case atStart => exact ⟨2, by omega, by omega, rfl, fun i h0 h1 => absurd h0 (by omega)⟩
  case round =>
    obtain ⟨t, t0, t1, rfl, hn⟩ := hrel
    have HN := hide hn
    clear hn
    by_cases ht : 0 ≤ t
    · by_cases hl : bitOf l t = 1
      · by_cases hm : bitOf m t = 0
        · go_wp2_with (first | (go_at_call 15; refine (rbit_any _ _ _).mono ?_; rintro e w' ⟨rfl, rfl⟩))
          go_ret2
          exact ⟨.inl ⟨t, ht, t1, ⟨hl, hm⟩, HN.out, rfl⟩, rfl⟩
        · go_wp2_with (first | (go_at_call 15; refine (rbit_any _ _ _).mono ?_; rintro e w' ⟨rfl, rfl⟩))
          go_round
          case rel =>
            refine ⟨t - 1, by omega, by omega, by go_num, fun i h0 h1 => ?_⟩
            by_cases hi : i = t
            · subst hi; exact fun k => hm k.2
            · exact HN.out i (by omega) h1
          case measure => simp [intOf]; omega
      · go_wp2_with (first | (go_at_call 15; refine (rbit_any _ _ _).mono ?_; rintro e w' ⟨rfl, rfl⟩))
        go_round
        case rel =>
          refine ⟨t - 1, by omega, by omega, by go_num, fun i h0 h1 => ?_⟩
          by_cases hi : i = t
          · subst hi; exact fun k => hl k.1
          · exact HN.out i (by omega) h1
        case measure => simp [intOf]; omega
    · obtain rfl : t = -1 := by omega
      go_wp2
      go_ret2
      exact ⟨.inr ⟨fun i h0 h1 => HN.out i (by omega) h1, rfl⟩, rfl⟩
theorem rpick_free (m l p : Int) (hp : p % 8 < 4) (w : World) : Calls Tryd.prog 7 #[.int .i64 m, .int .i64 l, .int .i64 p] w fun e w' => e = .returned (.tuple #[.int .i64 (vecOf (bic3 l m)), .bool (anyOf (bic3 l m))]) ∧ w' = w := by
  obtain ⟨f2, f1, f0, fn⟩ := first_spec l m
  refine (rpick_at m l p hp w).mono ?_
  rintro e w' ⟨⟨t, t0, t1, hf, hb, rfl⟩ | ⟨hb, rfl⟩, rfl⟩
  · have ht : t = 2 ∨ t = 1 ∨ t = 0 := by omega
    rcases ht with rfl | rfl | rfl
    · obtain ⟨h1, h2⟩ := f2 hf
      rw [h1, h2]
      exact ⟨rfl, rfl⟩
    · obtain ⟨h1, h2⟩ := f1 (hb 2 (by decide) (by decide)) hf
      rw [h1, h2]
      exact ⟨rfl, rfl⟩
    · obtain ⟨h1, h2⟩ := f0 (hb 2 (by decide) (by decide)) (hb 1 (by decide) (by decide)) hf
      rw [h1, h2]
      exact ⟨rfl, rfl⟩
  · obtain ⟨h1, h2⟩ := fn (hb 2 (by decide) (by decide)) (hb 1 (by decide) (by decide)) (hb 0 (by decide) (by decide))
    rw [h1, h2]
    exact ⟨rfl, rfl⟩

/-! ### Both, under letters -/
theorem pick_both (m l p : Int) : ∃ (v : Int) (o : Bool),
    (∀ w, HasVec w → Calls Tryd.prog 6 #[.agg #[.int .i64 m, .int .i64 l], .int .i64 p] w fun e w' => e = .returned (.tuple #[.int .i64 v, .bool o]) ∧ Below w.heap.size w w') ∧
    (∀ w, Calls Tryd.prog 7 #[.int .i64 m, .int .i64 l, .int .i64 p] w fun e w' => e = .returned (.tuple #[.int .i64 v, .bool o]) ∧ w' = w) := by
  by_cases h : 4 ≤ p % 8
  · exact ⟨_, _, fun w _ => pick_held m l p h w, fun w => rpick_held m l p h w⟩
  · exact ⟨_, _, fun w k => pick_free m l p (by omega) w k, fun w => rpick_free m l p (by omega) w⟩
theorem write_both (m l a b : Int) : ∃ x y : Int,
    (∀ w, Calls Tryd.prog 10 #[.agg #[.int .i64 m, .int .i64 l], .int .i64 a, .int .i64 b] w fun e w' => e = .returned (.agg #[.int .i64 x, .int .i64 y]) ∧ Below w.heap.size w w') ∧
    (∀ w, Calls Tryd.prog 11 #[.int .i64 m, .int .i64 l, .int .i64 a, .int .i64 b] w fun e w' => e = .returned (.tuple #[.int .i64 x, .int .i64 y]) ∧ w' = w) := by
  by_cases h2 : a = 2
  · subst h2
    exact ⟨_, _, write_2 m l b, rwrite_2 m l b⟩
  · by_cases h3 : a = 3
    · subst h3
      exact ⟨_, _, write_3 m l b, rwrite_3 m l b⟩
    · exact ⟨_, _, write_no m l a b h2 h3, rwrite_no m l a b h2 h3⟩
end Go.Proofs.YtnmdifgoimoecaaDoor
