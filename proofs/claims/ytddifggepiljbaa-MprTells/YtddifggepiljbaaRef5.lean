/- The document's answer for layer 5, by its functions: that it is the contracts' own. -/
import Derived.Test.YtddifggepiljbaaMpr
namespace Go.Proofs.Ytddifggepiljbaa
open Go.RowKit
set_option linter.unusedVariables false

theorem rphys_any (f : Nat → Int) (a : Int) (w : World) : Calls Try.prog 8 #[.agg #[.int .i64 (f 0), .int .i64 (f 1), .int .i64 (f 2), .int .i64 (f 3), .int .i64 (f 4), .int .i64 (f 5), .int .i64 (f 6), .int .i64 (f 7)], .int .i64 a] w fun e w' => e = .returned (.int .i64 (physOf f a)) ∧ Below w.heap.size w w' := by
  have e : physOf f a = f (a % 65536 / 8192).toNat % 256 * 8192 + a % 8192 := rfl
  have h : a % 65536 / 8192 = 0 ∨ a % 65536 / 8192 = 1 ∨ a % 65536 / 8192 = 2 ∨ a % 65536 / 8192 = 3 ∨ a % 65536 / 8192 = 4 ∨ a % 65536 / 8192 = 5 ∨ a % 65536 / 8192 = 6 ∨ a % 65536 / 8192 = 7 := by omega
  rcases h with h | h | h | h | h | h | h | h
  all_goals
    have E := hide e
    rw [h] at E
    clear e
    go_enter Try.func8, Try.ntmps8
    go_wp2_with (first
      | (go_at_call 17; refine (rword_any _ _).mono ?_; rintro e w' ⟨rfl, rfl⟩)
      | (go_at_call 18; refine (rbyte_any _ _).mono ?_; rintro e w' ⟨rfl, rfl⟩))
    go_ret
    exact ⟨ret_int E.out.symm, (Below.refl _ w).alloc (Nat.le_refl _) _⟩

theorem rtma_any (f : Nat → Int) (m l : Int) (w : World) : Calls Try.prog 12 #[.agg #[.int .i64 (f 0), .int .i64 (f 1), .int .i64 (f 2), .int .i64 (f 3), .int .i64 (f 4), .int .i64 (f 5), .int .i64 (f 6), .int .i64 (f 7)], .int .i64 m, .int .i64 l] w fun e w' => e = .returned (.int .i64 (tmaOf f m l)) ∧ Below w.heap.size w w' := by
  go_enter Try.func12, Try.ntmps12
  go_wp2
  go_loopw [7] (fun i w' => ∃ k : Nat, k ≤ 8 ∧ i = .int .i64 k ∧ tmaOf f m l = tmaFrom f m l k (8 - k) ∧ w' = w.alloc (.cells #[.int .i64 (f 0), .int .i64 (f 1), .int .i64 (f 2), .int .i64 (f 3), .int .i64 (f 4), .int .i64 (f 5), .int .i64 (f 6), .int .i64 (f 7)] 22)) (fun i _ => 8 - (intOf i).toNat)
  case atStart => exact ⟨0, Nat.zero_le _, rfl, rfl, rfl⟩
  case round =>
    obtain ⟨k, hk, rfl, ht, rfl⟩ := hrel
    have HT := hide ht
    clear ht
    rcases nine hk with rfl | rfl | rfl | rfl | rfl | rfl | rfl | rfl | rfl
    · by_cases hb : bitOf m 0 = 1
      · have HQ : Hid (tmaOf f m l = f 0 % 256) := HT.out.trans (if_pos hb)
        go_wp2_with (first
          | (go_at_call 20; refine (rbit_any _ _ _).mono ?_; rintro e w' ⟨rfl, rfl⟩)
          | (go_at_call 18; refine (rbyte_any _ _).mono ?_; rintro e w' ⟨rfl, rfl⟩))
        go_ret
        exact ⟨ret_int HQ.out.symm, (Below.refl _ w).alloc (Nat.le_refl _) _⟩
      · have HQ : Hid (tmaOf f m l = tmaFrom f m l (0 + 1) (8 - (0 + 1))) := HT.out.trans (if_neg hb)
        go_wp2_with (first
          | (go_at_call 20; refine (rbit_any _ _ _).mono ?_; rintro e w' ⟨rfl, rfl⟩)
          | (go_at_call 18; refine (rbyte_any _ _).mono ?_; rintro e w' ⟨rfl, rfl⟩))
        exact ⟨⟨0 + 1, by decide, rfl, HQ.out, by first | trivial | rfl⟩, by simp [intOf]⟩
    · by_cases hb : bitOf m 1 = 1
      · have HQ : Hid (tmaOf f m l = f 1 % 256) := HT.out.trans (if_pos hb)
        go_wp2_with (first
          | (go_at_call 20; refine (rbit_any _ _ _).mono ?_; rintro e w' ⟨rfl, rfl⟩)
          | (go_at_call 18; refine (rbyte_any _ _).mono ?_; rintro e w' ⟨rfl, rfl⟩))
        go_ret
        exact ⟨ret_int HQ.out.symm, (Below.refl _ w).alloc (Nat.le_refl _) _⟩
      · have HQ : Hid (tmaOf f m l = tmaFrom f m l (1 + 1) (8 - (1 + 1))) := HT.out.trans (if_neg hb)
        go_wp2_with (first
          | (go_at_call 20; refine (rbit_any _ _ _).mono ?_; rintro e w' ⟨rfl, rfl⟩)
          | (go_at_call 18; refine (rbyte_any _ _).mono ?_; rintro e w' ⟨rfl, rfl⟩))
        exact ⟨⟨1 + 1, by decide, rfl, HQ.out, by first | trivial | rfl⟩, by simp [intOf]⟩
    · by_cases hb : bitOf m 2 = 1
      · have HQ : Hid (tmaOf f m l = f 2 % 256) := HT.out.trans (if_pos hb)
        go_wp2_with (first
          | (go_at_call 20; refine (rbit_any _ _ _).mono ?_; rintro e w' ⟨rfl, rfl⟩)
          | (go_at_call 18; refine (rbyte_any _ _).mono ?_; rintro e w' ⟨rfl, rfl⟩))
        go_ret
        exact ⟨ret_int HQ.out.symm, (Below.refl _ w).alloc (Nat.le_refl _) _⟩
      · have HQ : Hid (tmaOf f m l = tmaFrom f m l (2 + 1) (8 - (2 + 1))) := HT.out.trans (if_neg hb)
        go_wp2_with (first
          | (go_at_call 20; refine (rbit_any _ _ _).mono ?_; rintro e w' ⟨rfl, rfl⟩)
          | (go_at_call 18; refine (rbyte_any _ _).mono ?_; rintro e w' ⟨rfl, rfl⟩))
        exact ⟨⟨2 + 1, by decide, rfl, HQ.out, by first | trivial | rfl⟩, by simp [intOf]⟩
    · by_cases hb : bitOf m 3 = 1
      · have HQ : Hid (tmaOf f m l = f 3 % 256) := HT.out.trans (if_pos hb)
        go_wp2_with (first
          | (go_at_call 20; refine (rbit_any _ _ _).mono ?_; rintro e w' ⟨rfl, rfl⟩)
          | (go_at_call 18; refine (rbyte_any _ _).mono ?_; rintro e w' ⟨rfl, rfl⟩))
        go_ret
        exact ⟨ret_int HQ.out.symm, (Below.refl _ w).alloc (Nat.le_refl _) _⟩
      · have HQ : Hid (tmaOf f m l = tmaFrom f m l (3 + 1) (8 - (3 + 1))) := HT.out.trans (if_neg hb)
        go_wp2_with (first
          | (go_at_call 20; refine (rbit_any _ _ _).mono ?_; rintro e w' ⟨rfl, rfl⟩)
          | (go_at_call 18; refine (rbyte_any _ _).mono ?_; rintro e w' ⟨rfl, rfl⟩))
        exact ⟨⟨3 + 1, by decide, rfl, HQ.out, by first | trivial | rfl⟩, by simp [intOf]⟩
    · by_cases hb : bitOf m 4 = 1
      · have HQ : Hid (tmaOf f m l = f 4 % 256) := HT.out.trans (if_pos hb)
        go_wp2_with (first
          | (go_at_call 20; refine (rbit_any _ _ _).mono ?_; rintro e w' ⟨rfl, rfl⟩)
          | (go_at_call 18; refine (rbyte_any _ _).mono ?_; rintro e w' ⟨rfl, rfl⟩))
        go_ret
        exact ⟨ret_int HQ.out.symm, (Below.refl _ w).alloc (Nat.le_refl _) _⟩
      · have HQ : Hid (tmaOf f m l = tmaFrom f m l (4 + 1) (8 - (4 + 1))) := HT.out.trans (if_neg hb)
        go_wp2_with (first
          | (go_at_call 20; refine (rbit_any _ _ _).mono ?_; rintro e w' ⟨rfl, rfl⟩)
          | (go_at_call 18; refine (rbyte_any _ _).mono ?_; rintro e w' ⟨rfl, rfl⟩))
        exact ⟨⟨4 + 1, by decide, rfl, HQ.out, by first | trivial | rfl⟩, by simp [intOf]⟩
    · by_cases hb : bitOf m 5 = 1
      · have HQ : Hid (tmaOf f m l = f 5 % 256) := HT.out.trans (if_pos hb)
        go_wp2_with (first
          | (go_at_call 20; refine (rbit_any _ _ _).mono ?_; rintro e w' ⟨rfl, rfl⟩)
          | (go_at_call 18; refine (rbyte_any _ _).mono ?_; rintro e w' ⟨rfl, rfl⟩))
        go_ret
        exact ⟨ret_int HQ.out.symm, (Below.refl _ w).alloc (Nat.le_refl _) _⟩
      · have HQ : Hid (tmaOf f m l = tmaFrom f m l (5 + 1) (8 - (5 + 1))) := HT.out.trans (if_neg hb)
        go_wp2_with (first
          | (go_at_call 20; refine (rbit_any _ _ _).mono ?_; rintro e w' ⟨rfl, rfl⟩)
          | (go_at_call 18; refine (rbyte_any _ _).mono ?_; rintro e w' ⟨rfl, rfl⟩))
        exact ⟨⟨5 + 1, by decide, rfl, HQ.out, by first | trivial | rfl⟩, by simp [intOf]⟩
    · by_cases hb : bitOf m 6 = 1
      · have HQ : Hid (tmaOf f m l = f 6 % 256) := HT.out.trans (if_pos hb)
        go_wp2_with (first
          | (go_at_call 20; refine (rbit_any _ _ _).mono ?_; rintro e w' ⟨rfl, rfl⟩)
          | (go_at_call 18; refine (rbyte_any _ _).mono ?_; rintro e w' ⟨rfl, rfl⟩))
        go_ret
        exact ⟨ret_int HQ.out.symm, (Below.refl _ w).alloc (Nat.le_refl _) _⟩
      · have HQ : Hid (tmaOf f m l = tmaFrom f m l (6 + 1) (8 - (6 + 1))) := HT.out.trans (if_neg hb)
        go_wp2_with (first
          | (go_at_call 20; refine (rbit_any _ _ _).mono ?_; rintro e w' ⟨rfl, rfl⟩)
          | (go_at_call 18; refine (rbyte_any _ _).mono ?_; rintro e w' ⟨rfl, rfl⟩))
        exact ⟨⟨6 + 1, by decide, rfl, HQ.out, by first | trivial | rfl⟩, by simp [intOf]⟩
    · by_cases hb : bitOf m 7 = 1
      · have HQ : Hid (tmaOf f m l = f 7 % 256) := HT.out.trans (if_pos hb)
        go_wp2_with (first
          | (go_at_call 20; refine (rbit_any _ _ _).mono ?_; rintro e w' ⟨rfl, rfl⟩)
          | (go_at_call 18; refine (rbyte_any _ _).mono ?_; rintro e w' ⟨rfl, rfl⟩))
        go_ret
        exact ⟨ret_int HQ.out.symm, (Below.refl _ w).alloc (Nat.le_refl _) _⟩
      · have HQ : Hid (tmaOf f m l = tmaFrom f m l (7 + 1) (8 - (7 + 1))) := HT.out.trans (if_neg hb)
        go_wp2_with (first
          | (go_at_call 20; refine (rbit_any _ _ _).mono ?_; rintro e w' ⟨rfl, rfl⟩)
          | (go_at_call 18; refine (rbyte_any _ _).mono ?_; rintro e w' ⟨rfl, rfl⟩))
        exact ⟨⟨7 + 1, by decide, rfl, HQ.out, by first | trivial | rfl⟩, by simp [intOf]⟩
    · go_wp2_with (go_at_call 18; refine (rbyte_any _ _).mono ?_; rintro e w' ⟨rfl, rfl⟩)
      go_ret
      exact ⟨ret_int HT.out.symm, (Below.refl _ w).alloc (Nat.le_refl _) _⟩

theorem rtam_any (f : Nat → Int) (m b : Int) (w : World) : Calls Try.prog 10 #[.agg #[.int .i64 (f 0), .int .i64 (f 1), .int .i64 (f 2), .int .i64 (f 3), .int .i64 (f 4), .int .i64 (f 5), .int .i64 (f 6), .int .i64 (f 7)], .int .i64 m, .int .i64 b] w fun e w' => e = .returned (.agg #[.int .i64 (tamOf f m b 0), .int .i64 (tamOf f m b 1), .int .i64 (tamOf f m b 2), .int .i64 (tamOf f m b 3), .int .i64 (tamOf f m b 4), .int .i64 (tamOf f m b 5), .int .i64 (tamOf f m b 6), .int .i64 (tamOf f m b 7)]) ∧ Below w.heap.size w w' := by
  go_enter Try.func10, Try.ntmps10
  go_wp2
  go_loopw [7] (fun i w' => ∃ k : Nat, k ≤ 8 ∧ i = .int .i64 k ∧ w' = (w.alloc (.cells #[.int .i64 (tamTo f m b k 0), .int .i64 (tamTo f m b k 1), .int .i64 (tamTo f m b k 2), .int .i64 (tamTo f m b k 3), .int .i64 (tamTo f m b k 4), .int .i64 (tamTo f m b k 5), .int .i64 (tamTo f m b k 6), .int .i64 (tamTo f m b k 7)] 22)).alloc (.cells #[.int .i64 0, .int .i64 0, .int .i64 0, .int .i64 0, .int .i64 0, .int .i64 0, .int .i64 0, .int .i64 0] 22)) (fun i _ => 8 - (intOf i).toNat)
  case atStart => exact ⟨0, Nat.zero_le _, rfl, by simp [tamTo]⟩
  case round =>
    obtain ⟨k, hk, rfl, rfl⟩ := hrel
    rcases nine hk with rfl | rfl | rfl | rfl | rfl | rfl | rfl | rfl | rfl
    · by_cases hb : bitOf m 0 = 1
      · have HQ : Hid (tamOf f m b 0 = b % 256) := if_pos hb
        go_wp2_with (first
          | (go_at_call 20; refine (rbit_any _ _ _).mono ?_; rintro e w' ⟨rfl, rfl⟩)
          | (go_at_call 18; refine (rbyte_any _ _).mono ?_; rintro e w' ⟨rfl, rfl⟩))
        exact ⟨⟨0 + 1, by decide, rfl, by simp [tamTo, HQ.out]⟩, by simp [intOf]⟩
      · have HQ : Hid (tamOf f m b 0 = f 0) := if_neg hb
        go_wp2_with (first
          | (go_at_call 20; refine (rbit_any _ _ _).mono ?_; rintro e w' ⟨rfl, rfl⟩)
          | (go_at_call 18; refine (rbyte_any _ _).mono ?_; rintro e w' ⟨rfl, rfl⟩))
        exact ⟨⟨0 + 1, by decide, rfl, by simp [tamTo, HQ.out]⟩, by simp [intOf]⟩
    · by_cases hb : bitOf m 1 = 1
      · have HQ : Hid (tamOf f m b 1 = b % 256) := if_pos hb
        go_wp2_with (first
          | (go_at_call 20; refine (rbit_any _ _ _).mono ?_; rintro e w' ⟨rfl, rfl⟩)
          | (go_at_call 18; refine (rbyte_any _ _).mono ?_; rintro e w' ⟨rfl, rfl⟩))
        exact ⟨⟨1 + 1, by decide, rfl, by simp [tamTo, HQ.out]⟩, by simp [intOf]⟩
      · have HQ : Hid (tamOf f m b 1 = f 1) := if_neg hb
        go_wp2_with (first
          | (go_at_call 20; refine (rbit_any _ _ _).mono ?_; rintro e w' ⟨rfl, rfl⟩)
          | (go_at_call 18; refine (rbyte_any _ _).mono ?_; rintro e w' ⟨rfl, rfl⟩))
        exact ⟨⟨1 + 1, by decide, rfl, by simp [tamTo, HQ.out]⟩, by simp [intOf]⟩
    · by_cases hb : bitOf m 2 = 1
      · have HQ : Hid (tamOf f m b 2 = b % 256) := if_pos hb
        go_wp2_with (first
          | (go_at_call 20; refine (rbit_any _ _ _).mono ?_; rintro e w' ⟨rfl, rfl⟩)
          | (go_at_call 18; refine (rbyte_any _ _).mono ?_; rintro e w' ⟨rfl, rfl⟩))
        exact ⟨⟨2 + 1, by decide, rfl, by simp [tamTo, HQ.out]⟩, by simp [intOf]⟩
      · have HQ : Hid (tamOf f m b 2 = f 2) := if_neg hb
        go_wp2_with (first
          | (go_at_call 20; refine (rbit_any _ _ _).mono ?_; rintro e w' ⟨rfl, rfl⟩)
          | (go_at_call 18; refine (rbyte_any _ _).mono ?_; rintro e w' ⟨rfl, rfl⟩))
        exact ⟨⟨2 + 1, by decide, rfl, by simp [tamTo, HQ.out]⟩, by simp [intOf]⟩
    · by_cases hb : bitOf m 3 = 1
      · have HQ : Hid (tamOf f m b 3 = b % 256) := if_pos hb
        go_wp2_with (first
          | (go_at_call 20; refine (rbit_any _ _ _).mono ?_; rintro e w' ⟨rfl, rfl⟩)
          | (go_at_call 18; refine (rbyte_any _ _).mono ?_; rintro e w' ⟨rfl, rfl⟩))
        exact ⟨⟨3 + 1, by decide, rfl, by simp [tamTo, HQ.out]⟩, by simp [intOf]⟩
      · have HQ : Hid (tamOf f m b 3 = f 3) := if_neg hb
        go_wp2_with (first
          | (go_at_call 20; refine (rbit_any _ _ _).mono ?_; rintro e w' ⟨rfl, rfl⟩)
          | (go_at_call 18; refine (rbyte_any _ _).mono ?_; rintro e w' ⟨rfl, rfl⟩))
        exact ⟨⟨3 + 1, by decide, rfl, by simp [tamTo, HQ.out]⟩, by simp [intOf]⟩
    · by_cases hb : bitOf m 4 = 1
      · have HQ : Hid (tamOf f m b 4 = b % 256) := if_pos hb
        go_wp2_with (first
          | (go_at_call 20; refine (rbit_any _ _ _).mono ?_; rintro e w' ⟨rfl, rfl⟩)
          | (go_at_call 18; refine (rbyte_any _ _).mono ?_; rintro e w' ⟨rfl, rfl⟩))
        exact ⟨⟨4 + 1, by decide, rfl, by simp [tamTo, HQ.out]⟩, by simp [intOf]⟩
      · have HQ : Hid (tamOf f m b 4 = f 4) := if_neg hb
        go_wp2_with (first
          | (go_at_call 20; refine (rbit_any _ _ _).mono ?_; rintro e w' ⟨rfl, rfl⟩)
          | (go_at_call 18; refine (rbyte_any _ _).mono ?_; rintro e w' ⟨rfl, rfl⟩))
        exact ⟨⟨4 + 1, by decide, rfl, by simp [tamTo, HQ.out]⟩, by simp [intOf]⟩
    · by_cases hb : bitOf m 5 = 1
      · have HQ : Hid (tamOf f m b 5 = b % 256) := if_pos hb
        go_wp2_with (first
          | (go_at_call 20; refine (rbit_any _ _ _).mono ?_; rintro e w' ⟨rfl, rfl⟩)
          | (go_at_call 18; refine (rbyte_any _ _).mono ?_; rintro e w' ⟨rfl, rfl⟩))
        exact ⟨⟨5 + 1, by decide, rfl, by simp [tamTo, HQ.out]⟩, by simp [intOf]⟩
      · have HQ : Hid (tamOf f m b 5 = f 5) := if_neg hb
        go_wp2_with (first
          | (go_at_call 20; refine (rbit_any _ _ _).mono ?_; rintro e w' ⟨rfl, rfl⟩)
          | (go_at_call 18; refine (rbyte_any _ _).mono ?_; rintro e w' ⟨rfl, rfl⟩))
        exact ⟨⟨5 + 1, by decide, rfl, by simp [tamTo, HQ.out]⟩, by simp [intOf]⟩
    · by_cases hb : bitOf m 6 = 1
      · have HQ : Hid (tamOf f m b 6 = b % 256) := if_pos hb
        go_wp2_with (first
          | (go_at_call 20; refine (rbit_any _ _ _).mono ?_; rintro e w' ⟨rfl, rfl⟩)
          | (go_at_call 18; refine (rbyte_any _ _).mono ?_; rintro e w' ⟨rfl, rfl⟩))
        exact ⟨⟨6 + 1, by decide, rfl, by simp [tamTo, HQ.out]⟩, by simp [intOf]⟩
      · have HQ : Hid (tamOf f m b 6 = f 6) := if_neg hb
        go_wp2_with (first
          | (go_at_call 20; refine (rbit_any _ _ _).mono ?_; rintro e w' ⟨rfl, rfl⟩)
          | (go_at_call 18; refine (rbyte_any _ _).mono ?_; rintro e w' ⟨rfl, rfl⟩))
        exact ⟨⟨6 + 1, by decide, rfl, by simp [tamTo, HQ.out]⟩, by simp [intOf]⟩
    · by_cases hb : bitOf m 7 = 1
      · have HQ : Hid (tamOf f m b 7 = b % 256) := if_pos hb
        go_wp2_with (first
          | (go_at_call 20; refine (rbit_any _ _ _).mono ?_; rintro e w' ⟨rfl, rfl⟩)
          | (go_at_call 18; refine (rbyte_any _ _).mono ?_; rintro e w' ⟨rfl, rfl⟩))
        exact ⟨⟨7 + 1, by decide, rfl, by simp [tamTo, HQ.out]⟩, by simp [intOf]⟩
      · have HQ : Hid (tamOf f m b 7 = f 7) := if_neg hb
        go_wp2_with (first
          | (go_at_call 20; refine (rbit_any _ _ _).mono ?_; rintro e w' ⟨rfl, rfl⟩)
          | (go_at_call 18; refine (rbyte_any _ _).mono ?_; rintro e w' ⟨rfl, rfl⟩))
        exact ⟨⟨7 + 1, by decide, rfl, by simp [tamTo, HQ.out]⟩, by simp [intOf]⟩
    · go_wp2
      go_returns
      exact ⟨by simp [tamTo], ((Below.refl _ w).alloc (Nat.le_refl _) _).alloc (by simp) _⟩
end Go.Proofs.Ytddifggepiljbaa
