/- What each function of package bits, and of the document's answer for it, returns: one contract a function. -/
import Derived.Test.YtbgbedkmggefpaaRows
import Derived.Test.YtbgbedkmggefpaaPlain
import Derived.Test.YtbgbedkmggefpaaKit
import Derived.WalkKit
import Derived.ProofKit
import Derived.Deep.QuietTactic
import Derived.BigQuiet
namespace Go.Proofs.Ytbgbedkmggefpaa
open Go.RowKit


theorem word_any (n : Int) (w : World) :
    Calls Try.prog 9 #[.int .i64 n] w fun e w' => e = .returned (.int .i64 (n % 65536)) ∧ w' = w := by
  go_enter Try.func9, Try.ntmps9
  go_wp2
  go_ret
  exact ⟨ret_int (and_65535 n), rfl⟩





theorem inWord_any (k : Int) (w : World) :
    Calls Try.prog 10 #[.int .i64 k] w fun e w' => e = .returned (.bool (inW k)) ∧ w' = w := by
  by_cases h0 : 0 ≤ k
  · by_cases h1 : k < 16
    · have HB := hide (inW_yes h0 h1)
      go_enter Try.func10, Try.ntmps10
      go_wp2
      go_ret
      exact ⟨ret_bool HB.out.symm, rfl⟩
    · have HB := hide (inW_no (k := k) (by omega))
      go_enter Try.func10, Try.ntmps10
      go_wp2
      go_ret
      exact ⟨ret_bool HB.out.symm, rfl⟩
  · have HB := hide (inW_no (k := k) (by omega))
    go_enter Try.func10, Try.ntmps10
    go_wp2
    go_ret
    exact ⟨ret_bool HB.out.symm, rfl⟩

theorem bit_any (n k : Int) (w : World) :
    Calls Try.prog 8 #[.int .i64 n, .int .i64 k] w fun e w' => e = .returned (.int .i64 (bitOf n k)) ∧ w' = w := by
  by_cases h : 0 ≤ k ∧ k < 16
  · have hb : bitOf n k = n % 65536 / 2 ^ k.toNat % 2 := by unfold bitOf; rw [if_pos h]
    have HB := hide hb
    clear hb
    obtain ⟨h0, h1⟩ := h
    have hd := inW_yes h0 h1
    go_enter Try.func8, Try.ntmps8
    go_wp2_with (first
      | (go_at_call 10; refine (inWord_any _ _).mono ?_; rintro e w' ⟨rfl, rfl⟩)
      | (go_at_call 9; refine (word_any _ _).mono ?_; rintro e w' ⟨rfl, rfl⟩))
    go_ret
    exact ⟨ret_int (by rw [HB.out]; exact and_1 _), rfl⟩
  · have hb : bitOf n k = 0 := by unfold bitOf; rw [if_neg h]
    have HB := hide hb
    clear hb
    have hd := inW_no h
    go_enter Try.func8, Try.ntmps8
    go_wp2_with (first
      | (go_at_call 10; refine (inWord_any _ _).mono ?_; rintro e w' ⟨rfl, rfl⟩)
      | (go_at_call 9; refine (word_any _ _).mono ?_; rintro e w' ⟨rfl, rfl⟩))
    go_ret
    exact ⟨ret_int (by rw [HB.out]), rfl⟩













end Go.Proofs.Ytbgbedkmggefpaa
