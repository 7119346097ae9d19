/- Package vram: the contracts at nil, and at video memory that no call made: nothing is done. -/
import Derived.Test.YtbeiphnlckflpaaLaw13
namespace Go.Proofs.Ytbeiphnlckflpaa
open Go.RowKit
set_option linter.unusedVariables false

theorem setWrite_no (q : Option Addr) (w : World) (hm : Hid (Calls Try.prog 26 #[.pointer q] w fun e w' => e = .returned (.bool true) ∧ w' = w)) (n : Int) : Calls Try.prog 10 #[.pointer q, .int .i64 n] w fun e w' => e = .returned (.tuple #[]) ∧ w' = w := by
  go_enter Try.func10, Try.ntmps10
  go_wp2_with (first | (go_at_call 26; refine hm.out.mono ?_; rintro e w' ⟨rfl, hw⟩; subst w') | (go_at_call 27; refine (word_any _ _).mono ?_; rintro e w' ⟨rfl, hw⟩; subst w'))
  refine bodyPost_ret (results_none rfl _ _ _) rfl ?_
  exact ⟨rfl, rfl⟩
theorem setRead_no (q : Option Addr) (w : World) (hm : Hid (Calls Try.prog 26 #[.pointer q] w fun e w' => e = .returned (.bool true) ∧ w' = w)) (n : Int) : Calls Try.prog 11 #[.pointer q, .int .i64 n] w fun e w' => e = .returned (.tuple #[]) ∧ w' = w := by
  go_enter Try.func11, Try.ntmps11
  go_wp2_with (first | (go_at_call 26; refine hm.out.mono ?_; rintro e w' ⟨rfl, hw⟩; subst w') | (go_at_call 27; refine (word_any _ _).mono ?_; rintro e w' ⟨rfl, hw⟩; subst w'))
  refine bodyPost_ret (results_none rfl _ _ _) rfl ?_
  exact ⟨rfl, rfl⟩
theorem setStep_no (q : Option Addr) (w : World) (hm : Hid (Calls Try.prog 26 #[.pointer q] w fun e w' => e = .returned (.bool true) ∧ w' = w)) (n : Int) : Calls Try.prog 13 #[.pointer q, .int .i64 n] w fun e w' => e = .returned (.tuple #[]) ∧ w' = w := by
  go_enter Try.func13, Try.ntmps13
  go_wp2_with (first | (go_at_call 26; refine hm.out.mono ?_; rintro e w' ⟨rfl, hw⟩; subst w') | (go_at_call 27; refine (word_any _ _).mono ?_; rintro e w' ⟨rfl, hw⟩; subst w'))
  refine bodyPost_ret (results_none rfl _ _ _) rfl ?_
  exact ⟨rfl, rfl⟩
theorem put_no (q : Option Addr) (w : World) (hm : Hid (Calls Try.prog 26 #[.pointer q] w fun e w' => e = .returned (.bool true) ∧ w' = w)) (h : Bool) (n : Int) : Calls Try.prog 14 #[.pointer q, .bool h, .int .i64 n] w fun e w' => e = .returned (.tuple #[]) ∧ w' = w := by
  go_enter Try.func14, Try.ntmps14
  go_wp2_with (first | (go_at_call 26; refine hm.out.mono ?_; rintro e w' ⟨rfl, hw⟩; subst w') | (go_at_call 27; refine (word_any _ _).mono ?_; rintro e w' ⟨rfl, hw⟩; subst w'))
  refine bodyPost_ret (results_none rfl _ _ _) rfl ?_
  exact ⟨rfl, rfl⟩
theorem poke_no (q : Option Addr) (w : World) (hm : Hid (Calls Try.prog 26 #[.pointer q] w fun e w' => e = .returned (.bool true) ∧ w' = w)) (n x : Int) : Calls Try.prog 18 #[.pointer q, .int .i64 n, .int .i64 x] w fun e w' => e = .returned (.tuple #[]) ∧ w' = w := by
  go_enter Try.func18, Try.ntmps18
  go_wp2_with (first | (go_at_call 26; refine hm.out.mono ?_; rintro e w' ⟨rfl, hw⟩; subst w') | (go_at_call 27; refine (word_any _ _).mono ?_; rintro e w' ⟨rfl, hw⟩; subst w'))
  refine bodyPost_ret (results_none rfl _ _ _) rfl ?_
  exact ⟨rfl, rfl⟩
theorem get_no (q : Option Addr) (w : World) (hm : Hid (Calls Try.prog 26 #[.pointer q] w fun e w' => e = .returned (.bool true) ∧ w' = w)) (h : Bool) : Calls Try.prog 16 #[.pointer q, .bool h] w fun e w' => e = .returned (.int .i64 0) ∧ w' = w := by
  go_enter Try.func16, Try.ntmps16
  go_wp2_with (first | (go_at_call 26; refine hm.out.mono ?_; rintro e w' ⟨rfl, hw⟩; subst w'))
  go_ret
  exact ⟨rfl, rfl⟩
theorem word_no (q : Option Addr) (w : World) (hm : Hid (Calls Try.prog 26 #[.pointer q] w fun e w' => e = .returned (.bool true) ∧ w' = w)) (n : Int) : Calls Try.prog 21 #[.pointer q, .int .i64 n] w fun e w' => e = .returned (.int .i64 0) ∧ w' = w := by
  go_enter Try.func21, Try.ntmps21
  go_wp2_with (first | (go_at_call 26; refine hm.out.mono ?_; rintro e w' ⟨rfl, hw⟩; subst w') | (go_at_call 27; refine (word_any _ _).mono ?_; rintro e w' ⟨rfl, hw⟩; subst w'))
  go_ret
  exact ⟨rfl, rfl⟩
theorem words_no (q : Option Addr) (w : World) (hm : Hid (Calls Try.prog 26 #[.pointer q] w fun e w' => e = .returned (.bool true) ∧ w' = w)) (n m : Int) : Calls Try.prog 23 #[.pointer q, .int .i64 n, .int .i64 m] w fun e w' => e = .returned (.slice none 0 0) ∧ w' = w := by
  go_enter Try.func23, Try.ntmps23
  go_wp2_with (first | (go_at_call 26; refine hm.out.mono ?_; rintro e w' ⟨rfl, hw⟩; subst w') | (go_at_call 27; refine (word_any _ _).mono ?_; rintro e w' ⟨rfl, hw⟩; subst w'))
  go_ret
  exact ⟨rfl, rfl⟩
theorem ports_no (q : Option Addr) (w : World) (hm : Hid (Calls Try.prog 26 #[.pointer q] w fun e w' => e = .returned (.bool true) ∧ w' = w)) : Calls Try.prog 20 #[.pointer q] w fun e w' => e = .returned (.tuple #[.int .i64 0, .int .i64 0, .int .i64 0, .int .i64 0, .int .i64 0]) ∧ w' = w := by
  go_enter Try.func20, Try.ntmps20
  go_wp2_with (first | (go_at_call 26; refine hm.out.mono ?_; rintro e w' ⟨rfl, hw⟩; subst w'))
  refine bodyPost_ret (results_five rfl _ _ _) rfl ?_
  exact ⟨rfl, rfl⟩
end Go.Proofs.Ytbeiphnlckflpaa
