/- What each function of package bits, and of the document's answer for it, returns: one contract a function. -/
import Derived.Test.YtnmdifgoimoecaaDoorRows
import Derived.Test.YtnmdifgoimoecaaDoorPlain
import Derived.Test.YtnmdifgoimoecaaDoorKit
import Derived.WalkKit
import Derived.ProofKit
import Derived.Deep.QuietTactic
import Derived.BigQuiet
namespace Go.Proofs.YtnmdifgoimoecaaDoor
open Go.RowKit












theorem mod_any (n m : Int) (w : World) (hm : 0 < m) (hm2 : m ≤ 65536) :
    Calls Tryd.prog 21 #[.int .i64 n, .int .i64 m] w fun e w' => e = .returned (.int .i64 (n % m)) ∧ w' = w := by
  have ht : n.tmod m = if 0 ≤ n ∨ n % m = 0 then n % m else n % m - m := by
    rw [Int.tmod_eq_emod]
    have hd : m ∣ n ↔ n % m = 0 := Int.dvd_iff_emod_eq_zero
    simp only [hd]
    split <;> omega
  have h1 := Int.emod_nonneg n (Int.ne_of_gt hm)
  have h2 := Int.emod_lt_of_pos n hm
  have HT := hide ht
  clear ht
  by_cases h : 0 ≤ n ∨ n % m = 0
  · have e : n.tmod m = n % m := by rw [HT.out, if_pos h]
    go_enter Tryd.func21, Tryd.ntmps21
    go_wp2
    go_ret
    exact ⟨rfl, rfl⟩
  · have e : n.tmod m = n % m - m := by rw [HT.out, if_neg h]
    go_enter Tryd.func21, Tryd.ntmps21
    go_wp2
    go_ret
    exact ⟨ret_int (by omega), rfl⟩


theorem rword_any (n : Int) (w : World) :
    Calls Tryd.prog 19 #[.int .i64 n] w fun e w' => e = .returned (.int .i64 (n % 65536)) ∧ w' = w := by
  go_enter Tryd.func19, Tryd.ntmps19
  go_wp2_with (go_at_call 21; refine (mod_any _ _ _ (by decide) (by decide)).mono ?_; rintro e w' ⟨rfl, rfl⟩)
  go_ret
  exact ⟨rfl, rfl⟩



theorem power_any (k : Int) (w : World) (h0 : 0 ≤ k) (h1 : k < 16) :
    Calls Tryd.prog 20 #[.int .i64 k] w fun e w' => e = .returned (.int .i64 (2 ^ k.toNat)) ∧ w' = w := by
  obtain ⟨k, rfl⟩ := Int.eq_ofNat_of_zero_le h0
  simp only [Int.toNat_natCast]
  go_enter Tryd.func20, Tryd.ntmps20
  go_wp2
  go_loop [3, 4] (fun t i => ∃ j : Nat, j ≤ k ∧ i = .int .i64 j ∧ t = .int .i64 (2 ^ j)) (fun _ i => k - (intOf i).toNat)
  case atStart => exact ⟨0, Nat.zero_le _, rfl, rfl⟩
  case round =>
    obtain ⟨j, hj, rfl, rfl⟩ := hrel
    have hp := pow_16 (j : Int) (by omega) (by omega)
    simp only [Int.toNat_natCast] at hp
    by_cases hlt : j < k
    · have HS := hide (Int.pow_succ 2 j)
      generalize (2 : Int) ^ j = p at *
      go_wp2
      go_round
      case rel => exact ⟨j + 1, by omega, by go_num, by rw [HS.out]⟩
      case measure => simp [intOf]; omega
    · obtain rfl : j = k := by omega
      go_wp2
      go_ret
      exact ⟨rfl, rfl⟩

theorem rbit_any (n k : Int) (w : World) :
    Calls Tryd.prog 15 #[.int .i64 n, .int .i64 k] w fun e w' => e = .returned (.int .i64 (bitOf n k)) ∧ w' = w := by
  by_cases h : 0 ≤ k ∧ k < 16
  · obtain ⟨h0, h1⟩ := h
    have HB := hide (bitOf_in n k h0 h1)
    have hp := pow_16 k h0 h1
    go_enter Tryd.func15, Tryd.ntmps15
    go_wp2_with (first
      | (go_at_call 20; refine (power_any _ _ h0 h1).mono ?_; rintro e w' ⟨rfl, rfl⟩)
      | (go_at_call 19; refine (rword_any _ _).mono ?_; rintro e w' ⟨rfl, rfl⟩))
    go_ret
    exact ⟨ret_int (by rw [HB.out]; exact Int.tmod_eq_emod_of_nonneg (Int.ediv_nonneg (by omega) (by omega))), rfl⟩
  · have HB := hide (bitOf_out n k h)
    by_cases h0 : k < 0
    · go_enter Tryd.func15, Tryd.ntmps15
      go_wp2
      go_ret
      exact ⟨ret_int HB.out.symm, rfl⟩
    · have h1 : 15 < k := by omega
      clear h
      go_enter Tryd.func15, Tryd.ntmps15
      go_wp2
      go_ret
      exact ⟨ret_int HB.out.symm, rfl⟩

theorem rput_any (n k : Int) (on : Bool) (w : World) :
    Calls Tryd.prog 18 #[.int .i64 n, .int .i64 k, .bool on] w fun e w' => e = .returned (.int .i64 (putOf n k on)) ∧ w' = w := by
  by_cases h : 0 ≤ k ∧ k < 16
  · obtain ⟨h0, h1⟩ := h
    have hp := pow_16 k h0 h1
    have hb := bitOf_01 n k
    have hm : 0 ≤ bitOf n k * 2 ^ k.toNat ∧ bitOf n k * 2 ^ k.toNat ≤ 32768 := by
      have : bitOf n k = 0 ∨ bitOf n k = 1 := by omega
      rcases this with e | e <;> rw [e] <;> omega
    cases on
    · have HB := hide (putOf_not n k h0 h1)
      go_enter Tryd.func18, Tryd.ntmps18
      go_wp2_with (first
        | (go_at_call 20; refine (power_any _ _ h0 h1).mono ?_; rintro e w' ⟨rfl, rfl⟩)
        | (go_at_call 15; refine (rbit_any _ _ _).mono ?_; rintro e w' ⟨rfl, rfl⟩)
        | (go_at_call 19; refine (rword_any _ _).mono ?_; rintro e w' ⟨rfl, rfl⟩))
      go_ret
      exact ⟨ret_int HB.out.symm, rfl⟩
    · have HB := hide (putOf_yes n k h0 h1)
      go_enter Tryd.func18, Tryd.ntmps18
      go_wp2_with (first
        | (go_at_call 20; refine (power_any _ _ h0 h1).mono ?_; rintro e w' ⟨rfl, rfl⟩)
        | (go_at_call 15; refine (rbit_any _ _ _).mono ?_; rintro e w' ⟨rfl, rfl⟩)
        | (go_at_call 19; refine (rword_any _ _).mono ?_; rintro e w' ⟨rfl, rfl⟩))
      go_ret
      exact ⟨ret_int HB.out.symm, rfl⟩
  · have HB := hide (putOf_out n k on h)
    by_cases h0 : k < 0
    · go_enter Tryd.func18, Tryd.ntmps18
      go_wp2_with (go_at_call 19; refine (rword_any _ _).mono ?_; rintro e w' ⟨rfl, rfl⟩)
      go_ret
      exact ⟨ret_int HB.out.symm, rfl⟩
    · have h1 : 15 < k := by omega
      clear h
      go_enter Tryd.func18, Tryd.ntmps18
      go_wp2_with (go_at_call 19; refine (rword_any _ _).mono ?_; rintro e w' ⟨rfl, rfl⟩)
      go_ret
      exact ⟨ret_int HB.out.symm, rfl⟩


end Go.Proofs.YtnmdifgoimoecaaDoor
