/- What each function of package bits, and of the document's answer for it, returns: one contract a function. -/
import Derived.Test.YtpjhiopmdkieiabGreatDoorRows
import Derived.Test.YtpjhiopmdkieiabGreatDoorGenA
import Derived.WalkKit
import Derived.ProofKit
import Derived.Deep.QuietTactic
import Derived.BigQuiet
namespace Go.Proofs.YtpjhiopmdkieiabGreatDoor
open Go.RowKit

theorem byte_any (n : Int) (w : World) :
    Calls Tryz.prog 11 #[.int .i64 n] w fun e w' => e = .returned (.int .i64 (n % 256)) ∧ w' = w := by
  go_enter Tryz.func11, Tryz.ntmps11
  go_wp2
  go_ret
  exact ⟨ret_int (and_255 n), rfl⟩

theorem word_any (n : Int) (w : World) :
    Calls Tryz.prog 90 #[.int .i64 n] w fun e w' => e = .returned (.int .i64 (n % 65536)) ∧ w' = w := by
  go_enter Tryz.func90, Tryz.ntmps90
  go_wp2
  go_ret
  exact ⟨ret_int (and_65535 n), rfl⟩

theorem split_any (n : Int) (w : World) :
    Calls Tryz.prog 84 #[.int .i64 n] w fun e w' => e = .returned (.tuple #[.int .i64 (n % 256), .int .i64 (n / 256 % 256)]) ∧ w' = w := by
  go_enter Tryz.func84, Tryz.ntmps84
  go_wp2_with (go_at_call 11; refine (byte_any _ _).mono ?_; rintro e w' ⟨rfl, rfl⟩)
  go_ret2
  exact ⟨rfl, rfl⟩

theorem together_any (b off len cap : Nat) (zs : List Int) (w : World) (hz : zs.length = len) (hbig : len ≤ 1000) (hc : ∀ j, j < zs.length → w.cell? ⟨b, off + j, none⟩ = some (.int .i64 (zs[j]?.getD 0))) :
    Calls Tryz.prog 105 #[.slice (some ⟨b, off, none⟩) len cap] w fun e w' => e = .returned (.int .i64 (orAll zs)) ∧ w' = w := by
  go_enter Tryz.func105, Tryz.ntmps105
  go_wp2
  go_loop [3, 8] (fun t i => ∃ k : Nat, k ≤ len ∧ i = .int .i64 k ∧ t = .int .i64 (orAll (zs.take k))) (fun _ i => len - (intOf i).toNat)
  case atStart => exact ⟨0, Nat.zero_le _, rfl, rfl⟩
  case round =>
    obtain ⟨k, hk, rfl, rfl⟩ := hrel
    by_cases hlt : k < len
    · have hcell : w.cell? ⟨b, off + k, none⟩ = some (.int .i64 (zs[k]?.getD 0)) := hc k (by omega)
      have HS : Hid (orAll (zs.take (k + 1)) = bits .or .i64 (orAll (zs.take k)) (zs[k]?.getD 0)) := orAll_step zs k (by omega)
      clear hc
      generalize zs[k]?.getD 0 = z at *
      go_wp2
      go_round
      case rel => exact ⟨k + 1, by omega, by go_num, by rw [HS.out]⟩
      case measure => simp [intOf]; omega
    · go_wp2
      go_ret
      exact ⟨ret_int (by rw [List.take_of_length_le (by omega)]), rfl⟩

theorem join_any (a b : Int) (w : World) :
    Calls Tryz.prog 79 #[.int .i64 a, .int .i64 b] w fun e w' => e = .returned (.int .i64 (a % 256 + 256 * (b % 256))) ∧ Below w.heap.size w w' := by
  go_enter Tryz.func79, Tryz.ntmps79
  go_wp2_with (first
    | (go_at_call 11; refine (byte_any _ _).mono ?_; rintro e w' ⟨rfl, rfl⟩))
  refine (together_any _ 0 2 2 [a % 256, b % 256 * 256] _ rfl (by decide) ?_).mono ?_
  · exact alloc_row _ [a % 256, b % 256 * 256] _ _ rfl
  rintro e w1 ⟨rfl, rfl⟩
  go_wp2
  go_ret
  exact ⟨ret_int (orAll_join a b), (Below.refl _ _).alloc (Nat.le_refl _) _⟩


theorem inWord_any (k : Int) (w : World) :
    Calls Tryz.prog 89 #[.int .i64 k] w fun e w' => e = .returned (.bool (inW k)) ∧ w' = w := by
  by_cases h0 : 0 ≤ k
  · by_cases h1 : k < 16
    · have HB := hide (inW_yes h0 h1)
      go_enter Tryz.func89, Tryz.ntmps89
      go_wp2
      go_ret
      exact ⟨ret_bool HB.out.symm, rfl⟩
    · have HB := hide (inW_no (k := k) (by omega))
      go_enter Tryz.func89, Tryz.ntmps89
      go_wp2
      go_ret
      exact ⟨ret_bool HB.out.symm, rfl⟩
  · have HB := hide (inW_no (k := k) (by omega))
    go_enter Tryz.func89, Tryz.ntmps89
    go_wp2
    go_ret
    exact ⟨ret_bool HB.out.symm, rfl⟩

theorem bit_any (n k : Int) (w : World) :
    Calls Tryz.prog 53 #[.int .i64 n, .int .i64 k] w fun e w' => e = .returned (.int .i64 (bitOf n k)) ∧ w' = w := by
  by_cases h : 0 ≤ k ∧ k < 16
  · have hb : bitOf n k = n % 65536 / 2 ^ k.toNat % 2 := by unfold bitOf; rw [if_pos h]
    have HB := hide hb
    clear hb
    obtain ⟨h0, h1⟩ := h
    have hd := inW_yes h0 h1
    go_enter Tryz.func53, Tryz.ntmps53
    go_wp2_with (first
      | (go_at_call 89; refine (inWord_any _ _).mono ?_; rintro e w' ⟨rfl, rfl⟩)
      | (go_at_call 90; refine (word_any _ _).mono ?_; rintro e w' ⟨rfl, rfl⟩))
    go_ret
    exact ⟨ret_int (by rw [HB.out]; exact and_1 _), rfl⟩
  · have hb : bitOf n k = 0 := by unfold bitOf; rw [if_neg h]
    have HB := hide hb
    clear hb
    have hd := inW_no h
    go_enter Tryz.func53, Tryz.ntmps53
    go_wp2_with (first
      | (go_at_call 89; refine (inWord_any _ _).mono ?_; rintro e w' ⟨rfl, rfl⟩)
      | (go_at_call 90; refine (word_any _ _).mono ?_; rintro e w' ⟨rfl, rfl⟩))
    go_ret
    exact ⟨ret_int (by rw [HB.out]), rfl⟩



theorem put_any (n k : Int) (on : Bool) (w : World) :
    Calls Tryz.prog 95 #[.int .i64 n, .int .i64 k, .bool on] w fun e w' => e = .returned (.int .i64 (putOf n k on)) ∧ Below w.heap.size w w' := by
  by_cases h : 0 ≤ k ∧ k < 16
  · obtain ⟨h0, h1⟩ := h
    have hd := inW_yes h0 h1
    have hp := pow_16 k h0 h1
    cases on
    · have HB := hide (putOf_not n k h0 h1)
      go_enter Tryz.func95, Tryz.ntmps95
      go_wp2_with (first
        | (go_at_call 89; refine (inWord_any _ _).mono ?_; rintro e w' ⟨rfl, rfl⟩))
      go_quiet ((go_at_call 90; exact Calls.quiet_of_same (word_any _ _)))
      go_wp2
      go_ret
      exact ⟨ret_int (by rw [HB.out]; exact others n k h0 h1), below_drew (Below.refl _ _) _⟩
    · have HB := hide (putOf_yes n k h0 h1)
      go_enter Tryz.func95, Tryz.ntmps95
      go_wp2_with (first
        | (go_at_call 89; refine (inWord_any _ _).mono ?_; rintro e w' ⟨rfl, rfl⟩))
      go_quiet ((go_at_call 90; exact Calls.quiet_of_same (word_any _ _)))
      go_wp2_with fail
      rw [others n k h0 h1]
      refine (together_any _ 0 2 2 [n % 65536 - bitOf n k * 2 ^ k.toNat, 2 ^ k.toNat] _ rfl (by decide) ?_).mono ?_
      · exact alloc_row _ [n % 65536 - bitOf n k * 2 ^ k.toNat, 2 ^ k.toNat] _ _ rfl
      rintro e w1 ⟨rfl, rfl⟩
      go_wp2
      go_ret
      exact ⟨ret_int (by rw [HB.out]; exact orAll_put n k h0 h1), (below_drew (Below.refl _ _) _).alloc (Nat.le_refl _) _⟩
  · have hd := inW_no h
    have HB := hide (putOf_out n k on h)
    go_enter Tryz.func95, Tryz.ntmps95
    go_wp2_with (first
      | (go_at_call 89; refine (inWord_any _ _).mono ?_; rintro e w' ⟨rfl, rfl⟩)
      | (go_at_call 90; refine (word_any _ _).mono ?_; rintro e w' ⟨rfl, rfl⟩))
    go_ret
    exact ⟨ret_int HB.out.symm, Below.refl _ _⟩










end Go.Proofs.YtpjhiopmdkieiabGreatDoor
