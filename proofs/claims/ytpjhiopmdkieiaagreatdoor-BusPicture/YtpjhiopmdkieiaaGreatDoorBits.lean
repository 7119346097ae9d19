/- What each function of package bits, and of the document's answer for it, returns: one contract a function. -/
import Derived.Test.YtpjhiopmdkieiaaGreatDoorRows
import Derived.Test.YtpjhiopmdkieiaaGreatDoorGenA
import Derived.WalkKit
import Derived.ProofKit
import Derived.Deep.QuietTactic
import Derived.BigQuiet
namespace Go.Proofs.YtpjhiopmdkieiaaGreatDoor
open Go.RowKit

theorem byte_any (n : Int) (w : World) :
    Calls Tryz.prog 46 #[.int .i64 n] w fun e w' => e = .returned (.int .i64 (n % 256)) ∧ w' = w := by
  go_enter Tryz.func46, Tryz.ntmps46
  go_wp2
  go_ret
  exact ⟨ret_int (and_255 n), rfl⟩

theorem word_any (n : Int) (w : World) :
    Calls Tryz.prog 67 #[.int .i64 n] w fun e w' => e = .returned (.int .i64 (n % 65536)) ∧ w' = w := by
  go_enter Tryz.func67, Tryz.ntmps67
  go_wp2
  go_ret
  exact ⟨ret_int (and_65535 n), rfl⟩

theorem split_any (n : Int) (w : World) :
    Calls Tryz.prog 128 #[.int .i64 n] w fun e w' => e = .returned (.tuple #[.int .i64 (n % 256), .int .i64 (n / 256 % 256)]) ∧ w' = w := by
  go_enter Tryz.func128, Tryz.ntmps128
  go_wp2_with (go_at_call 46; refine (byte_any _ _).mono ?_; rintro e w' ⟨rfl, rfl⟩)
  go_ret2
  exact ⟨rfl, rfl⟩

theorem together_any (b off len cap : Nat) (zs : List Int) (w : World) (hz : zs.length = len) (hbig : len ≤ 1000) (hc : ∀ j, j < zs.length → w.cell? ⟨b, off + j, none⟩ = some (.int .i64 (zs[j]?.getD 0))) :
    Calls Tryz.prog 161 #[.slice (some ⟨b, off, none⟩) len cap] w fun e w' => e = .returned (.int .i64 (orAll zs)) ∧ w' = w := by
  go_enter Tryz.func161, Tryz.ntmps161
  go_wp2
  go_loop [3, 8] (fun t i => ∃ k : Nat, k ≤ len ∧ i = .int .i64 k ∧ t = .int .i64 (orAll (zs.take k))) (fun _ i => len - (intOf i).toNat)
  case atStart => exact ⟨0, Nat.zero_le _, rfl, rfl⟩
  case round =>
    obtain ⟨k, hk, rfl, rfl⟩ := hrel
    by_cases hlt : k < len
    · have hcell : w.cell? ⟨b, off + k, none⟩ = some (.int .i64 (zs[k]?.getD 0)) := hc k (by omega)
      have HS : Hid (orAll (zs.take (k + 1)) = bits .or .i64 (orAll (zs.take k)) (zs[k]?.getD 0)) := orAll_step zs k (by omega)
      clear hc
      generalize zs[k]?.getD 0 = z at *
      go_wp2
      go_round
      case rel => exact ⟨k + 1, by omega, by go_num, by rw [HS.out]⟩
      case measure => simp [intOf]; omega
    · go_wp2
      go_ret
      exact ⟨ret_int (by rw [List.take_of_length_le (by omega)]), rfl⟩

theorem join_any (a b : Int) (w : World) :
    Calls Tryz.prog 140 #[.int .i64 a, .int .i64 b] w fun e w' => e = .returned (.int .i64 (a % 256 + 256 * (b % 256))) ∧ Below w.heap.size w w' := by
  go_enter Tryz.func140, Tryz.ntmps140
  go_wp2_with (first
    | (go_at_call 46; refine (byte_any _ _).mono ?_; rintro e w' ⟨rfl, rfl⟩))
  refine (together_any _ 0 2 2 [a % 256, b % 256 * 256] _ rfl (by decide) ?_).mono ?_
  · exact alloc_row _ [a % 256, b % 256 * 256] _ _ rfl
  rintro e w1 ⟨rfl, rfl⟩
  go_wp2
  go_ret
  exact ⟨ret_int (orAll_join a b), (Below.refl _ _).alloc (Nat.le_refl _) _⟩


theorem inWord_any (k : Int) (w : World) :
    Calls Tryz.prog 147 #[.int .i64 k] w fun e w' => e = .returned (.bool (inW k)) ∧ w' = w := by
  by_cases h0 : 0 ≤ k
  · by_cases h1 : k < 16
    · have HB := hide (inW_yes h0 h1)
      go_enter Tryz.func147, Tryz.ntmps147
      go_wp2
      go_ret
      exact ⟨ret_bool HB.out.symm, rfl⟩
    · have HB := hide (inW_no (k := k) (by omega))
      go_enter Tryz.func147, Tryz.ntmps147
      go_wp2
      go_ret
      exact ⟨ret_bool HB.out.symm, rfl⟩
  · have HB := hide (inW_no (k := k) (by omega))
    go_enter Tryz.func147, Tryz.ntmps147
    go_wp2
    go_ret
    exact ⟨ret_bool HB.out.symm, rfl⟩

theorem bit_any (n k : Int) (w : World) :
    Calls Tryz.prog 104 #[.int .i64 n, .int .i64 k] w fun e w' => e = .returned (.int .i64 (bitOf n k)) ∧ w' = w := by
  by_cases h : 0 ≤ k ∧ k < 16
  · have hb : bitOf n k = n % 65536 / 2 ^ k.toNat % 2 := by unfold bitOf; rw [if_pos h]
    have HB := hide hb
    clear hb
    obtain ⟨h0, h1⟩ := h
    have hd := inW_yes h0 h1
    go_enter Tryz.func104, Tryz.ntmps104
    go_wp2_with (first
      | (go_at_call 147; refine (inWord_any _ _).mono ?_; rintro e w' ⟨rfl, rfl⟩)
      | (go_at_call 67; refine (word_any _ _).mono ?_; rintro e w' ⟨rfl, rfl⟩))
    go_ret
    exact ⟨ret_int (by rw [HB.out]; exact and_1 _), rfl⟩
  · have hb : bitOf n k = 0 := by unfold bitOf; rw [if_neg h]
    have HB := hide hb
    clear hb
    have hd := inW_no h
    go_enter Tryz.func104, Tryz.ntmps104
    go_wp2_with (first
      | (go_at_call 147; refine (inWord_any _ _).mono ?_; rintro e w' ⟨rfl, rfl⟩)
      | (go_at_call 67; refine (word_any _ _).mono ?_; rintro e w' ⟨rfl, rfl⟩))
    go_ret
    exact ⟨ret_int (by rw [HB.out]), rfl⟩



theorem put_any (n k : Int) (on : Bool) (w : World) :
    Calls Tryz.prog 130 #[.int .i64 n, .int .i64 k, .bool on] w fun e w' => e = .returned (.int .i64 (putOf n k on)) ∧ Below w.heap.size w w' := by
  by_cases h : 0 ≤ k ∧ k < 16
  · obtain ⟨h0, h1⟩ := h
    have hd := inW_yes h0 h1
    have hp := pow_16 k h0 h1
    cases on
    · have HB := hide (putOf_not n k h0 h1)
      go_enter Tryz.func130, Tryz.ntmps130
      go_wp2_with (first
        | (go_at_call 147; refine (inWord_any _ _).mono ?_; rintro e w' ⟨rfl, rfl⟩))
      go_quiet ((go_at_call 67; exact Calls.quiet_of_same (word_any _ _)))
      go_wp2
      go_ret
      exact ⟨ret_int (by rw [HB.out]; exact others n k h0 h1), below_drew (Below.refl _ _) _⟩
    · have HB := hide (putOf_yes n k h0 h1)
      go_enter Tryz.func130, Tryz.ntmps130
      go_wp2_with (first
        | (go_at_call 147; refine (inWord_any _ _).mono ?_; rintro e w' ⟨rfl, rfl⟩))
      go_quiet ((go_at_call 67; exact Calls.quiet_of_same (word_any _ _)))
      go_wp2_with fail
      rw [others n k h0 h1]
      refine (together_any _ 0 2 2 [n % 65536 - bitOf n k * 2 ^ k.toNat, 2 ^ k.toNat] _ rfl (by decide) ?_).mono ?_
      · exact alloc_row _ [n % 65536 - bitOf n k * 2 ^ k.toNat, 2 ^ k.toNat] _ _ rfl
      rintro e w1 ⟨rfl, rfl⟩
      go_wp2
      go_ret
      exact ⟨ret_int (by rw [HB.out]; exact orAll_put n k h0 h1), (below_drew (Below.refl _ _) _).alloc (Nat.le_refl _) _⟩
  · have hd := inW_no h
    have HB := hide (putOf_out n k on h)
    go_enter Tryz.func130, Tryz.ntmps130
    go_wp2_with (first
      | (go_at_call 147; refine (inWord_any _ _).mono ?_; rintro e w' ⟨rfl, rfl⟩)
      | (go_at_call 67; refine (word_any _ _).mono ?_; rintro e w' ⟨rfl, rfl⟩))
    go_ret
    exact ⟨ret_int HB.out.symm, Below.refl _ _⟩

theorem mod_any (n m : Int) (w : World) (hm : 0 < m) (hm2 : m ≤ 65536) :
    Calls Tryz.prog 91 #[.int .i64 n, .int .i64 m] w fun e w' => e = .returned (.int .i64 (n % m)) ∧ w' = w := by
  have ht : n.tmod m = if 0 ≤ n ∨ n % m = 0 then n % m else n % m - m := by
    rw [Int.tmod_eq_emod]
    have hd : m ∣ n ↔ n % m = 0 := Int.dvd_iff_emod_eq_zero
    simp only [hd]
    split <;> omega
  have h1 := Int.emod_nonneg n (Int.ne_of_gt hm)
  have h2 := Int.emod_lt_of_pos n hm
  have HT := hide ht
  clear ht
  by_cases h : 0 ≤ n ∨ n % m = 0
  · have e : n.tmod m = n % m := by rw [HT.out, if_pos h]
    go_enter Tryz.func91, Tryz.ntmps91
    go_wp2
    go_ret
    exact ⟨rfl, rfl⟩
  · have e : n.tmod m = n % m - m := by rw [HT.out, if_neg h]
    go_enter Tryz.func91, Tryz.ntmps91
    go_wp2
    go_ret
    exact ⟨ret_int (by omega), rfl⟩

theorem rbyte_any (n : Int) (w : World) :
    Calls Tryz.prog 56 #[.int .i64 n] w fun e w' => e = .returned (.int .i64 (n % 256)) ∧ w' = w := by
  go_enter Tryz.func56, Tryz.ntmps56
  go_wp2_with (go_at_call 91; refine (mod_any _ _ _ (by decide) (by decide)).mono ?_; rintro e w' ⟨rfl, rfl⟩)
  go_ret
  exact ⟨rfl, rfl⟩

theorem rword_any (n : Int) (w : World) :
    Calls Tryz.prog 69 #[.int .i64 n] w fun e w' => e = .returned (.int .i64 (n % 65536)) ∧ w' = w := by
  go_enter Tryz.func69, Tryz.ntmps69
  go_wp2_with (go_at_call 91; refine (mod_any _ _ _ (by decide) (by decide)).mono ?_; rintro e w' ⟨rfl, rfl⟩)
  go_ret
  exact ⟨rfl, rfl⟩

theorem rjoin_any (a b : Int) (w : World) :
    Calls Tryz.prog 152 #[.int .i64 a, .int .i64 b] w fun e w' => e = .returned (.int .i64 (a % 256 + 256 * (b % 256))) ∧ w' = w := by
  go_enter Tryz.func152, Tryz.ntmps152
  go_wp2_with (go_at_call 56; refine (rbyte_any _ _).mono ?_; rintro e w' ⟨rfl, rfl⟩)
  go_ret
  exact ⟨rfl, rfl⟩


theorem power_any (k : Int) (w : World) (h0 : 0 ≤ k) (h1 : k < 16) :
    Calls Tryz.prog 155 #[.int .i64 k] w fun e w' => e = .returned (.int .i64 (2 ^ k.toNat)) ∧ w' = w := by
  obtain ⟨k, rfl⟩ := Int.eq_ofNat_of_zero_le h0
  simp only [Int.toNat_natCast]
  go_enter Tryz.func155, Tryz.ntmps155
  go_wp2
  go_loop [3, 4] (fun t i => ∃ j : Nat, j ≤ k ∧ i = .int .i64 j ∧ t = .int .i64 (2 ^ j)) (fun _ i => k - (intOf i).toNat)
  case atStart => exact ⟨0, Nat.zero_le _, rfl, rfl⟩
  case round =>
    obtain ⟨j, hj, rfl, rfl⟩ := hrel
    have hp := pow_16 (j : Int) (by omega) (by omega)
    simp only [Int.toNat_natCast] at hp
    by_cases hlt : j < k
    · have HS := hide (Int.pow_succ 2 j)
      generalize (2 : Int) ^ j = p at *
      go_wp2
      go_round
      case rel => exact ⟨j + 1, by omega, by go_num, by rw [HS.out]⟩
      case measure => simp [intOf]; omega
    · obtain rfl : j = k := by omega
      go_wp2
      go_ret
      exact ⟨rfl, rfl⟩

theorem rbit_any (n k : Int) (w : World) :
    Calls Tryz.prog 113 #[.int .i64 n, .int .i64 k] w fun e w' => e = .returned (.int .i64 (bitOf n k)) ∧ w' = w := by
  by_cases h : 0 ≤ k ∧ k < 16
  · obtain ⟨h0, h1⟩ := h
    have HB := hide (bitOf_in n k h0 h1)
    have hp := pow_16 k h0 h1
    go_enter Tryz.func113, Tryz.ntmps113
    go_wp2_with (first
      | (go_at_call 155; refine (power_any _ _ h0 h1).mono ?_; rintro e w' ⟨rfl, rfl⟩)
      | (go_at_call 69; refine (rword_any _ _).mono ?_; rintro e w' ⟨rfl, rfl⟩))
    go_ret
    exact ⟨ret_int (by rw [HB.out]; exact Int.tmod_eq_emod_of_nonneg (Int.ediv_nonneg (by omega) (by omega))), rfl⟩
  · have HB := hide (bitOf_out n k h)
    by_cases h0 : k < 0
    · go_enter Tryz.func113, Tryz.ntmps113
      go_wp2
      go_ret
      exact ⟨ret_int HB.out.symm, rfl⟩
    · have h1 : 15 < k := by omega
      clear h
      go_enter Tryz.func113, Tryz.ntmps113
      go_wp2
      go_ret
      exact ⟨ret_int HB.out.symm, rfl⟩

theorem rput_any (n k : Int) (on : Bool) (w : World) :
    Calls Tryz.prog 114 #[.int .i64 n, .int .i64 k, .bool on] w fun e w' => e = .returned (.int .i64 (putOf n k on)) ∧ w' = w := by
  by_cases h : 0 ≤ k ∧ k < 16
  · obtain ⟨h0, h1⟩ := h
    have hp := pow_16 k h0 h1
    have hb := bitOf_01 n k
    have hm : 0 ≤ bitOf n k * 2 ^ k.toNat ∧ bitOf n k * 2 ^ k.toNat ≤ 32768 := by
      have : bitOf n k = 0 ∨ bitOf n k = 1 := by omega
      rcases this with e | e <;> rw [e] <;> omega
    cases on
    · have HB := hide (putOf_not n k h0 h1)
      go_enter Tryz.func114, Tryz.ntmps114
      go_wp2_with (first
        | (go_at_call 155; refine (power_any _ _ h0 h1).mono ?_; rintro e w' ⟨rfl, rfl⟩)
        | (go_at_call 113; refine (rbit_any _ _ _).mono ?_; rintro e w' ⟨rfl, rfl⟩)
        | (go_at_call 69; refine (rword_any _ _).mono ?_; rintro e w' ⟨rfl, rfl⟩))
      go_ret
      exact ⟨ret_int HB.out.symm, rfl⟩
    · have HB := hide (putOf_yes n k h0 h1)
      go_enter Tryz.func114, Tryz.ntmps114
      go_wp2_with (first
        | (go_at_call 155; refine (power_any _ _ h0 h1).mono ?_; rintro e w' ⟨rfl, rfl⟩)
        | (go_at_call 113; refine (rbit_any _ _ _).mono ?_; rintro e w' ⟨rfl, rfl⟩)
        | (go_at_call 69; refine (rword_any _ _).mono ?_; rintro e w' ⟨rfl, rfl⟩))
      go_ret
      exact ⟨ret_int HB.out.symm, rfl⟩
  · have HB := hide (putOf_out n k on h)
    by_cases h0 : k < 0
    · go_enter Tryz.func114, Tryz.ntmps114
      go_wp2_with (go_at_call 69; refine (rword_any _ _).mono ?_; rintro e w' ⟨rfl, rfl⟩)
      go_ret
      exact ⟨ret_int HB.out.symm, rfl⟩
    · have h1 : 15 < k := by omega
      clear h
      go_enter Tryz.func114, Tryz.ntmps114
      go_wp2_with (go_at_call 69; refine (rword_any _ _).mono ?_; rintro e w' ⟨rfl, rfl⟩)
      go_ret
      exact ⟨ret_int HB.out.symm, rfl⟩


end Go.Proofs.YtpjhiopmdkieiaaGreatDoor
