/- Layer 21's answers by the document: state, bit, Step, Jump, Period. -/
import Derived.Test.YtcpilhbinkamiaaDoorStep21
import Derived.WalkMore
namespace Go.Proofs.YtcpilhbinkamiaaDoor
open Go.RowKit
set_option linter.unusedVariables false

theorem rmod_any (n m : Int) (w : World) (hm : 0 < m) (hm2 : m ≤ 262144) :
    Calls Tryd.prog 42 #[.int .i64 n, .int .i64 m] w fun e w' => e = .returned (.int .i64 (n % m)) ∧ w' = w := by
  have ht : n.tmod m = if 0 ≤ n ∨ n % m = 0 then n % m else n % m - m := by
    rw [Int.tmod_eq_emod]
    have hd : m ∣ n ↔ n % m = 0 := Int.dvd_iff_emod_eq_zero
    simp only [hd]
    split <;> omega
  have h1 := Int.emod_nonneg n (Int.ne_of_gt hm)
  have h2 := Int.emod_lt_of_pos n hm
  have HT := hide ht
  clear ht
  by_cases h : 0 ≤ n ∨ n % m = 0
  · have e : n.tmod m = n % m := by rw [HT.out, if_pos h]
    go_enter Tryd.func42, Tryd.ntmps42
    go_wp2
    go_ret
    exact ⟨rfl, rfl⟩
  · have e : n.tmod m = n % m - m := by rw [HT.out, if_neg h]
    go_enter Tryd.func42, Tryd.ntmps42
    go_wp2
    go_ret
    exact ⟨ret_int (by omega), rfl⟩
theorem rpower_any (k : Nat) (w : World) (h1 : k ≤ 17) :
    Calls Tryd.prog 55 #[.int .i64 (k : Int)] w fun e w' => e = .returned (.int .i64 ((2 ^ k : Nat) : Int)) ∧ w' = w := by
  go_enter Tryd.func55, Tryd.ntmps55
  go_wp2
  go_loop [3, 4] (fun t i => ∃ j : Nat, j ≤ k ∧ i = .int .i64 j ∧ t = .int .i64 ((2 ^ j : Nat) : Int)) (fun _ i => k - (intOf i).toNat)
  case atStart => exact ⟨0, Nat.zero_le _, rfl, rfl⟩
  case round =>
    obtain ⟨j, hj, rfl, rfl⟩ := hrel
    have hp : (2 : Nat) ^ j ≤ 2 ^ 17 := Nat.pow_le_pow_right (by decide) (by omega)
    by_cases hlt : j < k
    · have HS := hide (Nat.pow_succ (n := 2) (m := j))
      generalize (2 : Nat) ^ j = p at *
      have hp2 : (p : Int) ≤ 131072 := by omega
      go_wp2
      go_round
      case rel => exact ⟨j + 1, by omega, by go_num, by rw [HS.out]; congr 1⟩
      case measure => simp [intOf]; omega
    · obtain rfl : j = k := by omega
      go_wp2
      go_ret
      exact ⟨rfl, rfl⟩
theorem rstate_any (s : Int) (w : World) : Calls Tryd.prog 56 #[.int .i64 s] w fun e w' => e = .returned (.int .i64 (stOf s : Nat)) ∧ w' = w := by
  have K := hide (rmod_any s 262144)
  by_cases h : s % 262144 = 0
  · have HQ : Hid (((stOf s : Nat) : Int) = 1) := by unfold stOf; rw [if_pos h]; rfl
    rw [h] at K
    clear h
    go_enter Tryd.func56, Tryd.ntmps56
    go_wp2_with (go_at_call 42; refine (K.out _ (by decide) (by decide)).mono ?_; rintro e w' ⟨rfl, rfl⟩)
    go_ret
    exact ⟨ret_int HQ.out.symm, rfl⟩
  · have HQ : Hid (((stOf s : Nat) : Int) = s % 262144) := by unfold stOf; rw [if_neg h]; show ((s % 262144).toNat : Int) = s % 262144; omega
    generalize s % 262144 = z at *
    go_enter Tryd.func56, Tryd.ntmps56
    go_wp2_with (go_at_call 42; refine (K.out _ (by decide) (by decide)).mono ?_; rintro e w' ⟨rfl, rfl⟩)
    go_ret
    exact ⟨ret_int HQ.out.symm, rfl⟩
theorem rbit_any (s k : Nat) (h : s < 262144) (hk : k ≤ 17) (w : World) : Calls Tryd.prog 57 #[.int .i64 (s : Int), .int .i64 (k : Int)] w fun e w' => e = .returned (.int .i64 ((s / 2 ^ k % 2 : Nat) : Int)) ∧ w' = w := by
  have hp : (2 : Nat) ^ k ≤ 2 ^ 17 := Nat.pow_le_pow_right (by decide) (by omega)
  have hp0 : 0 < 2 ^ k := Nat.two_pow_pos k
  have KP := hide (fun w => rpower_any k w hk)
  generalize (2 : Nat) ^ k = p at *
  have e1 : Int.tdiv ((s : Nat) : Int) ((p : Nat) : Int) = ((s / p : Nat) : Int) := by rw [Int.tdiv_eq_ediv_of_nonneg (by omega)]; rfl
  have l1 : s / p ≤ s := Nat.div_le_self _ _
  have pz : ¬ ((p : Nat) : Int) = 0 := by omega
  generalize s / p = q at *
  have e2 : Int.tmod ((q : Nat) : Int) 2 = ((q % 2 : Nat) : Int) := by rw [Int.tmod_eq_emod_of_nonneg (by omega)]; rfl
  generalize q % 2 = r at *
  go_enter Tryd.func57, Tryd.ntmps57
  go_wp2_with (go_at_call 55; refine (KP.out _).mono ?_; rintro e w' ⟨rfl, rfl⟩)
  go_ret
  exact ⟨rfl, rfl⟩
/-- One of the bits, by a number. -/
def bitN (s : Nat) (k : Int) : Nat := s / 2 ^ k.toNat % 2
theorem bitN_le (s : Nat) (k : Int) : ((bitN s k : Nat) : Int) ≤ 1 := by unfold bitN; omega
theorem rbit_int (s : Nat) (k : Int) (h : s < 262144) (h0 : 0 ≤ k) (hk : k ≤ 17) (w : World) : Calls Tryd.prog 57 #[.int .i64 (s : Int), .int .i64 k] w fun e w' => e = .returned (.int .i64 ((bitN s k : Nat) : Int)) ∧ w' = w := by
  obtain ⟨j, rfl⟩ := Int.eq_ofNat_of_zero_le h0
  exact rbit_any s j h (by omega) w
theorem odd_bits (s : Nat) : (bitN s 0 + bitN s 1 + bitN s 11 + bitN s 12 + bitN s 17) % 2 = oddN s := by
  unfold bitN oddN
  simp only [show (0 : Int).toNat = 0 from rfl, show (1 : Int).toNat = 1 from rfl, show (11 : Int).toNat = 11 from rfl, show (12 : Int).toNat = 12 from rfl, show (17 : Int).toNat = 17 from rfl, Nat.pow_zero, Nat.pow_one, Nat.div_one, show (2 : Nat) ^ 11 = 2048 from rfl, show (2 : Nat) ^ 12 = 4096 from rfl, show (2 : Nat) ^ 17 = 131072 from rfl]
  have e1 : s / 2048 = s / 2 / 1024 := by omega
  have e2 : s / 4096 = s / 2 / 2048 := by omega
  have e3 : s / 131072 = s / 2 / 65536 := by omega
  rw [e1, e2, e3]
  generalize s / 2 / 1024 = a2 at *
  generalize s / 2 / 2048 = a3 at *
  generalize s / 2 / 65536 = a4 at *
  generalize s / 2 = a1 at *
  omega
theorem rstep_any (s : Int) (w : World) : Calls Tryd.prog 40 #[.int .i64 s] w fun e w' => e = .returned (.int .i64 (stepN (stOf s) : Nat)) ∧ w' = w := by
  obtain ⟨h0, h1⟩ := stOf_in s
  have K := hide (fun w => rstate_any s w)
  have hp := stepN_pos h0 h1
  have hl := stepN_lt h1
  obtain ⟨x, hx⟩ : ∃ x, x = stOf s := ⟨_, rfl⟩
  rw [← hx] at h0 h1 K hp hl ⊢
  clear hx
  have HS := hide (stOf_same hp hl)
  have e : stepN x = x / 2 + 131072 * oddN x := rfl
  have o1 := oddN_le x
  have b0 := bitN_le x 0
  have b1 := bitN_le x 1
  have b2 := bitN_le x 11
  have b3 := bitN_le x 12
  have b4 := bitN_le x 17
  have ht : Int.tmod (((bitN x 0 : Nat) : Int) + ((bitN x 1 : Nat) : Int) + ((bitN x 11 : Nat) : Int) + ((bitN x 12 : Nat) : Int) + ((bitN x 17 : Nat) : Int)) 2 = ((oddN x : Nat) : Int) := by
    rw [← odd_bits x, Int.tmod_eq_emod_of_nonneg (by omega)]
    omega
  have HE : Hid (((x : Nat) : Int) / 2 + ((oddN x : Nat) : Int) * 131072 = ((stepN x : Nat) : Int)) := hide (by rw [e]; omega)
  clear e hp hl
  have hx1 : ((x : Nat) : Int) < 262144 := by omega
  have ho1 : ((oddN x : Nat) : Int) < 2 := by omega
  generalize oddN x = p at *
  go_enter Tryd.func40, Tryd.ntmps40
  go_wp2_with fail
  refine (K.out _).mono ?_
  rintro e w' ⟨rfl, hw⟩
  subst w'
  go_wp2_with (first | (go_at_call 57; refine (rbit_int x _ h1 (by decide) (by decide) _).mono ?_; rintro e w' ⟨rfl, hw⟩; subst w'))
  rw [HE.out]
  refine (rstate_any _ _).mono ?_
  rintro e w' ⟨rfl, hw⟩
  subst w'
  rw [HS.out]
  go_wp2
  go_ret
  exact ⟨rfl, rfl⟩
theorem rperiod_any (b : Int) (w : World) : Calls Tryd.prog 54 #[.int .i64 b] w fun e w' => e = .returned (.int .i64 (perOf b)) ∧ w' = w := by
  have K := hide (rmod_any b 32)
  have h0 : 0 ≤ b % 32 ∧ b % 32 < 32 := by omega
  by_cases h : b % 32 = 31
  · have HQ : Hid (perOf b = 64) := hide (by unfold perOf; rw [if_pos h])
    rw [h] at K
    clear h
    go_enter Tryd.func54, Tryd.ntmps54
    go_wp2_with (go_at_call 42; refine (K.out _ (by decide) (by decide)).mono ?_; rintro e w' ⟨rfl, rfl⟩)
    go_ret
    exact ⟨ret_int HQ.out.symm, rfl⟩
  · have HQ : Hid (perOf b = 128 * (31 - b % 32)) := hide (by unfold perOf; rw [if_neg h])
    generalize b % 32 = z at *
    go_enter Tryd.func54, Tryd.ntmps54
    go_wp2_with (go_at_call 42; refine (K.out _ (by decide) (by decide)).mono ?_; rintro e w' ⟨rfl, rfl⟩)
    go_ret
    exact ⟨ret_int HQ.out.symm, rfl⟩
end Go.Proofs.YtcpilhbinkamiaaDoor
