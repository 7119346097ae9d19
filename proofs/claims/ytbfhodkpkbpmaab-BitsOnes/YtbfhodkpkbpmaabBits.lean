/- What each function of package bits, and of the document's answer for it, returns: one contract a function. -/
import Derived.Test.YtbfhodkpkbpmaabRows
import Derived.Test.YtbfhodkpkbpmaabPlain
import Derived.WalkKit
import Derived.ProofKit
import Derived.Deep.QuietTactic
import Derived.BigQuiet
namespace Go.Proofs.Ytbfhodkpkbpmaab
open Go.RowKit

theorem hide {p : Prop} (h : p) : Hid p := h
theorem below_drew {B : Nat} {a w : World} (h : Below B a w) (n : Nat) : Below B a (w.drewN n) := h.trans ⟨rfl, rfl, rfl, Nat.le_refl _, fun _ _ => rfl⟩
theorem alloc_row (w : World) (zs : List Int) (t N : Nat) (hN : N = w.heap.size) : ∀ j, j < zs.length → (w.alloc (.cells (zs.map (Value.int .i64)).toArray t)).cell? ⟨N, 0 + j, none⟩ = some (.int .i64 (zs[j]?.getD 0)) := by
  intro j hj
  subst hN
  simp [hj]
theorem bnext {w a b : World} (h : Below w.heap.size w a) (k : Below a.heap.size a b) : Below w.heap.size w b := h.trans (k.mono h.size)
theorem ret_bool {a b : Bool} (h : a = b) : Ending.returned (.bool a) = .returned (.bool b) := by rw [h]
theorem ret_int {a b : Int} (h : a = b) : Ending.returned (.int .i64 a) = .returned (.int .i64 b) := by rw [h]


theorem word_any (n : Int) (w : World) :
    Calls Try.prog 8 #[.int .i64 n] w fun e w' => e = .returned (.int .i64 (n % 65536)) ∧ w' = w := by
  go_enter Try.func8, Try.ntmps8
  go_wp2
  go_ret
  exact ⟨ret_int (and_65535 n), rfl⟩


theorem together_any (b off len cap : Nat) (zs : List Int) (w : World) (hz : zs.length = len) (hbig : len ≤ 1000) (hc : ∀ j, j < zs.length → w.cell? ⟨b, off + j, none⟩ = some (.int .i64 (zs[j]?.getD 0))) :
    Calls Try.prog 9 #[.slice (some ⟨b, off, none⟩) len cap] w fun e w' => e = .returned (.int .i64 (orAll zs)) ∧ w' = w := by
  go_enter Try.func9, Try.ntmps9
  go_wp2
  go_loop [3, 8] (fun t i => ∃ k : Nat, k ≤ len ∧ i = .int .i64 k ∧ t = .int .i64 (orAll (zs.take k))) (fun _ i => len - (intOf i).toNat)
  case atStart => exact ⟨0, Nat.zero_le _, rfl, rfl⟩
  case round =>
    obtain ⟨k, hk, rfl, rfl⟩ := hrel
    by_cases hlt : k < len
    · have hcell : w.cell? ⟨b, off + k, none⟩ = some (.int .i64 (zs[k]?.getD 0)) := hc k (by omega)
      have HS : Hid (orAll (zs.take (k + 1)) = bits .or .i64 (orAll (zs.take k)) (zs[k]?.getD 0)) := orAll_step zs k (by omega)
      clear hc
      generalize zs[k]?.getD 0 = z at *
      go_wp2
      go_round
      case rel => exact ⟨k + 1, by omega, by go_num, by rw [HS.out]⟩
      case measure => simp [intOf]; omega
    · go_wp2
      go_ret
      exact ⟨ret_int (by rw [List.take_of_length_le (by omega)]), rfl⟩



theorem inWord_any (k : Int) (w : World) :
    Calls Try.prog 7 #[.int .i64 k] w fun e w' => e = .returned (.bool (inW k)) ∧ w' = w := by
  by_cases h0 : 0 ≤ k
  · by_cases h1 : k < 16
    · have HB := hide (inW_yes h0 h1)
      go_enter Try.func7, Try.ntmps7
      go_wp2
      go_ret
      exact ⟨ret_bool HB.out.symm, rfl⟩
    · have HB := hide (inW_no (k := k) (by omega))
      go_enter Try.func7, Try.ntmps7
      go_wp2
      go_ret
      exact ⟨ret_bool HB.out.symm, rfl⟩
  · have HB := hide (inW_no (k := k) (by omega))
    go_enter Try.func7, Try.ntmps7
    go_wp2
    go_ret
    exact ⟨ret_bool HB.out.symm, rfl⟩

theorem bit_any (n k : Int) (w : World) :
    Calls Try.prog 4 #[.int .i64 n, .int .i64 k] w fun e w' => e = .returned (.int .i64 (bitOf n k)) ∧ w' = w := by
  by_cases h : 0 ≤ k ∧ k < 16
  · have hb : bitOf n k = n % 65536 / 2 ^ k.toNat % 2 := by unfold bitOf; rw [if_pos h]
    have HB := hide hb
    clear hb
    obtain ⟨h0, h1⟩ := h
    have hd := inW_yes h0 h1
    go_enter Try.func4, Try.ntmps4
    go_wp2_with (first
      | (go_at_call 7; refine (inWord_any _ _).mono ?_; rintro e w' ⟨rfl, rfl⟩)
      | (go_at_call 8; refine (word_any _ _).mono ?_; rintro e w' ⟨rfl, rfl⟩))
    go_ret
    exact ⟨ret_int (by rw [HB.out]; exact and_1 _), rfl⟩
  · have hb : bitOf n k = 0 := by unfold bitOf; rw [if_neg h]
    have HB := hide hb
    clear hb
    have hd := inW_no h
    go_enter Try.func4, Try.ntmps4
    go_wp2_with (first
      | (go_at_call 7; refine (inWord_any _ _).mono ?_; rintro e w' ⟨rfl, rfl⟩)
      | (go_at_call 8; refine (word_any _ _).mono ?_; rintro e w' ⟨rfl, rfl⟩))
    go_ret
    exact ⟨ret_int (by rw [HB.out]), rfl⟩

theorem ones_any (n : Int) (w : World) :
    Calls Try.prog 6 #[.int .i64 n] w fun e w' => e = .returned (.int .i64 (onesTo n 16)) ∧ w' = w := by
  go_enter Try.func6, Try.ntmps6
  go_wp2
  go_loop [3, 5] (fun t i => ∃ k : Nat, k ≤ 16 ∧ i = .int .i64 k ∧ t = .int .i64 (onesTo n k)) (fun _ i => 16 - (intOf i).toNat)
  case atStart => exact ⟨0, Nat.zero_le _, rfl, rfl⟩
  case round =>
    obtain ⟨k, hk, rfl, rfl⟩ := hrel
    have hb := bitOf_01 n k
    have ho := onesTo_le n k
    by_cases hlt : k < 16
    · go_wp2_with (go_at_call 4; refine (bit_any _ _ _).mono ?_; rintro e w' ⟨rfl, rfl⟩)
      go_round
      case rel => exact ⟨k + 1, by omega, by go_num, by simp only [onesTo]⟩
      case measure => simp [intOf]; omega
    · go_wp2
      go_ret
      obtain rfl : k = 16 := by omega
      exact ⟨rfl, rfl⟩


theorem put_any (n k : Int) (on : Bool) (w : World) :
    Calls Try.prog 5 #[.int .i64 n, .int .i64 k, .bool on] w fun e w' => e = .returned (.int .i64 (putOf n k on)) ∧ Below w.heap.size w w' := by
  by_cases h : 0 ≤ k ∧ k < 16
  · obtain ⟨h0, h1⟩ := h
    have hd := inW_yes h0 h1
    have hp := pow_16 k h0 h1
    cases on
    · have HB := hide (putOf_not n k h0 h1)
      go_enter Try.func5, Try.ntmps5
      go_wp2_with (first
        | (go_at_call 7; refine (inWord_any _ _).mono ?_; rintro e w' ⟨rfl, rfl⟩))
      go_quiet ((go_at_call 8; exact Calls.quiet_of_same (word_any _ _)))
      go_wp2
      go_ret
      exact ⟨ret_int (by rw [HB.out]; exact others n k h0 h1), below_drew (Below.refl _ _) _⟩
    · have HB := hide (putOf_yes n k h0 h1)
      go_enter Try.func5, Try.ntmps5
      go_wp2_with (first
        | (go_at_call 7; refine (inWord_any _ _).mono ?_; rintro e w' ⟨rfl, rfl⟩))
      go_quiet ((go_at_call 8; exact Calls.quiet_of_same (word_any _ _)))
      go_wp2_with fail
      rw [others n k h0 h1]
      refine (together_any _ 0 2 2 [n % 65536 - bitOf n k * 2 ^ k.toNat, 2 ^ k.toNat] _ rfl (by decide) ?_).mono ?_
      · exact alloc_row _ [n % 65536 - bitOf n k * 2 ^ k.toNat, 2 ^ k.toNat] _ _ rfl
      rintro e w1 ⟨rfl, rfl⟩
      go_wp2
      go_ret
      exact ⟨ret_int (by rw [HB.out]; exact orAll_put n k h0 h1), (below_drew (Below.refl _ _) _).alloc (Nat.le_refl _) _⟩
  · have hd := inW_no h
    have HB := hide (putOf_out n k on h)
    go_enter Try.func5, Try.ntmps5
    go_wp2_with (first
      | (go_at_call 7; refine (inWord_any _ _).mono ?_; rintro e w' ⟨rfl, rfl⟩)
      | (go_at_call 8; refine (word_any _ _).mono ?_; rintro e w' ⟨rfl, rfl⟩))
    go_ret
    exact ⟨ret_int HB.out.symm, Below.refl _ _⟩










end Go.Proofs.Ytbfhodkpkbpmaab
