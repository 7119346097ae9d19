/- Package vram: the contracts of areWords and Load. -/
import Derived.Test.YtbeiphnlckflpaaState13
namespace Go.Proofs.Ytbeiphnlckflpaa
open Go.RowKit
set_option linter.unusedVariables false

theorem areWords_yes (b off len cap : Nat) (z : Nat → Int) (w : World) (hc : ∀ j, j < len → w.cell? ⟨b, off + j, none⟩ = some (.int .i64 (z j))) (hl : len ≤ 1000000) (hz : ∀ j, j < len → IsWord (z j)) : Calls Try.prog 35 #[.slice (some ⟨b, off, none⟩) len cap] w fun e w' => e = .returned (.bool true) ∧ w' = w := by
  have HC := hide hc
  have HZ := hide hz
  clear hc hz
  go_enter Try.func35, Try.ntmps35
  go_wp2
  go_loop [7] (fun i => ∃ k : Nat, k ≤ len ∧ i = .int .i64 (k : Int)) (fun i => len - (intOf i).toNat)
  case atStart => exact ⟨0, Nat.zero_le _, rfl⟩
  case round =>
    obtain ⟨k, hk, rfl⟩ := hrel
    by_cases hlt : k < len
    · have hcell := HC.out k hlt
      obtain ⟨h0, h1⟩ := HZ.out k hlt
      generalize z k = y at *
      have hm : y % 65536 = y := by omega
      go_wp2_with (first | (go_at_call 27; refine (word_any _ _).mono ?_; rintro e w' ⟨rfl, hw⟩; subst w'))
      go_round
      case rel => exact ⟨k + 1, by omega, by go_num⟩
      case measure => simp [intOf]; omega
    · go_wp2
      go_ret
      exact ⟨rfl, rfl⟩
theorem areWords_no (b off len cap : Nat) (z : Nat → Int) (w : World) (hc : ∀ j, j < len → w.cell? ⟨b, off + j, none⟩ = some (.int .i64 (z j))) (hl : len ≤ 1000000) (i : Nat) (hi : i < len) (hz : ∀ j, j < i → IsWord (z j)) (hn : ¬ IsWord (z i)) : Calls Try.prog 35 #[.slice (some ⟨b, off, none⟩) len cap] w fun e w' => e = .returned (.bool false) ∧ w' = w := by
  have HC := hide hc
  have HZ := hide hz
  have HN := hide hn
  clear hc hz hn
  go_enter Try.func35, Try.ntmps35
  go_wp2
  go_loop [7] (fun s => ∃ k : Nat, k ≤ i ∧ s = .int .i64 (k : Int)) (fun s => len - (intOf s).toNat)
  case atStart => exact ⟨0, Nat.zero_le _, rfl⟩
  case round =>
    obtain ⟨k, hk, rfl⟩ := hrel
    have hlt : k < len := by omega
    have hcell := HC.out k hlt
    by_cases hki : k < i
    · obtain ⟨h0, h1⟩ := HZ.out k hki
      generalize z k = y at *
      have hm : y % 65536 = y := by omega
      go_wp2_with (first | (go_at_call 27; refine (word_any _ _).mono ?_; rintro e w' ⟨rfl, hw⟩; subst w'))
      go_round
      case rel => exact ⟨k + 1, by omega, by go_num⟩
      case measure => simp [intOf]; omega
    · obtain rfl : k = i := by omega
      have hy : ¬ IsWord (z k) := HN.out
      generalize z k = y at *
      have hm : ¬ y = y % 65536 := fun e => hy (by rw [e]; exact isWord_mod y)
      go_wp2_with (first | (go_at_call 27; refine (word_any _ _).mono ?_; rintro e w' ⟨rfl, hw⟩; subst w'))
      go_ret
      exact ⟨rfl, rfl⟩
end Go.Proofs.Ytbeiphnlckflpaa
