/- The document's answer for layer 10, further: ticks one period after another, and writes. -/
import Derived.Test.YtcppphnnaojbhaaRef10
namespace Go.Proofs.Ytcppphnnaojbhaa
open Go.RowKit
set_option linter.unusedVariables false

theorem bit_of (b : Int) : ∃ y, b.tmod 2 = y ∧ ((y = 0 ∧ b % 2 = 0) ∨ (y = 1 ∧ b % 2 = 1) ∨ (y = -1 ∧ b % 2 = 1)) := by
  have ht : b.tmod 2 = if 0 ≤ b ∨ b % 2 = 0 then b % 2 else b % 2 - 2 := by
    rw [Int.tmod_eq_emod]
    have hd : (2 : Int) ∣ b ↔ b % 2 = 0 := Int.dvd_iff_emod_eq_zero
    simp only [hd]
    split <;> omega
  refine ⟨_, rfl, ?_⟩
  rw [ht]
  split <;> omega
theorem low_of_t (b : Int) : ∃ z, b.tmod 128 = z ∧ ((0 ≤ z ∧ z ≤ 127 ∧ z = b % 128) ∨ (z < 0 ∧ -128 < z ∧ z + 128 = b % 128)) := by
  have ht : b.tmod 128 = if 0 ≤ b ∨ b % 128 = 0 then b % 128 else b % 128 - 128 := by
    rw [Int.tmod_eq_emod]
    have hd : (128 : Int) ∣ b ↔ b % 128 = 0 := Int.dvd_iff_emod_eq_zero
    simp only [hd]
    split <;> omega
  refine ⟨_, rfl, ?_⟩
  rw [ht]
  split <;> omega
theorem rwrite_0 (r c : Int) (o : Bool) (p b : Int) (w : World) : Calls Try.prog 13 #[.agg #[.int .i64 r, .int .i64 c, .bool o, .int .i64 p], .int .i64 0, .int .i64 b] w fun e w' =>
    e = .returned (.agg #[.int .i64 (b % 128), .int .i64 c, .bool o, .int .i64 p]) ∧ Below w.heap.size w w' := by
  obtain ⟨y, hy, h⟩ := bit_of b
  obtain ⟨z, hz, k⟩ := low_of_t b
  have hm : -1 ≤ y ∧ y ≤ 1 := by omega
  clear h
  rcases k with ⟨k1, k2, k3⟩ | ⟨k1, k2, k3⟩
  · rw [← k3]
    by_cases hn : y < 0
    · clear k3
      go_enter Try.func13, Try.ntmps13
      go_wp2
      go_returns
      exact ⟨rfl, ((Below.refl _ w).alloc (Nat.le_refl _) _).alloc (by simp) _⟩
    · clear k3
      go_enter Try.func13, Try.ntmps13
      go_wp2
      go_returns
      exact ⟨rfl, ((Below.refl _ w).alloc (Nat.le_refl _) _).alloc (by simp) _⟩
  · rw [← k3]
    by_cases hn : y < 0
    · clear k3
      go_enter Try.func13, Try.ntmps13
      go_wp2
      go_returns
      exact ⟨rfl, ((Below.refl _ w).alloc (Nat.le_refl _) _).alloc (by simp) _⟩
    · clear k3
      go_enter Try.func13, Try.ntmps13
      go_wp2
      go_returns
      exact ⟨rfl, ((Below.refl _ w).alloc (Nat.le_refl _) _).alloc (by simp) _⟩
theorem rwrite_no (r c : Int) (o : Bool) (p a b : Int) (h0 : (a == 0) = false) (h1 : (a == 1) = false) (w : World) : Calls Try.prog 13 #[.agg #[.int .i64 r, .int .i64 c, .bool o, .int .i64 p], .int .i64 a, .int .i64 b] w fun e w' =>
    e = .returned (.agg #[.int .i64 r, .int .i64 c, .bool o, .int .i64 p]) ∧ Below w.heap.size w w' := by
  obtain ⟨y, hy, h⟩ := bit_of b
  have hm : -1 ≤ y ∧ y ≤ 1 := by omega
  clear h
  by_cases hn : y < 0
  ·
    go_enter Try.func13, Try.ntmps13
    go_wp2
    go_returns
    exact ⟨rfl, ((Below.refl _ w).alloc (Nat.le_refl _) _).alloc (by simp) _⟩
  ·
    go_enter Try.func13, Try.ntmps13
    go_wp2
    go_returns
    exact ⟨rfl, ((Below.refl _ w).alloc (Nat.le_refl _) _).alloc (by simp) _⟩
theorem rwrite_1 (r c : Int) (o : Bool) (p b : Int) (on : Bool) (hon : on = (b % 2 == 1)) (w : World) : Calls Try.prog 13 #[.agg #[.int .i64 r, .int .i64 c, .bool o, .int .i64 p], .int .i64 1, .int .i64 b] w fun e w' =>
    e = .returned (.agg #[.int .i64 r, .int .i64 (ctlC r c o on), .bool on, .int .i64 (ctlP p o on)]) ∧ Below w.heap.size w w' := by
  obtain ⟨y, hy, h⟩ := bit_of b
  rcases h with ⟨rfl, h⟩ | ⟨rfl, h⟩ | ⟨rfl, h⟩
  · rw [h] at hon
    subst hon
    clear h
    cases o
    ·
      go_enter Try.func13, Try.ntmps13
      go_wp2
      go_returns
      exact ⟨rfl, ((Below.refl _ w).alloc (Nat.le_refl _) _).alloc (by simp) _⟩
    ·
      go_enter Try.func13, Try.ntmps13
      go_wp2
      go_returns
      exact ⟨rfl, ((Below.refl _ w).alloc (Nat.le_refl _) _).alloc (by simp) _⟩
  · rw [h] at hon
    subst hon
    clear h
    cases o
    ·
      go_enter Try.func13, Try.ntmps13
      go_wp2
      go_returns
      exact ⟨rfl, ((Below.refl _ w).alloc (Nat.le_refl _) _).alloc (by simp) _⟩
    ·
      go_enter Try.func13, Try.ntmps13
      go_wp2
      go_returns
      exact ⟨rfl, ((Below.refl _ w).alloc (Nat.le_refl _) _).alloc (by simp) _⟩
  · rw [h] at hon
    subst hon
    clear h
    cases o
    ·
      go_enter Try.func13, Try.ntmps13
      go_wp2
      go_returns
      exact ⟨rfl, ((Below.refl _ w).alloc (Nat.le_refl _) _).alloc (by simp) _⟩
    ·
      go_enter Try.func13, Try.ntmps13
      go_wp2
      go_returns
      exact ⟨rfl, ((Below.refl _ w).alloc (Nat.le_refl _) _).alloc (by simp) _⟩

theorem radv_still (r c : Int) (o : Bool) (p t : Int) (h : (o && okT r c o p) = false ∨ t < 1) (w : World) : Calls Try.prog 9 #[.agg #[.int .i64 r, .int .i64 c, .bool o, .int .i64 p], .int .i64 t] w fun e w' =>
    e = .returned (.tuple #[.agg #[.int .i64 r, .int .i64 c, .bool o, .int .i64 p], .int .i64 0]) ∧ Below w.heap.size w w' := by
  have hv := hide (rvalid_any r c o p)
  cases ho : okT r c o p
  · rw [ho] at hv
    clear ho h
    go_enter Try.func9, Try.ntmps9
    go_wp2_with (first | (go_at_call 15; refine (hv.out _).mono ?_; rintro e w' ⟨rfl, rfl⟩))
    go_returns
    exact ⟨rfl, (((Below.refl _ w).alloc (Nat.le_refl _) _).alloc (by simp) _).alloc (by simp; omega) _⟩
  · rw [ho] at hv h
    clear ho
    cases o
    · clear h
      go_enter Try.func9, Try.ntmps9
      go_wp2_with (first | (go_at_call 15; refine (hv.out _).mono ?_; rintro e w' ⟨rfl, rfl⟩))
      go_returns
      exact ⟨rfl, (((Below.refl _ w).alloc (Nat.le_refl _) _).alloc (by simp) _).alloc (by simp; omega) _⟩
    · have h1 : t < 1 := by simpa using h
      clear h
      go_enter Try.func9, Try.ntmps9
      go_wp2_with (first | (go_at_call 15; refine (hv.out _).mono ?_; rintro e w' ⟨rfl, rfl⟩))
      go_returns
      exact ⟨rfl, (((Below.refl _ w).alloc (Nat.le_refl _) _).alloc (by simp) _).alloc (by simp; omega) _⟩
end Go.Proofs.Ytcppphnnaojbhaa
