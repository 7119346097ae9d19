/- The document's answer for layer 10: a timer that runs, period by period. -/
import Derived.Test.YtcppphnnaojbhaaRef10b
namespace Go.Proofs.Ytcppphnnaojbhaa
open Go.RowKit
set_option linter.unusedVariables false

/-- The number in a cell. -/
def natAt (w : World) (b o : Nat) : Nat := match w.cell? ⟨b, o, none⟩ with | some (.int _ v) => v.toNat | _ => 0
theorem natAt_is (w : World) (a b c : Value) (u : Int) (t : TypeId) (X Y : Obj) : natAt (((w.alloc (.cells #[a, b, c, .int .i64 u] t)).alloc X).alloc Y) w.heap.size 3 = u.toNat := by
  unfold natAt
  rw [World.cell?_alloc_lt _ _ _ (by simp; omega), World.cell?_alloc_lt _ _ _ (by simp)]
  simp
theorem radv_on (r c p t : Int) (h : okT r c true p = true) (t0 : 1 ≤ t) (t1 : t ≤ 8388608) (w : World) : Calls Try.prog 9 #[.agg #[.int .i64 r, .int .i64 c, .bool true, .int .i64 p], .int .i64 t] w fun e w' =>
    e = .returned (.tuple #[.agg #[.int .i64 r, .int .i64 (cntOf r c ((t + p) / 3072)), .bool true, .int .i64 ((t + p) % 3072)], .int .i64 (rndOf r c ((t + p) / 3072))]) ∧ Below w.heap.size w w' := by
  have hv := hide (rvalid_any r c true p)
  rw [h] at hv
  obtain ⟨r0, r1, c0, c1, p0, p1⟩ := okT_true h
  have p1 : p ≤ 3071 := p1
  clear h
  have hT : t + p = p + t := by omega
  rw [hT]
  clear hT
  go_enter Try.func9, Try.ntmps9
  go_wp2_with (first | (go_at_call 15; refine (hv.out _).mono ?_; rintro e w' ⟨rfl, rfl⟩))
  go_loopw [6] (fun sn wr => ∃ (k n x u : Int), 0 ≤ k ∧ k ≤ 3000 ∧ Is r c k n x ∧ u = p + t - 3072 * k ∧ 0 ≤ u ∧ sn = .int .i64 n ∧ wr = ((w.alloc (.cells #[.int .i64 r, .int .i64 x, .bool true, .int .i64 u] 27)).alloc (.cells #[.int .i64 0, .int .i64 0, .bool false, .int .i64 0] 27)).alloc (.cells #[.int .i64 r, .int .i64 c, .bool true, .int .i64 p] 27)) (fun _ wr => natAt wr w.heap.size 3)
  case atStart => exact ⟨0, 0, c, p + t, by decide, by decide, is_zero r c c0, by omega, by omega, rfl, rfl⟩
  case round =>
    obtain ⟨k, n, x, u, k0, k1, hi, hu, u0, rfl, rfl⟩ := hrel
    have x0 := hi.2.1
    have x1 := is_le r1 c1 k0 hi
    have n0 := hi.1
    have n1 : n ≤ 4000 := by
      obtain ⟨h1, h2, h3, h4⟩ := hi
      have h5 : n * 1 ≤ n * (r + 1) := Int.mul_le_mul_of_nonneg_left (by omega) h1
      omega
    have HI := hide hi
    have HU := hide hu
    have u1 : u ≤ 8391680 := by omega
    clear hi hu
    by_cases hlt : 3072 ≤ u
    · by_cases hx : x = 0
      · subst hx
        go_wp2
        have hu := HU.out
        exact ⟨⟨k + 1, n + 1, r, u - 3072, by omega, by omega, is_step0 r0 HI.out, by omega, by omega, rfl, rfl⟩, by rw [natAt_is, natAt_is]; omega⟩
      · have hx' : (x == 0) = false := by simpa using hx
        go_wp2
        have hu := HU.out
        exact ⟨⟨k + 1, n, x - 1, u - 3072, by omega, by omega, is_step (by omega) HI.out, by omega, by omega, rfl, rfl⟩, by rw [natAt_is, natAt_is]; omega⟩
    · have hu := HU.out
      have e1 : (p + t) / 3072 = k := by omega
      have e2 : (p + t) % 3072 = u := by omega
      have e3 := is_eq r0 c0 HI.out
      have E := hide (show Ending.returned (.tuple #[.agg #[.int .i64 r, .int .i64 x, .bool true, .int .i64 u], .int .i64 n]) = .returned (.tuple #[.agg #[.int .i64 r, .int .i64 (cntOf r c ((p + t) / 3072)), .bool true, .int .i64 ((p + t) % 3072)], .int .i64 (rndOf r c ((p + t) / 3072))]) by rw [e1, e2, e3.1, e3.2])
      clear hu e1 e2 e3
      go_wp2
      go_returns
      exact ⟨E.out, (((Below.refl _ w).alloc (Nat.le_refl _) _).alloc (by simp) _).alloc (by simp; omega) _⟩
end Go.Proofs.Ytcppphnnaojbhaa
