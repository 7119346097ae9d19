/- Contracts of package block: where the bytes of a transfer go, how many they are. -/
import Derived.Test.YtjmalnlfhmddjaaDoorBits
import Derived.Test.YtjmalnlfhmddjaaDoorKept
import Derived.Deep.RegionHeld3
import Derived.Handy
namespace Go.Proofs.YtjmalnlfhmddjaaDoor
open Go.RowKit
set_option linter.unusedVariables false

/-- The table of the ways that both ends go, as its cells lie. -/
def pathCells : Array Value := #[.int .i64 0, .int .i64 0, .int .i64 1, .int .i64 1, .int .i64 0, .int .i64 2, .int .i64 0, .int .i64 3, .int .i64 3, .int .i64 0]
def HasPaths (w : World) : Prop := ∃ t fr, w.heap[0]? = some (.cells pathCells t fr)
theorem lt_block {w : World} {g : Nat} {o : Obj} (h : w.heap[g]? = some o) : g < w.heap.size := by
  rcases Nat.lt_or_ge g w.heap.size with k | k
  · exact k
  · rw [Array.getElem?_eq_none k] at h; cases h
theorem HasPaths.pos {w : World} (h : HasPaths w) : 0 < w.heap.size := by
  obtain ⟨t, fr, e⟩ := h
  exact lt_block e
theorem HasPaths.next {w w' : World} (h : HasPaths w) (b : Below w.heap.size w w') : HasPaths w' := by
  have hp := h.pos
  obtain ⟨t, fr, e⟩ := h
  exact ⟨t, fr, (b.block 0 hp).trans e⟩
def pathAt (j : Nat) : Int := [(0 : Int), 0, 1, 1, 0, 2, 0, 3, 3, 0].getD j 0
theorem HasPaths.cell {w : World} (h : HasPaths w) (j : Nat) (hj : j < 10) : w.cell? ⟨0, j, none⟩ = some (.int .i64 (pathAt j)) := by
  obtain ⟨t, fr, e⟩ := h
  rcases j with _ | _ | _ | _ | _ | _ | _ | _ | _ | _ | j
  all_goals first | omega | (simp [World.cell?, e, pathCells, pathAt])

/-- A place and so many on, or back. -/
def goOf (a f : Int) : Int := (a + f) % 65536
theorem goOf_le (a f : Int) : 0 ≤ goOf a f ∧ goOf a f ≤ 65535 := by unfold goOf; omega

theorem place_any (a f : Int) (w : World) (h0 : -65536 ≤ f) (h1 : f ≤ 65536) : Calls Tryd.prog 14 #[.int .i64 a, .int .i64 f] w fun e w' => e = .returned (.int .i64 (goOf a f)) ∧ w' = w := by
  go_enter Tryd.func14, Tryd.ntmps14
  go_wp2_with (go_at_call 17; refine (word_any _ _).mono ?_; rintro e w' ⟨rfl, rfl⟩)
  go_ret
  exact ⟨ret_int (by unfold goOf; omega), rfl⟩

theorem bit_0 (i : Int) : bitOf i 0 = i % 2 := by
  rw [bitOf_in i 0 (by decide) (by decide)]
  show i % 65536 / 1 % 2 = i % 2
  omega
theorem distances_any (i : Int) (w : World) : Calls Tryd.prog 13 #[.int .i64 i] w fun e w' => e = .returned (.agg #[.int .i64 (i % 65536), .int .i64 (-(i % 65536)), .int .i64 0, .int .i64 (i % 2)]) ∧ w' = w.alloc (.cells #[.int .i64 (i % 65536), .int .i64 (-(i % 65536)), .int .i64 0, .int .i64 (i % 2)] 34) := by
  have hb := bit_0 i
  have hn : -(i % 65536) < 9223372036854775808 ∧ -9223372036854775808 ≤ -(i % 65536) := by omega
  go_enter Tryd.func13, Tryd.ntmps13
  go_wp2_with (first
    | (go_at_call 17; refine (word_any _ _).mono ?_; rintro e w' ⟨rfl, rfl⟩)
    | (go_at_call 18; refine (bit_any _ _ _).mono ?_; rintro e w' ⟨rfl, rfl⟩))
  go_returns
  exact ⟨rfl, rfl⟩

def countOf (n : Int) : Int := if n % 65536 = 0 then 65536 else n % 65536
theorem countOf_le (n : Int) : 1 ≤ countOf n ∧ countOf n ≤ 65536 := by unfold countOf; split <;> omega
theorem count_any (n : Int) (w : World) : Calls Tryd.prog 10 #[.int .i64 n] w fun e w' => e = .returned (.int .i64 (countOf n)) ∧ w' = w := by
  unfold countOf
  by_cases h : n % 65536 = 0
  · rw [if_pos h]
    go_enter Tryd.func10, Tryd.ntmps10
    go_wp2_with (go_at_call 17; refine (word_any _ _).mono ?_; rintro e w' ⟨rfl, rfl⟩)
    go_ret
    exact ⟨rfl, rfl⟩
  · rw [if_neg h]
    have h1 : 0 < n % 65536 := by omega
    clear h
    go_enter Tryd.func10, Tryd.ntmps10
    go_wp2_with (go_at_call 17; refine (word_any _ _).mono ?_; rintro e w' ⟨rfl, rfl⟩)
    go_ret
    exact ⟨rfl, rfl⟩
theorem cycles_any (n : Int) (w : World) : Calls Tryd.prog 12 #[.int .i64 n] w fun e w' => e = .returned (.int .i64 (17 + 6 * countOf n)) ∧ w' = w := by
  have h := countOf_le n
  go_enter Tryd.func12, Tryd.ntmps12
  go_wp2_with (go_at_call 10; refine (count_any _ _).mono ?_; rintro e w' ⟨rfl, rfl⟩)
  go_ret
  exact ⟨rfl, rfl⟩
end Go.Proofs.YtjmalnlfhmddjaaDoor
