/- What the laws of layer 4 ask of the contracts' answers. -/
import Derived.Test.YtemljklgjhnibaaDoorBanks
namespace Go.Proofs.YtemljklgjhnibaaDoor
open Go.RowKit
set_option linter.unusedVariables false
theorem which_any (a : Int) : ∃ i : Nat, i < 11 ∧ Int.tmod (Int.tmod a 11 + 11) 11 = (i : Int) ∧ -11 < Int.tmod a 11 ∧ Int.tmod a 11 < 11 := by
  have h1 := Int.tmod_lt_of_pos a (show (0 : Int) < 11 by decide)
  have h2 := Int.lt_tmod_of_pos a (show (0 : Int) < 11 by decide)
  have h3 : Int.tmod (Int.tmod a 11 + 11) 11 = (Int.tmod a 11 + 11) % 11 := Int.tmod_eq_emod_of_nonneg (by omega)
  exact ⟨((Int.tmod a 11 + 11) % 11).toNat, by omega, by omega, by omega, h1⟩
def cards11 : Array Value := #[.int .i64 1, .int .i64 2, .int .i64 4, .int .i64 8, .int .i64 16, .int .i64 32, .int .i64 64, .int .i64 128, .int .i64 48, .int .i64 96, .int .i64 320]
theorem cards_at (i : Nat) (hi : i < 11) : cards11[i]? = some (.int .i64 (pageAt i)) := by
  rcases i with _ | _ | _ | _ | _ | _ | _ | _ | _ | _ | _ | i
  · rfl
  · rfl
  · rfl
  · rfl
  · rfl
  · rfl
  · rfl
  · rfl
  · rfl
  · rfl
  · rfl
  · omega
theorem cards_cell (i : Nat) (hi : i < 11) (w : World) : (w.alloc (.cells cards11 3)).cell? ⟨w.heap.size, i, none⟩ = some (.int .i64 (pageAt i)) := by
  rw [World.cell?_alloc_new]; exact cards_at i hi
theorem page_in {n : Int} (hn : known n = true) (l : Int) (p : Nat) (hp : p < 128) : 0 ≤ pageOf n l p ∧ pageOf n l p < n := by
  have hk := kind_cases hn
  have h0 := known_le hn
  unfold pageOf
  rw [if_pos ⟨hn, by omega⟩]
  generalize kindOf n = k at *
  have lo : 0 < lowSize k n ∧ lowSize k n ≤ n := by unfold lowSize; split; omega; split <;> omega
  have up : 0 < upSize k n ∧ 0 ≤ upFirst k n l ∧ upFirst k n l + upSize k n ≤ n := by
    unfold upSize upFirst; split; omega; split <;> omega
  generalize lowSize k n = s at *
  generalize upSize k n = t at *
  generalize upFirst k n l = f at *
  have m0 := Int.emod_nonneg (p : Int) (show s ≠ 0 by omega)
  have m1 := Int.emod_lt_of_pos (p : Int) lo.1
  have m2 := Int.emod_nonneg (p : Int) (show t ≠ 0 by omega)
  have m3 := Int.emod_lt_of_pos (p : Int) up.1
  split
  · omega
  · rw [if_pos (by omega)]; omega
theorem page_128 (n l : Int) : pageOf n l 128 = -1 := by
  unfold pageOf; split
  · rw [if_neg (by decide), if_neg (by decide)]
  · rfl
end Go.Proofs.YtemljklgjhnibaaDoor
