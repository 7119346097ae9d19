/- Words that are written from a place on, with a step, are there: numbers alone. -/
import Derived.Test.YtbeiphnlckflpaaWordsW13
namespace Go.Proofs.Ytbeiphnlckflpaa
open Go.RowKit
set_option linter.unusedVariables false

theorem wordAt_same (f : Nat → Int) (n x : Int) : wordAt (pokeAt f n x) n = if n % 65536 < 32768 then x % 65536 else 0 := by
  unfold wordAt pokeAt
  by_cases h : n % 65536 < 32768
  · rw [if_pos h, if_pos h, if_pos h]
    simp [upd]
  · rw [if_neg h, if_neg h]
theorem wordAt_other (f : Nat → Int) (n k x : Int) (h : k % 65536 ≠ n % 65536) : wordAt (pokeAt f n x) k = wordAt f k := by
  unfold wordAt pokeAt
  by_cases hk : k % 65536 < 32768
  · rw [if_pos hk, if_pos hk]
    by_cases hn : n % 65536 < 32768
    · rw [if_pos hn]
      unfold upd
      rw [if_neg (by omega)]
    · rw [if_neg hn]
  · rw [if_neg hk, if_neg hk]
/-- The words behind k rounds. -/
def wrTo (A S : Int) (zs : List Int) : Nat → Nat → Int
  | 0 => fun _ => 0
  | k + 1 => pokeAt (wrTo A S zs k) (placeAt A S k) (zs.getD k 0 % 65536)
theorem placeAt_apart (A S : Int) (hS : S = 1 ∨ S = 32 ∨ S = 64 ∨ S = 128) (k m : Nat) (hk : k < m) (hm : m ≤ 60) : placeAt A S k % 65536 ≠ placeAt A S m % 65536 := by
  unfold placeAt
  rcases hS with rfl | rfl | rfl | rfl <;> omega
theorem wrTo_at (A S : Int) (hS : S = 1 ∨ S = 32 ∨ S = 64 ∨ S = 128) (zs : List Int) : ∀ m, m ≤ 60 → ∀ k, k < m → wordAt (wrTo A S zs m) (placeAt A S k) = if placeAt A S k < 32768 then zs.getD k 0 % 65536 else 0
  | 0, _, k, h => by omega
  | m + 1, hm, k, h => by
    show wordAt (pokeAt (wrTo A S zs m) (placeAt A S m) (zs.getD m 0 % 65536)) (placeAt A S k) = _
    have h0 := placeAt_ge A S k
    have h1 := placeAt_lt A S k
    by_cases e : k = m
    · subst e
      rw [wordAt_same, show placeAt A S k % 65536 = placeAt A S k by omega, Int.emod_emod_of_dvd _ (Int.dvd_refl _)]
    · rw [wordAt_other _ _ _ _ (placeAt_apart A S hS k m (by omega) (by omega))]
      exact wrTo_at A S hS zs m (by omega) k (by omega)
theorem step_in (q : Int) (h0 : 0 ≤ q) (h1 : q < 4) (w : World) : ∃ S : Int, (S = 1 ∨ S = 32 ∨ S = 64 ∨ S = 128) ∧ (w.alloc (.cells #[.int .i64 1, .int .i64 32, .int .i64 64, .int .i64 128] 3)).cell? ⟨w.heap.size, q.toNat, none⟩ = some (.int .i64 S) := by
  have hr : (w.alloc (.cells #[.int .i64 1, .int .i64 32, .int .i64 64, .int .i64 128] 3)).heap[w.heap.size]? = some (.cells #[.int .i64 1, .int .i64 32, .int .i64 64, .int .i64 128] 3 (0, 0)) := heap_alloc_new _ _
  have hq : q = 0 ∨ q = 1 ∨ q = 2 ∨ q = 3 := by omega
  rcases hq with rfl | rfl | rfl | rfl
  · exact ⟨1, .inl rfl, (cell_of_row _ _ 0 _ _ _ hr).trans rfl⟩
  · exact ⟨32, .inr (.inl rfl), (cell_of_row _ _ 1 _ _ _ hr).trans rfl⟩
  · exact ⟨64, .inr (.inr (.inl rfl)), (cell_of_row _ _ 2 _ _ _ hr).trans rfl⟩
  · exact ⟨128, .inr (.inr (.inr rfl)), (cell_of_row _ _ 3 _ _ _ hr).trans rfl⟩
end Go.Proofs.Ytbeiphnlckflpaa
