/- Words that are moved within video memory: what lies there behind so many words. Numbers alone. -/
import Derived.Test.YtndphclogkmonaaWords13
namespace Go.Proofs.Ytndphclogkmonaa
open Go.RowKit
set_option linter.unusedVariables false

/-- The words behind k words that were moved: the first end begins at A and goes on by S, the second at B and by T. -/
def mvTo (f : Nat → Int) (A S B T : Int) : Nat → Nat → Int
  | 0 => f
  | k + 1 => pokeAt (mvTo f A S B T k) (placeAt B T k) (wordAt (mvTo f A S B T k) (placeAt A S k))
theorem mvTo_next (f : Nat → Int) (A S B T : Int) (k : Nat) : pokeAt (mvTo f A S B T k) (placeAt B T k) (wordAt (mvTo f A S B T k) (placeAt A S k)) = mvTo f A S B T (k + 1) := rfl
/-- Where nothing was laid all is as it was. -/
theorem mv_other (f : Nat → Int) (A S B T p : Int) : ∀ k, (∀ i, i < k → p % 65536 ≠ placeAt B T i) → wordAt (mvTo f A S B T k) p = wordAt f p
  | 0, _ => rfl
  | k + 1, h => by
    rw [← mvTo_next, wordAt_other _ _ _ _ (by have := h k (by omega); have := placeAt_ge B T k; have := placeAt_lt B T k; omega)]
    exact mv_other f A S B T p k fun i hi => h i (by omega)
/-- Ends that lie apart from one another: each place has the word of its own. -/
theorem mv_at (f : Nat → Int) (A S B T : Int) (N : Nat) (hs : ∀ i j, i < N → j < N → placeAt A S i ≠ placeAt B T j) (hd : ∀ i j, i < j → j < N → placeAt B T i ≠ placeAt B T j) (hin : ∀ i, i < N → placeAt B T i < 32768) :
    ∀ k, k ≤ N → ∀ i, i < k → wordAt (mvTo f A S B T k) (placeAt B T i) = wordAt f (placeAt A S i) % 65536
  | 0, _, i, h => by omega
  | k + 1, hk, i, h => by
    have g0 := placeAt_ge B T i
    have g1 := placeAt_lt B T i
    have g2 := placeAt_ge B T k
    have g3 := placeAt_lt B T k
    have g4 := placeAt_ge A S k
    have g5 := placeAt_lt A S k
    rw [← mvTo_next]
    by_cases e : i = k
    · subst e
      have hb := hin i (by omega)
      rw [wordAt_same, if_pos (by omega), mv_other f A S B T _ i fun j hj => by have := hs i j (by omega) (by omega); omega]
    · rw [wordAt_other _ _ _ _ (by have := hd i k (by omega) (by omega); omega)]
      exact mv_at f A S B T N hs hd hin k (by omega) i (by omega)
/-- Places that go on by 1, and back by 1, with no end of the places between. -/
theorem placeAt_on (A : Int) (k : Nat) (h0 : 0 ≤ A) (h1 : A + k < 65536) : placeAt A 1 k = A + k := by unfold placeAt; omega
theorem placeAt_back (A : Int) (k : Nat) (h0 : 0 ≤ A - k) (h1 : A < 65536) : placeAt A (-1) k = A - k := by unfold placeAt; omega
/-- A block that is moved onto the place behind its beginning. -/
theorem fill_at (f : Nat → Int) (A x : Int) (N : Nat) (h0 : 0 ≤ A) (h1 : A + N < 32768) (hx : wordAt f A = x % 65536) : ∀ k, k ≤ N → ∀ i : Nat, i ≤ k → wordAt (mvTo f A 1 (A + 1) 1 k) (A + i) = x % 65536
  | 0, _, i, h => by
    obtain rfl : i = 0 := by omega
    rw [show A + ((0 : Nat) : Int) = A by omega]
    exact hx
  | k + 1, hk, i, h => by
    have e1 := placeAt_on A k h0 (by omega)
    have e2 := placeAt_on (A + 1) k (by omega) (by omega)
    rw [← mvTo_next, e1, e2]
    by_cases e : i = k + 1
    · subst e
      rw [show A + ((k + 1 : Nat) : Int) = A + 1 + k by omega, wordAt_same, if_pos (by omega), fill_at f A x N h0 h1 hx k (by omega) k (by omega)]
      omega
    · rw [wordAt_other _ _ _ _ (by omega)]
      exact fill_at f A x N h0 h1 hx k (by omega) i (by omega)
end Go.Proofs.Ytndphclogkmonaa
