/- DmaBack's numbers: words that are moved there and back, apart. -/
import Derived.Test.YtndphclogkmonaaPlain16
namespace Go.Proofs.Ytndphclogkmonaa
open Go.RowKit
set_option linter.unusedVariables false

/-- The words behind k that were laid from a place on. -/
def pkTo (A : Int) (zs : List Int) : Nat → Nat → Int
  | 0 => fun _ => 0
  | k + 1 => pokeAt (pkTo A zs k) (A + k) (zs.getD k 0)
/-- And behind k that were wiped. -/
def wpTo (f : Nat → Int) (A : Int) : Nat → Nat → Int
  | 0 => f
  | k + 1 => pokeAt (wpTo f A k) (A + k) 0
theorem pk_at (A : Int) (zs : List Int) (h0 : 0 ≤ A) : ∀ m : Nat, A + m ≤ 32768 → ∀ i, i < m → wordAt (pkTo A zs m) (A + i) = zs.getD i 0 % 65536
  | 0, _, i, h => by omega
  | m + 1, hm, i, h => by
    show wordAt (pokeAt (pkTo A zs m) (A + m) (zs.getD m 0)) (A + i) = _
    by_cases e : i = m
    · subst e
      rw [wordAt_same, if_pos (by omega)]
    · rw [wordAt_other _ _ _ _ (by omega)]
      exact pk_at A zs h0 m (by omega) i (by omega)
theorem wp_at (f : Nat → Int) (A p : Int) (h0 : 0 ≤ A) (hp : p < 65536) : ∀ m : Nat, A + m ≤ p → wordAt (wpTo f A m) p = wordAt f p
  | 0, _ => rfl
  | m + 1, hm => by
    show wordAt (pokeAt (wpTo f A m) (A + m) 0) p = _
    rw [wordAt_other _ _ _ _ (by omega)]
    exact wp_at f A p h0 hp m (by omega)
theorem mv_on_at (f : Nat → Int) (A B : Int) (N : Nat) (hA0 : 0 ≤ A) (hA1 : A + N ≤ 32768) (hB0 : 0 ≤ B) (hB1 : B + N ≤ 32768) (hap : A + N ≤ B ∨ B + N ≤ A) (i : Nat) (hi : i < N) : wordAt (mvTo f A 1 B 1 N) (B + i) = wordAt f (A + i) % 65536 := by
  have ea : ∀ j : Nat, j < N → placeAt A 1 j = A + j := fun j hj => placeAt_on A j hA0 (by omega)
  have eb : ∀ j : Nat, j < N → placeAt B 1 j = B + j := fun j hj => placeAt_on B j hB0 (by omega)
  have h := mv_at f A 1 B 1 N (fun i j hi hj => by rw [ea i hi, eb j hj]; omega) (fun i j hi hj => by rw [eb i (by omega), eb j hj]; omega) (fun i hi => by rw [eb i hi]; omega) N (Nat.le_refl _) i hi
  rw [ea i hi, eb i hi] at h
  exact h
theorem mv_on_other (f : Nat → Int) (A B p : Int) (N : Nat) (hB0 : 0 ≤ B) (hB1 : B + N ≤ 32768) (hp0 : 0 ≤ p) (hp1 : p < 65536) (hap : p < B ∨ B + N ≤ p) : wordAt (mvTo f A 1 B 1 N) p = wordAt f p :=
  mv_other f A 1 B 1 p N fun i hi => by rw [placeAt_on B i hB0 (by omega)]; omega
theorem mv_back_at (f : Nat → Int) (A B : Int) (N : Nat) (hA0 : 0 ≤ A) (hB1 : B < 32768) (hap : A + N ≤ B - N + 1) (i : Nat) (hi : i < N) : wordAt (mvTo f A 1 B (-1) N) (B - i) = wordAt f (A + i) % 65536 := by
  have ea : ∀ j : Nat, j < N → placeAt A 1 j = A + j := fun j hj => placeAt_on A j hA0 (by omega)
  have eb : ∀ j : Nat, j < N → placeAt B (-1) j = B - j := fun j hj => placeAt_back B j (by omega) (by omega)
  have h := mv_at f A 1 B (-1) N (fun i j hi hj => by rw [ea i hi, eb j hj]; omega) (fun i j hi hj => by rw [eb i (by omega), eb j hj]; omega) (fun i hi => by rw [eb i hi]; omega) N (Nat.le_refl _) i hi
  rw [ea i hi, eb i hi] at h
  exact h
theorem mv_back_other (f : Nat → Int) (A B p : Int) (N : Nat) (hB0 : 0 ≤ B - N + 1) (hB1 : B < 32768) (hp0 : 0 ≤ p) (hp1 : p < 65536) (hap : p < B - N + 1 ∨ B < p) : wordAt (mvTo f A 1 B (-1) N) p = wordAt f p :=
  mv_other f A 1 B (-1) p N fun i hi => by rw [placeAt_back B i (by omega) (by omega)]; omega
/-- What the law's words are: laid, moved, moved the other way round. -/
def f1Of (A : Int) (zs : List Int) (K : Nat) : Nat → Int := mvTo (pkTo A zs K) A 1 (A + 1000) 1 K
def f2Of (A : Int) (zs : List Int) (K : Nat) : Nat → Int := mvTo (f1Of A zs K) (A + 1000) 1 (A + 2000 + (K - 1)) (-1) K
def f3Of (A : Int) (zs : List Int) (K : Nat) : Nat → Int := mvTo (wpTo (f2Of A zs K) A K) (A + 1000) 1 A 1 K
theorem f1_at (A : Int) (zs : List Int) (K : Nat) (h0 : 0 ≤ A) (h1 : A < 16384) (hK : K ≤ 60) (i : Nat) (hi : i < K) : wordAt (f1Of A zs K) (A + i) = zs.getD i 0 % 65536 ∧ wordAt (f1Of A zs K) (A + 1000 + i) = zs.getD i 0 % 65536 := by
  have hp := pk_at A zs h0 K (by omega) i hi
  refine ⟨?_, ?_⟩
  · unfold f1Of
    rw [mv_on_other _ _ _ _ _ (by omega) (by omega) (by omega) (by omega) (by omega)]
    exact hp
  · unfold f1Of
    rw [mv_on_at _ _ _ _ h0 (by omega) (by omega) (by omega) (by omega) i hi, hp]
    omega
theorem f2_at (A : Int) (zs : List Int) (K : Nat) (h0 : 0 ≤ A) (h1 : A < 16384) (hK : K ≤ 60) (i : Nat) (hi : i < K) : wordAt (f2Of A zs K) (A + i) = zs.getD i 0 % 65536 ∧ wordAt (f2Of A zs K) (A + 1000 + i) = zs.getD i 0 % 65536 ∧ wordAt (f2Of A zs K) (A + 2000 + (K - 1) - i) = zs.getD i 0 % 65536 := by
  obtain ⟨ha, hb⟩ := f1_at A zs K h0 h1 hK i hi
  refine ⟨?_, ?_, ?_⟩
  · unfold f2Of
    rw [mv_back_other _ _ _ _ _ (by omega) (by omega) (by omega) (by omega) (by omega)]
    exact ha
  · unfold f2Of
    rw [mv_back_other _ _ _ _ _ (by omega) (by omega) (by omega) (by omega) (by omega)]
    exact hb
  · unfold f2Of
    rw [mv_back_at _ _ _ _ (by omega) (by omega) (by omega) i hi, hb]
    omega
theorem wp2_at (A : Int) (zs : List Int) (K : Nat) (h0 : 0 ≤ A) (h1 : A < 16384) (hK : K ≤ 60) (i : Nat) (hi : i < K) : wordAt (wpTo (f2Of A zs K) A i) (A + i) = zs.getD i 0 % 65536 ∧ wordAt (wpTo (f2Of A zs K) A i) (A + 1000 + i) = zs.getD i 0 % 65536 ∧ wordAt (wpTo (f2Of A zs K) A i) (A + 2000 + (K - 1) - i) = zs.getD i 0 % 65536 := by
  obtain ⟨ha, hb, hc⟩ := f2_at A zs K h0 h1 hK i hi
  exact ⟨(wp_at _ A _ h0 (by omega) i (by omega)).trans ha, (wp_at _ A _ h0 (by omega) i (by omega)).trans hb, (wp_at _ A _ h0 (by omega) i (by omega)).trans hc⟩
theorem f3_at (A : Int) (zs : List Int) (K : Nat) (h0 : 0 ≤ A) (h1 : A < 16384) (hK : K ≤ 60) (i : Nat) (hi : i < K) : wordAt (f3Of A zs K) (A + i) = zs.getD i 0 % 65536 := by
  obtain ⟨ha, hb, hc⟩ := f2_at A zs K h0 h1 hK i hi
  unfold f3Of
  rw [mv_on_at _ _ _ _ (by omega) (by omega) (by omega) (by omega) (by omega) i hi, wp_at _ A _ h0 (by omega) K (by omega), hb]
  omega
end Go.Proofs.Ytndphclogkmonaa
