/- Rows in parts: a row of values as a list of parts, each of so many cells; what a load of a part yields, and what a store into one leaves. No word of the program is in it. -/
import Derived.Test.YthelklkfcllddaaGreatDoorTopCardsJ01
namespace Go.Proofs.YthelklkfcllddaaGreatDoor
set_option maxRecDepth 20000
open Go.RowKit
set_option linter.unusedVariables false
def segs : List (Nat × (Nat → Value)) → Nat → Value
  | [], _ => undef
  | (n, f) :: r, j => if j < n then f j else segs r (j - n)
def soff : List (Nat × (Nat → Value)) → Nat → Nat
  | _, 0 => 0
  | [], _ + 1 => 0
  | (n, _) :: r, k + 1 => n + soff r k
theorem soff_cons (m : Nat) (g : Nat → Value) (r : List (Nat × (Nat → Value))) (k : Nat) : soff ((m, g) :: r) (k + 1) = m + soff r k := rfl
theorem soff_zero (L : List (Nat × (Nat → Value))) : soff L 0 = 0 := by cases L <;> rfl
theorem segs_cons (m : Nat) (g : Nat → Value) (r : List (Nat × (Nat → Value))) (j : Nat) : segs ((m, g) :: r) j = if j < m then g j else segs r (j - m) := rfl
theorem segs_get : ∀ (L : List (Nat × (Nat → Value))) (k n : Nat) (f : Nat → Value) (j : Nat), L[k]? = some (n, f) → j < n → segs L (soff L k + j) = f j
  | [], k, n, f, j, h, _ => by simp at h
  | (m, g) :: r, 0, n, f, j, h, hj => by
    obtain ⟨rfl, rfl⟩ : m = n ∧ g = f := by simpa using h
    rw [soff_zero, segs_cons, Nat.zero_add, if_pos hj]
  | (m, g) :: r, k + 1, n, f, j, h, hj => by
    have h' : r[k]? = some (n, f) := by simpa using h
    have ih := segs_get r k n f j h' hj
    rw [soff_cons, segs_cons, if_neg (by omega), show m + soff r k + j - m = soff r k + j by omega]
    exact ih
theorem segs_set : ∀ (L : List (Nat × (Nat → Value))) (k n : Nat) (f f' : Nat → Value), L[k]? = some (n, f) → ∀ j, (if soff L k ≤ j ∧ j < soff L k + n then f' (j - soff L k) else segs L j) = segs (L.set k (n, f')) j
  | [], k, n, f, f', h, _ => by simp at h
  | (m, g) :: r, 0, n, f, f', h, j => by
    obtain ⟨rfl, rfl⟩ : m = n ∧ g = f := by simpa using h
    rw [soff_zero, List.set_cons_zero, segs_cons, segs_cons]
    by_cases hj : j < m
    · rw [if_pos (show 0 ≤ j ∧ j < 0 + m by omega), if_pos hj, Nat.sub_zero]
    · rw [if_neg (show ¬ (0 ≤ j ∧ j < 0 + m) by omega), if_neg hj, if_neg hj]
  | (m, g) :: r, k + 1, n, f, f', h, j => by
    have h' : r[k]? = some (n, f) := by simpa using h
    have ih := segs_set r k n f f' h' (j - m)
    rw [soff_cons, List.set_cons_succ, segs_cons, segs_cons]
    by_cases hj : j < m
    · rw [if_neg (show ¬ (m + soff r k ≤ j ∧ j < m + soff r k + n) by omega), if_pos hj, if_pos hj]
    · rw [if_neg hj, if_neg hj, ← ih]
      by_cases hp : m + soff r k ≤ j ∧ j < m + soff r k + n
      · rw [if_pos hp, if_pos (show soff r k ≤ j - m ∧ j - m < soff r k + n by omega), show j - m - soff r k = j - (m + soff r k) by omega]
      · rw [if_neg hp, if_neg (show ¬ (soff r k ≤ j - m ∧ j - m < soff r k + n) by omega)]
theorem segs_up (L : List (Nat × (Nat → Value))) (k n : Nat) (f : Nat → Value) (i : Nat) (v : Value) (h : L[k]? = some (n, f)) (hi : i < n) : ∀ j, updC (segs L) (soff L k + i) v j = segs (L.set k (n, updC f i v)) j := fun j => by
  rw [← segs_set L k n f (updC f i v) h j]
  unfold updC
  by_cases hp : soff L k ≤ j ∧ j < soff L k + n
  · rw [if_pos hp]
    by_cases e : j = soff L k + i
    · rw [if_pos e, if_pos (by omega)]
    · rw [if_neg e, if_neg (by omega)]
      have g := segs_get L k n f (j - soff L k) h (by omega)
      rw [show soff L k + (j - soff L k) = j by omega] at g
      exact g
  · rw [if_neg hp, if_neg (by omega)]
theorem HasF.get {T : TypeId} {w : World} {b N : Nat} {L : List (Nat × (Nat → Value))} (h : HasF T w b N (segs L)) (k : Nat) {n : Nat} {f : Nat → Value} (hk : L[k]? = some (n, f)) (j : Nat) (hj : j < n) {a : Nat} (ha : soff L k + j = a) (hN : a < N) : w.cell? ⟨b, a, none⟩ = some (f j) := by
  rw [h.at a hN, ← ha, segs_get L k n f j hk hj]
theorem HasF.put {T : TypeId} {w : World} {b N : Nat} {L : List (Nat × (Nat → Value))} (h : HasF T w b N (segs L)) (k : Nat) {n : Nat} {f : Nat → Value} (hk : L[k]? = some (n, f)) (j : Nat) (hj : j < n) {a : Nat} (ha : soff L k + j = a) (v : Value) : HasF T (w.setCell ⟨b, a, none⟩ v) b N (segs (L.set k (n, updC f j v))) := by
  subst ha
  exact (h.set _ v).ext fun i _ => segs_up L k n f j v hk hj i
theorem HasF.put1 {T : TypeId} {w : World} {b N : Nat} {L : List (Nat × (Nat → Value))} (h : HasF T w b N (segs L)) (k : Nat) {u : Value} (hk : L[k]? = some (1, fun _ => u)) {a : Nat} (ha : soff L k = a) (v : Value) : HasF T (w.setCell ⟨b, a, none⟩ v) b N (segs (L.set k (1, fun _ => v))) := by
  refine (h.put k hk 0 (by decide) (a := a) (by omega) v).ext fun i _ => ?_
  rw [← segs_set L k 1 (fun _ => u) (fun _ => v) hk i, ← segs_set L k 1 (fun _ => u) (updC (fun _ => u) 0 v) hk i]
  by_cases hp : soff L k ≤ i ∧ i < soff L k + 1
  · rw [if_pos hp, if_pos hp]
    unfold updC
    rw [if_pos (by omega)]
  · rw [if_neg hp, if_neg hp]
theorem HasF.lay {T : TypeId} {w : World} {b N : Nat} {L : List (Nat × (Nat → Value))} (h : HasF T w b N (segs L)) (k : Nat) {n : Nat} {f : Nat → Value} (hk : L[k]? = some (n, f)) (d : Nat → Value) {a : Nat} (ha : soff L k = a) : HasF T (w.setCells b a (rowF d n).toList) b N (segs (L.set k (n, d))) := by
  subst ha
  exact (h.cells (soff L k) n d).ext fun j _ => segs_set L k n f d hk j
theorem HasF.seg {T : TypeId} {w : World} {b N : Nat} {L : List (Nat × (Nat → Value))} (h : HasF T w b N (segs L)) (k : Nat) {n : Nat} {f : Nat → Value} (hk : L[k]? = some (n, f)) {a : Nat} (ha : soff L k = a) : ∀ j, j < n → segs L (a + j) = f j := fun j hj => by
  rw [← ha]
  exact segs_get L k n f j hk hj
theorem HasF.get1 {T : TypeId} {w : World} {b N : Nat} {L : List (Nat × (Nat → Value))} (h : HasF T w b N (segs L)) (k : Nat) {v : Value} (hk : L[k]? = some (1, fun _ => v)) {a : Nat} (ha : soff L k = a) (hN : a < N) : w.cell? ⟨b, a, none⟩ = some v := h.get k hk 0 (by decide) (by omega) hN
theorem soff_sum : ∀ (L : List (Nat × (Nat → Value))) (k : Nat), soff L k = ((L.map Prod.fst).take k).sum
  | L, 0 => by rw [soff_zero]; simp
  | [], k + 1 => rfl
  | (m, g) :: r, k + 1 => by rw [soff_cons, soff_sum r k]; simp
theorem off_of {M : List Nat} {L : List (Nat × (Nat → Value))} (h : L.map Prod.fst = M) (k : Nat) {a : Nat} (ha : (M.take k).sum = a) : soff L k = a := by rw [soff_sum, h, ha]
theorem lens_set {M : List Nat} {L : List (Nat × (Nat → Value))} (h : L.map Prod.fst = M) {k n : Nat} {f : Nat → Value} (hk : L[k]? = some (n, f)) (f' : Nat → Value) : (L.set k (n, f')).map Prod.fst = M := by
  rw [← h]
  apply List.ext_getElem?
  intro i
  rw [List.getElem?_map, List.getElem?_map, List.getElem?_set]
  by_cases e : k = i
  · subst e
    rw [if_pos rfl, hk]
    by_cases hl : k < L.length
    · rw [if_pos hl]; rfl
    · rw [List.getElem?_eq_none (by omega)] at hk; cases hk
  · rw [if_neg e]
theorem set_same {L : List (Nat × (Nat → Value))} {k n : Nat} {f : Nat → Value} (hk : L[k]? = some (n, f)) (x : Nat × (Nat → Value)) : (L.set k x)[k]? = some x := by
  rw [List.getElem?_set, if_pos rfl]
  by_cases hl : k < L.length
  · rw [if_pos hl]
  · rw [List.getElem?_eq_none (by omega)] at hk; cases hk
theorem set_id {L : List (Nat × (Nat → Value))} {k : Nat} {x : Nat × (Nat → Value)} (hk : L[k]? = some x) : L.set k x = L := by
  apply List.ext_getElem?
  intro i
  by_cases e : k = i
  · subst e
    rw [hk]
    exact set_same (n := x.1) (f := x.2) hk x
  · rw [List.getElem?_set, if_neg e]
theorem set_other {L : List (Nat × (Nat → Value))} {k i : Nat} {y : Option (Nat × (Nat → Value))} (hk : L[i]? = y) (x : Nat × (Nat → Value)) (h : k ≠ i) : (L.set k x)[i]? = y := by
  rw [List.getElem?_set, if_neg h, hk]
end Go.Proofs.YthelklkfcllddaaGreatDoor
