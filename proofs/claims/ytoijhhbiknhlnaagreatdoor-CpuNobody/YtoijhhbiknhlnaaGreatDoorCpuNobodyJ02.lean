/- Rows in parts: a row of values as a list of parts, each of so many cells; what a load of a part yields, and what a store into one leaves. No word of the program is in it. -/
import Derived.Test.YtoijhhbiknhlnaaGreatDoorCpuNobodyJ01
namespace Go.Proofs.YtoijhhbiknhlnaaGreatDoor
set_option maxRecDepth 20000
open Go.RowKit
set_option linter.unusedVariables false
def segs : List (Nat × (Nat → Value)) → Nat → Value
  | [], _ => undef
  | (n, f) :: r, j => if j < n then f j else segs r (j - n)
def soff : List (Nat × (Nat → Value)) → Nat → Nat
  | _, 0 => 0
  | [], _ + 1 => 0
  | (n, _) :: r, k + 1 => n + soff r k
theorem soff_cons (m : Nat) (g : Nat → Value) (r : List (Nat × (Nat → Value))) (k : Nat) : soff ((m, g) :: r) (k + 1) = m + soff r k := rfl
theorem soff_zero (L : List (Nat × (Nat → Value))) : soff L 0 = 0 := by cases L <;> rfl
theorem segs_cons (m : Nat) (g : Nat → Value) (r : List (Nat × (Nat → Value))) (j : Nat) : segs ((m, g) :: r) j = if j < m then g j else segs r (j - m) := rfl
theorem segs_get : ∀ (L : List (Nat × (Nat → Value))) (k n : Nat) (f : Nat → Value) (j : Nat), L[k]? = some (n, f) → j < n → segs L (soff L k + j) = f j
  | [], k, n, f, j, h, _ => by simp at h
  | (m, g) :: r, 0, n, f, j, h, hj => by
    obtain ⟨rfl, rfl⟩ : m = n ∧ g = f := by simpa using h
    rw [soff_zero, segs_cons, Nat.zero_add, if_pos hj]
  | (m, g) :: r, k + 1, n, f, j, h, hj => by
    have h' : r[k]? = some (n, f) := by simpa using h
    have ih := segs_get r k n f j h' hj
    rw [soff_cons, segs_cons, if_neg (by omega), show m + soff r k + j - m = soff r k + j by omega]
    exact ih
theorem HasF.get {T : TypeId} {w : World} {b N : Nat} {L : List (Nat × (Nat → Value))} (h : HasF T w b N (segs L)) (k : Nat) {n : Nat} {f : Nat → Value} (hk : L[k]? = some (n, f)) (j : Nat) (hj : j < n) {a : Nat} (ha : soff L k + j = a) (hN : a < N) : w.cell? ⟨b, a, none⟩ = some (f j) := by
  rw [h.at a hN, ← ha, segs_get L k n f j hk hj]
theorem HasF.get1 {T : TypeId} {w : World} {b N : Nat} {L : List (Nat × (Nat → Value))} (h : HasF T w b N (segs L)) (k : Nat) {v : Value} (hk : L[k]? = some (1, fun _ => v)) {a : Nat} (ha : soff L k = a) (hN : a < N) : w.cell? ⟨b, a, none⟩ = some v := h.get k hk 0 (by decide) (by omega) hN
end Go.Proofs.YtoijhhbiknhlnaaGreatDoor
