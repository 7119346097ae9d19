/- A region that draws its order and some of whose operations write, each behind the one ahead of it: the world by how many of them have come up. No word of the program is in it. -/
import Derived.Test.YthelklkfcllddaaGreatDoorTopCardsJ26
namespace Go.Proofs.YthelklkfcllddaaGreatDoor
set_option maxRecDepth 20000
open Go.RowKit
set_option linter.unusedVariables false
def cntD : List Nat → (Nat → Bool) → Nat
  | [], _ => 0
  | p :: ps, d => (if d p = true then 1 else 0) + cntD ps d
theorem cntD_none : ∀ (ps : List Nat) (d : Nat → Bool), (∀ i, d i = false) → cntD ps d = 0
  | [], _, _ => rfl
  | p :: ps, d, h => by
    unfold cntD
    rw [h p, cntD_none ps d h]
    rfl
theorem cntD_keep : ∀ (ps : List Nat) (d : Nat → Bool) (i : Nat), ps.contains i = false → cntD ps (updD d i) = cntD ps d
  | [], _, _, _ => rfl
  | p :: ps, d, i, h => by
    simp only [List.contains_cons, Bool.or_eq_false_iff, beq_eq_false_iff_ne] at h
    unfold cntD
    rw [updD_other d (fun e => h.1 e.symm), cntD_keep ps d i h.2]
theorem stage_keep {A : Nat → World → Prop} {ps : List Nat} {d : Nat → Bool} {i : Nat} {w : World} (h : ps.contains i = false) (hs : A (cntD ps d) w) : A (cntD ps (updD d i)) w := by
  rw [cntD_keep ps d i h]
  exact hs
theorem stage_none {A : Nat → World → Prop} {ps : List Nat} {d : Nat → Bool} {w : World} (h : ∀ i, d i = false) (hs : A 0 w) : A (cntD ps d) w := by
  rw [cntD_none ps d h]
  exact hs
def stgs (l : List (World → Prop)) (n : Nat) (w : World) : Prop := (l.getD n (fun _ => True)) w
end Go.Proofs.YthelklkfcllddaaGreatDoor
