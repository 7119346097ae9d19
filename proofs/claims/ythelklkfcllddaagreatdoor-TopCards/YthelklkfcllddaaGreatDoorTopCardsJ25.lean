/- Plain facts on flags, halves and bytes that the walks of layer 2 use; the answers of layer 2 by definition: no word of the program is in it. -/
import Derived.Test.YthelklkfcllddaaGreatDoorTopCardsJ01
namespace Go.Proofs.YthelklkfcllddaaGreatDoor
set_option maxRecDepth 20000
def setOf (p f : Int) (on : Bool) : Int := p - p / f % 2 * f + if on = true then f else 0
def IsFlag (f : Int) : Prop := f = 1 ∨ f = 2 ∨ f = 64 ∨ f = 128
theorem set_set {p f g : Int} (x y : Bool) (hf : IsFlag f) (hg : IsFlag g) (h : f ≠ g) : setOf (setOf p f x) g y = setOf (setOf p g y) f x := by
  unfold setOf
  rcases hf with rfl | rfl | rfl | rfl <;> rcases hg with rfl | rfl | rfl | rfl <;> first | exact absurd rfl h | (cases x <;> cases y <;> simp <;> omega)
theorem f1 : IsFlag 1 := .inl rfl
theorem f2 : IsFlag 2 := .inr (.inl rfl)
end Go.Proofs.YthelklkfcllddaaGreatDoor
