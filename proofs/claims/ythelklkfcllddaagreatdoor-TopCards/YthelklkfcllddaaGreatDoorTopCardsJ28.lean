/- A struct of a number and an array of numbers, by value, that came in; a slice of arrays that came in. No word of the program is in it but that its types are laid out. -/
import Derived.Test.YthelklkfcllddaaGreatDoorTopCardsJ01
import Derived.Test.YthelklkfcllddaaGreatDoorTopCardsJ11
namespace Go.Proofs.YthelklkfcllddaaGreatDoor
set_option maxRecDepth 20000
open R15
open Go.ChangeShapes Go.WideShapes Go.ChangeAt Go.RowKit
theorem trod_ints {H : Type} {enc : TypeId × Value → H} {P : Program} {W : World} {b0 : Nat} {sp : Nat → Bool} {held : Bool} {t e : TypeId} {n : Nat} {k : IntKind} {cs : List Value} {fuel : Nat} {y : DataW H × List MemPlace}
    (ht : P.underlying t = some (.array n e)) (he : P.underlying e = some (.int k)) (hce : P.cellsOf e = 1) (h : DataW.trod enc P W b0 sp held fuel t cs = some y) :
    ∀ i, i < n → ∃ z, cs[i]? = some (.int k z) ∧ (Lit.int k z).wf = true := by
  obtain ⟨xs, m, _, ex, hcl, hl, hel⟩ := DataW.trod_array ht h
  intro i hi
  have g := hel i hi
  rw [hce] at g
  have hx : xs[i]? = some xs[i] := List.getElem?_eq_getElem (by omega)
  rw [hx] at g
  obtain ⟨z, e1, _, wz⟩ := DataW.trod_int he g
  refine ⟨z, ?_, wz⟩
  have e3 : (cs.drop i).take 1 = [Value.int k z] := by simpa [Value.cells] using e1
  have e4 : ((cs.drop i).take 1)[0]? = some (Value.int k z) := by rw [e3]; rfl
  simpa using e4
end Go.Proofs.YthelklkfcllddaaGreatDoor
