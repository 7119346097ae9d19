/- Slices among the fields of a struct that came in: of integers, of bools, of structs. No word of the program is in it but that its types are laid out. -/
import Derived.Test.YthelklkfcllddaaGreatDoorTopCardsJ01
import Derived.SizedLaws
namespace Go.Proofs.YthelklkfcllddaaGreatDoor
set_option maxRecDepth 20000
open Go.ChangeShapes Go.WideShapes Go.ChangeAt Go.RowKit
set_option linter.unusedVariables false
theorem open_field_ints {H : Type} {enc : TypeId × Value → H} {P : Program} {W : World} {b0 n : Nat} {held : Bool} {t e : TypeId} {k : IntKind} {cs : List Value} {y : DataW H × List MemPlace}
    (ht : P.underlying t = some (.slice e)) (he : P.underlying e = some (.int k)) (hc : P.cellsOf e = 1) (h : DataW.trod enc P W b0 (fun _ => true) held n t cs = some y) : ∃ a len cap zs, cs = [.slice a len cap] ∧ IsRow k W a len cap zs := by
  rcases open_ints ht he hc h with ⟨hcs, _⟩ | ⟨x, l, c, zs, hcs, _, hl, hm, hz, _, hcell, hwz⟩
  · exact ⟨none, 0, 0, [], hcs, .inl ⟨rfl, rfl, rfl, rfl⟩⟩
  · exact ⟨some x, l, c, zs, hcs, .inr ⟨x, rfl, hl, hm, by simpa using hz, hcell, hwz⟩⟩
def IsFlags (w : World) (a : Option Addr) (len cap : Nat) (z : Nat → Bool) : Prop := len ≤ cap ∧ cap ≤ maxLen ∧ ∀ i, i < len → ∃ b off, a = some ⟨b, off, none⟩ ∧ b < w.heap.size ∧ w.cell? ⟨b, off + i, none⟩ = some (.bool (z i))
theorem IsFlags.next {w w' : World} {a : Option Addr} {len cap : Nat} {z : Nat → Bool} (h : IsFlags w a len cap z) (k : Below w.heap.size w w') : IsFlags w' a len cap z :=
  ⟨h.1, h.2.1, fun i hi => by
    obtain ⟨b, off, e, hb, c⟩ := h.2.2 i hi
    exact ⟨b, off, e, Nat.lt_of_lt_of_le hb k.size, (k.cell (p := ⟨b, off + i, none⟩) hb).trans c⟩⟩
end Go.Proofs.YthelklkfcllddaaGreatDoor
