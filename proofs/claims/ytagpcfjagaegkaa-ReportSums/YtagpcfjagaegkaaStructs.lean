/- A struct, by value, that came in: its fields, one cell each. No word of the program is in it but that its types are laid out. -/
import Derived.Test.YtagpcfjagaegkaaArrays
import Derived.ChangeArms
namespace Go.Proofs.Ytagpcfjagaegkaa
open Go.ChangeShapes Go.WideShapes Go.ChangeAt Go.RowKit

theorem open_struct_cells {H : Type} {enc : TypeId × Value → H} {P : Program} {W : World} {r : Reach} {base b0 : Nat} {sp : Nat → Bool} {held : Bool} {t : TypeId} {fs : Array Field} {n : Nat} {v : Value} {d : DataW H} {ps : List MemPlace}
    (ht : P.underlying t = some (.struct fs)) (hct : P.cellsOf t = n) (hok : Value.okWide P W r base t v) (h : DataW.Trod enc P W b0 sp held t v d ps) :
    ∃ (cs : Array Value) (fuel : Nat), v = .agg cs ∧ cs.size = n ∧ ∀ (i : Nat) (f : Field), fs[i]? = some f → ∃ y, DataW.trod enc P W b0 sp held fuel f.type ((cs.toList.drop f.offset).take (P.cellsOf f.type)) = some y := by
  obtain ⟨cs, rfl, hsz, _⟩ : ∃ cs, v = .agg cs ∧ cs.size = P.cellsOf t ∧ Row.okWide P W r base t cs := by
    simpa [Value.okWide, ht] using hok
  obtain ⟨fuel, hf⟩ := h
  obtain ⟨xs, m, _, ex, _, hl, hel⟩ := DataW.trod_struct ht hf
  refine ⟨cs, m, rfl, hsz.trans hct, fun i f hi => ?_⟩
  have g := hel i f hi
  have hlt : i < fs.size := (Array.getElem?_eq_some_iff.1 hi).1
  rw [List.getElem?_eq_getElem (by omega)] at g
  exact ⟨_, g⟩
theorem cell_at {cs : Array Value} {i k : Nat} {v : Value} (hk : k = 1) (h : (cs.toList.drop i).take k = [v]) : cs[i]? = some v := by
  subst hk
  rcases Nat.lt_or_ge i cs.size with hi | hi
  · have hi' : i < cs.toList.length := by simpa using hi
    rw [List.drop_eq_getElem_cons hi'] at h
    rw [Array.getElem?_eq_getElem hi]
    simpa using h
  · rw [List.drop_eq_nil_of_le (by simpa using hi)] at h
    simp at h
theorem cells_are {cs : Array Value} (xs : List Value) (h : cs.size = xs.length) (k : ∀ i, i < xs.length → cs[i]? = xs[i]?) : cs = xs.toArray := by
  apply Array.toList_inj.1
  apply List.ext_getElem?
  intro i
  rcases Nat.lt_or_ge i xs.length with hi | hi
  · simpa using k i hi
  · rw [List.getElem?_eq_none (by simpa using (by omega : cs.size ≤ i))]
    simp [List.getElem?_eq_none hi]
end Go.Proofs.Ytagpcfjagaegkaa
