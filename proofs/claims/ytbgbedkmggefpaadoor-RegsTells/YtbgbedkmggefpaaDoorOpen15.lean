/- A struct of a number and an array of numbers, by value, that came in; a slice of arrays that came in. No word of the program is in it but that its types are laid out. -/
import Derived.Test.YtbgbedkmggefpaaDoorStructs
import Derived.Test.YtbgbedkmggefpaaDoorRow15
namespace Go.Proofs.YtbgbedkmggefpaaDoor
open Go.ChangeShapes Go.WideShapes Go.ChangeAt Go.RowKit

/-- The cells of an array of integers. -/
theorem trod_ints {H : Type} {enc : TypeId × Value → H} {P : Program} {W : World} {b0 : Nat} {sp : Nat → Bool} {held : Bool} {t e : TypeId} {n : Nat} {k : IntKind} {cs : List Value} {fuel : Nat} {y : DataW H × List MemPlace}
    (ht : P.underlying t = some (.array n e)) (he : P.underlying e = some (.int k)) (hce : P.cellsOf e = 1) (h : DataW.trod enc P W b0 sp held fuel t cs = some y) :
    ∀ i, i < n → ∃ z, cs[i]? = some (.int k z) ∧ (Lit.int k z).wf = true := by
  obtain ⟨xs, m, _, ex, hcl, hl, hel⟩ := DataW.trod_array ht h
  intro i hi
  have g := hel i hi
  rw [hce] at g
  have hx : xs[i]? = some xs[i] := List.getElem?_eq_getElem (by omega)
  rw [hx] at g
  obtain ⟨z, e1, _, wz⟩ := DataW.trod_int he g
  refine ⟨z, ?_, wz⟩
  have e3 : (cs.drop i).take 1 = [Value.int k z] := by simpa [Value.cells] using e1
  have e4 : ((cs.drop i).take 1)[0]? = some (Value.int k z) := by rw [e3]; rfl
  simpa using e4

/-- The registers. -/
theorem open_regs {H : Type} {enc : TypeId × Value → H} {P : Program} {W : World} {r : Reach} {base b0 : Nat} {sp : Nat → Bool} {held : Bool} {t e : TypeId} {fs : Array Field} {f0 f1 : Field} {v : Value} {d : DataW H} {ps : List MemPlace}
    (ht : P.underlying t = some (.struct fs)) (hct : P.cellsOf t = 21) (h0 : fs[0]? = some f0) (o0 : f0.offset = 0) (t0 : P.underlying f0.type = some (.int .i64)) (n0 : P.cellsOf f0.type = 1)
    (h1 : fs[1]? = some f1) (o1 : f1.offset = 1) (t1 : P.underlying f1.type = some (.array 20 e)) (n1 : P.cellsOf f1.type = 20) (te : P.underlying e = some (.int .i64)) (ne : P.cellsOf e = 1)
    (hok : Value.okWide P W r base t v) (h : DataW.Trod enc P W b0 sp held t v d ps) :
    ∃ (s : Int) (f : Nat → Int), v = .agg (rowG s f) ∧ (Lit.int .i64 s).wf = true ∧ ∀ j, j < 20 → (Lit.int .i64 (f j)).wf = true := by
  obtain ⟨cs, fuel, rfl, hsz, hel⟩ := open_struct_cells ht hct hok h
  obtain ⟨y0, g0⟩ := hel 0 f0 h0
  obtain ⟨y1, g1⟩ := hel 1 f1 h1
  obtain ⟨s, e0, _, ws⟩ := DataW.trod_int t0 g0
  have a0 : cs[0]? = some (.int .i64 s) := by
    rw [o0] at e0
    exact cell_at n0 e0
  have a1 := trod_ints t1 te ne g1
  rw [o1, n1] at a1
  have a2 : ∀ i, i < 20 → ∃ z, cs[1 + i]? = some (.int .i64 z) ∧ (Lit.int .i64 z).wf = true := by
    intro i hi
    obtain ⟨z, ez, wz⟩ := a1 i hi
    rw [List.getElem?_take, if_pos hi, List.getElem?_drop] at ez
    exact ⟨z, by simpa using ez, wz⟩
  refine ⟨s, fun j => intOf (cs[1 + j]?.getD undef), ?_, ws, ?_⟩
  · congr 1
    apply Array.ext_getElem?
    intro i
    rcases i with _ | i
    · rw [a0, rowG_0]
    · by_cases hi : i < 20
      · obtain ⟨z, ez, _⟩ := a2 i hi
        rw [show i + 1 = 1 + i by omega, rowG_at _ _ i hi, ez]
        rfl
      · rw [Array.getElem?_eq_none (by omega), Array.getElem?_eq_none (by rw [rowG_size]; omega)]
  · intro j hj
    obtain ⟨z, ez, wz⟩ := a2 j hj
    show (Lit.int .i64 (intOf (cs[1 + j]?.getD undef))).wf = true
    rw [ez]
    exact wz
end Go.Proofs.YtbgbedkmggefpaaDoor
