/- Five pads, by value, that came in: their numbers and bools. -/
import Derived.Test.YtliedfjaeakgeaaStructs
import Derived.Test.YtliedfjaeakgeaaPad23
namespace Go.Proofs.Ytliedfjaeakgeaa
open Go.ChangeShapes Go.WideShapes Go.ChangeAt Go.RowKit
set_option linter.unusedVariables false

def boolOf : Value → Bool
  | .bool b => b
  | _ => false
theorem open_pads {H : Type} {enc : TypeId × Value → H} {P : Program} {W : World} {r : Reach} {base b0 : Nat} {sp : Nat → Bool} {held : Bool} {t e : TypeId} {n : Nat} {fs : Array Field} {F0 F1 : Field} {v : Value} {d : DataW H} {ps : List MemPlace}
    (ht : P.underlying t = some (.array n e)) (hct : P.cellsOf t = n * 2) (he : P.underlying e = some (.struct fs)) (hce : P.cellsOf e = 2)
    (f0 : fs[0]? = some F0) (o0 : F0.offset = 0) (c0 : P.cellsOf F0.type = 1) (u0 : P.underlying F0.type = some (.int .i64))
    (f1 : fs[1]? = some F1) (o1 : F1.offset = 1) (c1 : P.cellsOf F1.type = 1) (u1 : P.underlying F1.type = some .bool)
    (hok : Value.okWide P W r base t v) (h : DataW.Trod enc P W b0 sp held t v d ps) :
    ∃ (K : Nat → Int) (X : Nat → Bool), v = .agg (rowF (pc K X) (n * 2)) ∧ ∀ j, j < n → (Lit.int .i64 (K j)).wf = true := by
  obtain ⟨cs, rfl, hsz, _⟩ : ∃ cs, v = .agg cs ∧ cs.size = P.cellsOf t ∧ Row.okWide P W r base t cs := by
    simpa [Value.okWide, ht] using hok
  obtain ⟨fuel, hf⟩ := h
  obtain ⟨xs, m, _, ex, _, hl, hel⟩ := DataW.trod_array ht hf
  rw [hct] at hsz
  have each : ∀ i, i < n → ∃ z b, cs[i * 2]? = some (.int .i64 z) ∧ cs[i * 2 + 1]? = some (.bool b) ∧ (Lit.int .i64 z).wf = true := by
    intro i hi
    have g := hel i hi
    rw [hce, List.getElem?_eq_getElem (by omega)] at g
    obtain ⟨ys, m2, _, ey, _, hl2, hel2⟩ := DataW.trod_struct he g
    have g0 := hel2 0 F0 f0
    have g1 := hel2 1 F1 f1
    have l0 : 0 < fs.size := (Array.getElem?_eq_some_iff.1 f0).1
    have l1 : 1 < fs.size := (Array.getElem?_eq_some_iff.1 f1).1
    rw [o0, c0, List.getElem?_eq_getElem (by omega)] at g0
    rw [o1, c1, List.getElem?_eq_getElem (by omega)] at g1
    obtain ⟨z, e0, _, wz⟩ := DataW.trod_int u0 g0
    obtain ⟨b, e1, _⟩ := DataW.trod_bool u1 g1
    refine ⟨z, b, ?_, ?_, wz⟩
    · have k : ((cs.toList.drop (i * 2)).take 2).length = 2 := by simp; omega
      have q : cs.toList.drop (i * 2) = cs.toList.drop (i * 2) := rfl
      have h1 : i * 2 < cs.toList.length := by simp; omega
      have h2 : i * 2 + 1 < cs.toList.length := by simp; omega
      have e0' : (((cs.toList.drop (i * 2)).take 2).drop 0).take 1 = [Value.int .i64 z] := by simpa [Value.cells] using e0
      rw [List.drop_eq_getElem_cons h1] at e0'
      simp at e0'
      rw [Array.getElem?_eq_getElem (by omega), e0']
    · have h1 : i * 2 < cs.toList.length := by simp; omega
      have h2 : i * 2 + 1 < cs.toList.length := by simp; omega
      have e1' : (((cs.toList.drop (i * 2)).take 2).drop 1).take 1 = [Value.bool b] := by simpa [Value.cells] using e1
      rw [List.drop_eq_getElem_cons h1, List.drop_eq_getElem_cons h2] at e1'
      simp at e1'
      rw [Array.getElem?_eq_getElem (by omega), e1']
  refine ⟨fun j => intOf (cs[j * 2]?.getD undef), fun j => boolOf (cs[j * 2 + 1]?.getD undef), ?_, ?_⟩
  · congr 1
    apply Array.ext_getElem?
    intro i
    by_cases hi : i < n * 2
    · rw [rowF_at _ _ _ hi]
      obtain ⟨z, b, ez, eb, _⟩ := each (i / 2) (by omega)
      unfold pc
      by_cases h2 : i % 2 = 0
      · rw [if_pos h2]
        show cs[i]? = some (.int .i64 (intOf (cs[i / 2 * 2]?.getD undef)))
        have e : cs[i]? = some (.int .i64 z) := by rw [← ez, show i / 2 * 2 = i by omega]
        rw [ez, e]
        rfl
      · rw [if_neg h2]
        show cs[i]? = some (.bool (boolOf (cs[i / 2 * 2 + 1]?.getD undef)))
        have e : cs[i]? = some (.bool b) := by rw [← eb, show i / 2 * 2 + 1 = i by omega]
        rw [eb, e]
        rfl
    · rw [rowF_none _ _ _ hi, Array.getElem?_eq_none (by omega)]
  · intro j hj
    obtain ⟨z, b, ez, eb, wz⟩ := each j hj
    show (Lit.int .i64 (intOf (cs[j * 2]?.getD undef))).wf = true
    rw [ez]
    exact wz
end Go.Proofs.Ytliedfjaeakgeaa
