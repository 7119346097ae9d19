/- A sound, by value, that came in: its numbers. -/
import Derived.Test.YtcpilhbinkamiaaDoorStructs
import Derived.Test.YtcpilhbinkamiaaDoorRows22
namespace Go.Proofs.YtcpilhbinkamiaaDoor
open Go.ChangeShapes Go.WideShapes Go.ChangeAt Go.RowKit
set_option linter.unusedVariables false

/-- All cells of such a value are integers. -/
def IntsT {H : Type} (enc : TypeId × Value → H) (P : Program) (W : World) (b0 : Nat) (sp : Nat → Bool) (held : Bool) (t : TypeId) (n : Nat) : Prop :=
  ∀ (fuel : Nat) (cs : List Value) (y : DataW H × List MemPlace), DataW.trod enc P W b0 sp held fuel t cs = some y → ∀ i, i < n → ∃ z, cs[i]? = some (.int .i64 z) ∧ (Lit.int .i64 z).wf = true
theorem ints_one_cell {H : Type} {enc : TypeId × Value → H} {P : Program} {W : World} {b0 : Nat} {sp : Nat → Bool} {held : Bool} {t : TypeId} (ht : P.underlying t = some (.int .i64)) : IntsT enc P W b0 sp held t 1 := by
  intro fuel cs y h i hi
  obtain ⟨z, e1, _, wz⟩ := DataW.trod_int ht h
  obtain rfl : i = 0 := by omega
  refine ⟨z, ?_, wz⟩
  have e2 : cs = [Value.int .i64 z] := by simpa [Value.cells] using e1
  rw [e2]
  rfl
theorem take_drop {cs : List Value} {o m r : Nat} {v : Value} (h : ((cs.drop o).take m)[r]? = some v) : cs[o + r]? = some v := by
  rw [List.getElem?_take] at h
  split at h
  · rw [List.getElem?_drop] at h
    exact h
  · cases h
theorem ints_array {H : Type} {enc : TypeId × Value → H} {P : Program} {W : World} {b0 : Nat} {sp : Nat → Bool} {held : Bool} {t e : TypeId} {n m : Nat} (ht : P.underlying t = some (.array n e)) (hc : P.cellsOf e = m) (hm : 0 < m) (he : IntsT enc P W b0 sp held e m) : IntsT enc P W b0 sp held t (n * m) := by
  intro fuel cs y h i hi
  obtain ⟨xs, f', _, ex, _, hl, hel⟩ := DataW.trod_array ht h
  have hj : i / m < n := by
    rw [Nat.div_lt_iff_lt_mul hm]
    exact hi
  have g := hel (i / m) hj
  rw [hc, List.getElem?_eq_getElem (by omega)] at g
  obtain ⟨z, ez, wz⟩ := he _ _ _ g (i % m) (Nat.mod_lt _ hm)
  refine ⟨z, ?_, wz⟩
  have k := take_drop ez
  have d : i / m * m + i % m = i := by
    rw [Nat.mul_comm]
    exact Nat.div_add_mod i m
  rw [d] at k
  exact k
theorem ints_struct {H : Type} {enc : TypeId × Value → H} {P : Program} {W : World} {b0 : Nat} {sp : Nat → Bool} {held : Bool} {t : TypeId} {fs : Array Field} {n : Nat} (ht : P.underlying t = some (.struct fs)) (hF : ∀ i, i < n → ∃ (k : Nat) (f : Field) (m : Nat), fs[k]? = some f ∧ f.offset ≤ i ∧ i < f.offset + m ∧ P.cellsOf f.type = m ∧ IntsT enc P W b0 sp held f.type m) : IntsT enc P W b0 sp held t n := by
  intro fuel cs y h i hi
  obtain ⟨k, f, m, h1, h2, h3, h4, h5⟩ := hF i hi
  obtain ⟨xs, f', _, ex, _, hl, hel⟩ := DataW.trod_struct ht h
  have g := hel k f h1
  have hlt : k < fs.size := (Array.getElem?_eq_some_iff.1 h1).1
  rw [h4, List.getElem?_eq_getElem (by omega)] at g
  obtain ⟨z, ez, wz⟩ := h5 _ _ _ g (i - f.offset) (by omega)
  refine ⟨z, ?_, wz⟩
  have k := take_drop ez
  rw [show f.offset + (i - f.offset) = i by omega] at k
  exact k
theorem open_flat {H : Type} {enc : TypeId × Value → H} {P : Program} {W : World} {b0 : Nat} {sp : Nat → Bool} {held : Bool} {r : Reach} {base : Nat} {t : TypeId} {fs : Array Field} {n : Nat} {v : Value} {d : DataW H} {ps : List MemPlace}
    (ht : P.underlying t = some (.struct fs)) (hct : P.cellsOf t = n) (hI : IntsT enc P W b0 sp held t n) (hok : Value.okWide P W r base t v) (h : DataW.Trod enc P W b0 sp held t v d ps) :
    ∃ f : Nat → Int, v = .agg (rowF (iv f) n) ∧ ∀ j, j < n → (Lit.int .i64 (f j)).wf = true := by
  obtain ⟨cs, rfl, hsz, _⟩ : ∃ cs, v = .agg cs ∧ cs.size = P.cellsOf t ∧ Row.okWide P W r base t cs := by
    simpa [Value.okWide, ht] using hok
  obtain ⟨fuel, hf⟩ := h
  rw [hct] at hsz
  have k := hI _ _ _ hf
  refine ⟨fun j => intOf (cs.toList[j]?.getD undef), ?_, ?_⟩
  · congr 1
    apply Array.ext_getElem?
    intro i
    by_cases hi : i < n
    · obtain ⟨z, ez, _⟩ := k i hi
      have e2 : cs[i]? = some (.int .i64 z) := by simpa [Value.cells] using ez
      rw [rowF_at _ _ _ hi, e2]
      simp [iv, e2, intOf]
    · rw [rowF_none _ _ _ hi, Array.getElem?_eq_none (by omega)]
  · intro j hj
    obtain ⟨z, ez, wz⟩ := k j hj
    have e2 : cs[j]? = some (.int .i64 z) := by simpa [Value.cells] using ez
    show (Lit.int .i64 (intOf (cs.toList[j]?.getD undef))).wf = true
    simp [e2, intOf]
    exact wz
theorem wave_ints {H : Type} {enc : TypeId × Value → H} {W : World} {b0 : Nat} {sp : Nat → Bool} {held : Bool} : IntsT enc Tryd.prog W b0 sp held 22 32 := ints_array (n := 32) (m := 1) Tryd.underlying22 (by kernel_rfl) (by decide) (ints_one_cell Tryd.underlying3)
theorem chan_ints {H : Type} {enc : TypeId × Value → H} {W : World} {b0 : Nat} {sp : Nat → Bool} {held : Bool} : IntsT enc Tryd.prog W b0 sp held 24 40 := by
  refine ints_struct Tryd.underlying24 fun i hi => ?_
  rcases (show i = 0 ∨ i = 1 ∨ i = 2 ∨ i = 3 ∨ (4 ≤ i ∧ i < 36) ∨ i = 36 ∨ i = 37 ∨ i = 38 ∨ i = 39 by omega) with rfl | rfl | rfl | rfl | h | rfl | rfl | rfl | rfl
  · exact ⟨0, _, 1, rfl, by decide, by decide, by kernel_rfl, ints_one_cell Tryd.underlying3⟩
  · exact ⟨1, _, 1, rfl, by decide, by decide, by kernel_rfl, ints_one_cell Tryd.underlying3⟩
  · exact ⟨2, _, 1, rfl, by decide, by decide, by kernel_rfl, ints_one_cell Tryd.underlying3⟩
  · exact ⟨3, _, 1, rfl, by decide, by decide, by kernel_rfl, ints_one_cell Tryd.underlying3⟩
  · exact ⟨4, _, 32, rfl, h.1, h.2, by kernel_rfl, wave_ints⟩
  · exact ⟨5, _, 1, rfl, by decide, by decide, by kernel_rfl, ints_one_cell Tryd.underlying3⟩
  · exact ⟨6, _, 1, rfl, by decide, by decide, by kernel_rfl, ints_one_cell Tryd.underlying3⟩
  · exact ⟨7, _, 1, rfl, by decide, by decide, by kernel_rfl, ints_one_cell Tryd.underlying3⟩
  · exact ⟨8, _, 1, rfl, by decide, by decide, by kernel_rfl, ints_one_cell Tryd.underlying3⟩
theorem psg_ints {H : Type} {enc : TypeId × Value → H} {W : World} {b0 : Nat} {sp : Nat → Bool} {held : Bool} : IntsT enc Tryd.prog W b0 sp held 27 244 := by
  refine ints_struct Tryd.underlying27 fun i hi => ?_
  rcases (show i = 0 ∨ i = 1 ∨ i = 2 ∨ i = 3 ∨ 4 ≤ i by omega) with rfl | rfl | rfl | rfl | h
  · exact ⟨0, _, 1, rfl, by decide, by decide, by kernel_rfl, ints_one_cell Tryd.underlying3⟩
  · exact ⟨1, _, 1, rfl, by decide, by decide, by kernel_rfl, ints_one_cell Tryd.underlying3⟩
  · exact ⟨2, _, 1, rfl, by decide, by decide, by kernel_rfl, ints_one_cell Tryd.underlying3⟩
  · exact ⟨3, _, 1, rfl, by decide, by decide, by kernel_rfl, ints_one_cell Tryd.underlying3⟩
  · exact ⟨4, _, 240, rfl, h, hi, by kernel_rfl, ints_array (n := 6) (m := 40) Tryd.underlying25 (by kernel_rfl) (by decide) chan_ints⟩
end Go.Proofs.YtcpilhbinkamiaaDoor
