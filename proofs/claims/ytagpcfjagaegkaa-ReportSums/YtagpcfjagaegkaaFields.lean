/- Slices among the fields of a struct that came in: of integers, of bools, of structs. No word of the program is in it but that its types are laid out. -/
import Derived.Test.YtagpcfjagaegkaaStructRows
import Derived.SizedLaws
namespace Go.Proofs.Ytagpcfjagaegkaa
open Go.ChangeShapes Go.WideShapes Go.ChangeAt Go.RowKit
set_option linter.unusedVariables false

theorem open_field_ints {H : Type} {enc : TypeId × Value → H} {P : Program} {W : World} {b0 n : Nat} {held : Bool} {t e : TypeId} {k : IntKind} {cs : List Value} {y : DataW H × List MemPlace}
    (ht : P.underlying t = some (.slice e)) (he : P.underlying e = some (.int k)) (hc : P.cellsOf e = 1) (h : DataW.trod enc P W b0 (fun _ => true) held n t cs = some y) : ∃ a len cap zs, cs = [.slice a len cap] ∧ IsRow k W a len cap zs := by
  rcases open_ints ht he hc h with ⟨hcs, _⟩ | ⟨x, l, c, zs, hcs, _, hl, hm, hz, _, hcell, hwz⟩
  · exact ⟨none, 0, 0, [], hcs, .inl ⟨rfl, rfl, rfl, rfl⟩⟩
  · exact ⟨some x, l, c, zs, hcs, .inr ⟨x, rfl, hl, hm, by simpa using hz, hcell, hwz⟩⟩
theorem open_field_structs {H : Type} {enc : TypeId × Value → H} {P : Program} {W : World} {b0 n : Nat} {sp : Nat → Bool} {held : Bool} {t e : TypeId} {fs : Array Field} {ks : List (Option IntKind)} {cs : List Value} {y : DataW H × List MemPlace}
    (ht : P.underlying t = some (.slice e)) (he : P.underlying e = some (.struct fs)) (ce : P.cellsOf e = ks.length)
    (hf : ∀ (j : Nat) (k : Option IntKind), ks[j]? = some k → ∃ f : Field, fs[j]? = some f ∧ f.offset = j ∧ P.cellsOf f.type = 1 ∧ P.underlying f.type = some (match k with | some i => .int i | none => .bool))
    (h : DataW.trod enc P W b0 sp held n t cs = some y) : ∃ a len cap, cs = [.slice a len cap] ∧ IsStructs ks W a len cap := by
  obtain ⟨d, ps⟩ := y
  rcases Deep.open_slice ht h with ⟨hcs, _⟩ | ⟨x, l, c, m, q, D, Pl, hcs, _⟩
  · subst hcs
    exact ⟨none, 0, 0, rfl, open_structs ht he ce hf ⟨n, by simpa [Value.cells] using h⟩⟩
  · subst hcs
    exact ⟨some x, l, c, rfl, open_structs ht he ce hf ⟨n, by simpa [Value.cells] using h⟩⟩
/-- A slice of bools, by their places. -/
def IsFlags (w : World) (a : Option Addr) (len cap : Nat) (z : Nat → Bool) : Prop := len ≤ cap ∧ cap ≤ maxLen ∧ ∀ i, i < len → ∃ b off, a = some ⟨b, off, none⟩ ∧ b < w.heap.size ∧ w.cell? ⟨b, off + i, none⟩ = some (.bool (z i))
theorem IsFlags.next {w w' : World} {a : Option Addr} {len cap : Nat} {z : Nat → Bool} (h : IsFlags w a len cap z) (k : Below w.heap.size w w') : IsFlags w' a len cap z :=
  ⟨h.1, h.2.1, fun i hi => by
    obtain ⟨b, off, e, hb, c⟩ := h.2.2 i hi
    exact ⟨b, off, e, Nat.lt_of_lt_of_le hb k.size, (k.cell (p := ⟨b, off + i, none⟩) hb).trans c⟩⟩
theorem open_field_bools {H : Type} {enc : TypeId × Value → H} {P : Program} {W : World} {b0 n : Nat} {sp : Nat → Bool} {held : Bool} {t e : TypeId} {cs : List Value} {y : DataW H × List MemPlace}
    (ht : P.underlying t = some (.slice e)) (he : P.underlying e = some .bool) (ce : P.cellsOf e = 1) (h : DataW.trod enc P W b0 sp held n t cs = some y) : ∃ a len cap z, cs = [.slice a len cap] ∧ IsFlags W a len cap z := by
  rcases Deep.open_slice ht h with ⟨hcs, _⟩ | ⟨x, l, c, m, q, D, Pl, hcs, _, hl, hm, hmm, _, hx⟩
  · exact ⟨none, 0, 0, fun _ => false, hcs, Nat.le_refl _, Nat.zero_le _, fun i hi => absurd hi (Nat.not_lt_zero _)⟩
  · refine ⟨some x, l, c, fun i => match W.cell? (x.add i) with | some (.bool v) => v | _ => false, hcs, hl, hm, fun i hi => ?_⟩
    have each : ∀ i, i < l → ∃ v, W.cell? (x.add i) = some (.bool v) := by
      intro i hi
      have hlm : i < m := by rw [hmm]; split <;> omega
      obtain ⟨cs', h1, h2⟩ := hx i hlm
      obtain ⟨v, rfl, _⟩ := DataW.trod_bool he h2
      rw [ce, Nat.mul_one] at h1
      exact ⟨v, cell_of_cells?_one h1⟩
    obtain ⟨v0, c0⟩ := each 0 (by omega)
    have e0 : x.add 0 = x := rfl
    rw [e0] at c0
    have hs := World.cell?_spot c0
    obtain ⟨v, cv⟩ := each i hi
    refine ⟨x.block, x.off, by obtain ⟨b, off, sp⟩ := x; simp only at hs; subst hs; rfl, cell_lt c0, ?_⟩
    simp only [cv]
    rw [← cv]
    congr 1
    obtain ⟨b, off, sp⟩ := x
    simp only at hs
    subst hs
    unfold Addr.add
    split <;> simp_all
/-- What the form says of a slice's bytes. -/
theorem slice_reach {H : Type} {enc : TypeId × Value → H} {P : Program} {W : World} {b0 n len cap k : Nat} {held : Bool} {t e : TypeId} {a : Option Addr} {y : DataW H × List MemPlace}
    (ht : P.underlying t = some (.slice e)) (hb : P.bytesOf e = k) (h : DataW.trod enc P W b0 (fun _ => true) held n t [.slice a len cap] = some y) (hn : ∀ m ∈ y.1.weights P t, m ≤ reachBytes) : cap * k ≤ 140737488351232 := by
  subst hb
  rcases Deep.open_slice ht h with ⟨hcs, _⟩ | ⟨x, l, c, m, q, D, Pl, hcs, _, hl, hm, hmm, hd, _⟩
  · simp at hcs
    rw [hcs.2.2]
    simp
  · simp at hcs
    obtain ⟨rfl, rfl, rfl⟩ := hcs
    rw [hd] at hn
    have k := hn ((len + (m - len)) * P.bytesOf e) (by simp [DataW.weights, ht])
    rw [show len + (m - len) = cap by rw [hmm]; simp; omega] at k
    exact k
theorem each_reach {H : Type} {P : Program} {ts : List TypeId} {ds : List (DataW H)} {j : Nat} {t : TypeId} {d : DataW H} (h : (DataW.weightsEach P ts ds).all (· ≤ reachBytes) = true) (ht : ts[j]? = some t) (hd : ds[j]? = some d) : ∀ m ∈ d.weights P t, m ≤ reachBytes := fun m hm => by
  simpa using List.all_eq_true.1 h _ (DataW.weights_mem_each ht hd m hm)
theorem part_reach {H : Type} {P : Program} {t : TypeId} {fs : Array Field} {parts : List (DataW H)} {j : Nat} {f : Field} {d : DataW H} (ht : P.underlying t = some (.struct fs)) (hn : ∀ m ∈ (DataW.agg parts).weights P t, m ≤ reachBytes) (hf : fs[j]? = some f) (hd : parts[j]? = some d) : ∀ m ∈ d.weights P f.type, m ≤ reachBytes := fun m hm => by
  refine hn m ?_
  simp only [DataW.weights, ht]
  exact DataW.weights_mem_each (ts := fs.toList.map (·.type)) (j := j) (by simp [hf]) hd m hm
theorem open_struct_parts {H : Type} {enc : TypeId × Value → H} {P : Program} {W : World} {r : Reach} {base b0 : Nat} {sp : Nat → Bool} {held : Bool} {t : TypeId} {fs : Array Field} {n : Nat} {v : Value} {d : DataW H} {ps : List MemPlace}
    (ht : P.underlying t = some (.struct fs)) (hct : P.cellsOf t = n) (hok : Value.okWide P W r base t v) (h : DataW.Trod enc P W b0 sp held t v d ps) :
    ∃ (cs : Array Value) (fuel : Nat) (parts : List (DataW H)), v = .agg cs ∧ cs.size = n ∧ d = .agg parts ∧ ∀ (i : Nat) (f : Field), fs[i]? = some f → ∃ y, DataW.trod enc P W b0 sp held fuel f.type ((cs.toList.drop f.offset).take (P.cellsOf f.type)) = some y ∧ parts[i]? = some y.1 := by
  obtain ⟨cs, rfl, hsz, _⟩ : ∃ cs, v = .agg cs ∧ cs.size = P.cellsOf t ∧ Row.okWide P W r base t cs := by
    simpa [Value.okWide, ht] using hok
  obtain ⟨fuel, hf⟩ := h
  obtain ⟨xs, m, _, ex, _, hl, hel⟩ := DataW.trod_struct ht hf
  refine ⟨cs, m, xs.map (·.1), rfl, hsz.trans hct, (Prod.mk.inj ex).1, fun i f hi => ?_⟩
  have g := hel i f hi
  have hlt : i < fs.size := (Array.getElem?_eq_some_iff.1 hi).1
  rw [List.getElem?_eq_getElem (by omega)] at g
  exact ⟨_, g, by simp [List.getElem?_eq_getElem (show i < xs.length by omega)]⟩
end Go.Proofs.Ytagpcfjagaegkaa
