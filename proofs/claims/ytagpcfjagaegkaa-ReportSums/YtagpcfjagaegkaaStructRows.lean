/- A slice of structs that came in, their fields one cell each (integers, bools): its cells. No word of the program is in it but that its types are laid out. -/
import Derived.Test.YtagpcfjagaegkaaArrays
import Derived.Test.YtagpcfjagaegkaaStructs
import Derived.Test.YtagpcfjagaegkaaRowkit
import Derived.Deep.Slices
import Derived.ChangeArms
namespace Go.Proofs.Ytagpcfjagaegkaa
open Go.ChangeShapes Go.WideShapes Go.ChangeAt Go.RowKit

/-- What a field of one cell holds: an integer of that kind, or a bool. -/
def FieldOk : Option IntKind → Value → Prop
  | some k, v => ∃ z, v = .int k z ∧ (Lit.int k z).wf = true
  | none, v => ∃ b, v = .bool b
/-- A slice of structs: nil, or a row whose elements' cells hold such fields. -/
def IsStructs (ks : List (Option IntKind)) (w : World) (a : Option Addr) (len cap : Nat) : Prop :=
  (a = none ∧ len = 0 ∧ cap = 0) ∨ ∃ x, a = some x ∧ len ≤ cap ∧ cap ≤ maxLen ∧ ∀ i, i < len → ∀ j k, ks[j]? = some k → ∃ v, FieldOk k v ∧ w.cell? (x.add (i * ks.length + j)) = some v
theorem IsStructs.max {ks : List (Option IntKind)} {w : World} {a : Option Addr} {len cap : Nat} (h : IsStructs ks w a len cap) : len ≤ maxLen := by
  rcases h with ⟨_, rfl, _⟩ | ⟨x, _, h1, h2, _⟩
  · exact Nat.zero_le _
  · omega
/-- The cells of a row with an element. -/
theorem IsStructs.cells {k0 : Option IntKind} {ks : List (Option IntKind)} {w : World} {a : Option Addr} {len cap : Nat} (h : IsStructs (k0 :: ks) w a len cap) (hl : 0 < len) :
    ∃ b off, a = some ⟨b, off, none⟩ ∧ b < w.heap.size ∧ len ≤ cap ∧ cap ≤ maxLen ∧ ∀ i, i < len → ∀ j k, (k0 :: ks)[j]? = some k → ∃ v, FieldOk k v ∧ w.cell? ⟨b, off + (i * (k0 :: ks).length + j), none⟩ = some v := by
  rcases h with ⟨rfl, rfl, rfl⟩ | ⟨x, rfl, h1, h2, h3⟩
  · omega
  · obtain ⟨v, _, c0⟩ := h3 0 hl 0 k0 rfl
    have e0 : x.add (0 * (k0 :: ks).length + 0) = x := by rw [Nat.zero_mul]; rfl
    rw [e0] at c0
    have hs := World.cell?_spot c0
    obtain ⟨b, off, sp⟩ := x
    simp only at hs
    subst hs
    refine ⟨b, off, rfl, cell_lt c0, h1, h2, fun i hi j k hk => ?_⟩
    obtain ⟨v, fv, cv⟩ := h3 i hi j k hk
    refine ⟨v, fv, ?_⟩
    rw [← cv]
    congr 1
    unfold Addr.add
    split <;> simp_all
theorem field_ok {H : Type} {enc : TypeId × Value → H} {P : Program} {W : World} {b0 : Nat} {sp : Nat → Bool} {held : Bool} {n : Nat} {t : TypeId} {cs : List Value} {y : DataW H × List MemPlace} {k : Option IntKind}
    (hk : P.underlying t = some (match k with | some i => .int i | none => .bool)) (h : DataW.trod enc P W b0 sp held n t cs = some y) : ∃ v, cs = [v] ∧ FieldOk k v := by
  cases k with
  | some i =>
    obtain ⟨z, e, _, wz⟩ := DataW.trod_int hk h
    exact ⟨_, e, z, rfl, wz⟩
  | none =>
    obtain ⟨b, e, _⟩ := DataW.trod_bool hk h
    exact ⟨_, e, b, rfl⟩
theorem open_structs {H : Type} {enc : TypeId × Value → H} {P : Program} {W : World} {b0 : Nat} {sp : Nat → Bool} {held : Bool} {t e : TypeId} {fs : Array Field} {ks : List (Option IntKind)} {a : Option Addr} {len cap : Nat} {d : DataW H} {ps : List MemPlace}
    (ht : P.underlying t = some (.slice e)) (he : P.underlying e = some (.struct fs)) (ce : P.cellsOf e = ks.length)
    (hf : ∀ (j : Nat) (k : Option IntKind), ks[j]? = some k → ∃ f : Field, fs[j]? = some f ∧ f.offset = j ∧ P.cellsOf f.type = 1 ∧ P.underlying f.type = some (match k with | some i => .int i | none => .bool))
    (h : DataW.Trod enc P W b0 sp held t (.slice a len cap) d ps) : IsStructs ks W a len cap := by
  obtain ⟨fuel, h⟩ := h
  rcases Deep.open_slice ht h with ⟨hcs, _⟩ | ⟨x, l, c, m, n, D, Pl, hcs, _, hl, hm, hmm, _, hx⟩
  · simp [Value.cells] at hcs
    exact .inl hcs
  · simp [Value.cells] at hcs
    obtain ⟨rfl, rfl, rfl⟩ := hcs
    refine .inr ⟨x, rfl, hl, hm, fun i hi j k hk => ?_⟩
    have hlm : i < m := by rw [hmm]; split <;> omega
    obtain ⟨cs', h1, h2⟩ := hx i hlm
    obtain ⟨_, hlen, hcell⟩ := World.cells?_some h1
    obtain ⟨xs, q, _, _, _, hxl, hel⟩ := DataW.trod_struct he h2
    obtain ⟨f, hfj, ho, hc1, hu⟩ := hf j k hk
    have g := hel j f hfj
    have hjl : j < ks.length := (List.getElem?_eq_some_iff.1 hk).1
    have hjs : j < fs.size := (Array.getElem?_eq_some_iff.1 hfj).1
    rw [List.getElem?_eq_getElem (by omega)] at g
    obtain ⟨v, e1, fv⟩ := field_ok hu g
    refine ⟨v, fv, ?_⟩
    have hj2 : j < cs'.length := by rw [hlen, ce]; exact hjl
    rw [ho, hc1, List.drop_eq_getElem_cons hj2] at e1
    have e2 : cs'[j] = v := (List.cons.inj e1).1
    have c := hcell j (by omega)
    rw [Deep.add_add, ce] at c
    rw [c, ← e2]
    simp [hj2]
end Go.Proofs.Ytagpcfjagaegkaa
