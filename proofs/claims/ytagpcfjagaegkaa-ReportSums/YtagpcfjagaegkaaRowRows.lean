/- A slice of slices of integers that came in, and a slice of pairs: their cells, and the form's own reach. No word of the program is in it but that its types are laid out. -/
import Derived.Test.YtagpcfjagaegkaaFields
import Derived.Test.YtagpcfjagaegkaaArrRows
import Derived.Test.YtagpcfjagaegkaaPic28
namespace Go.Proofs.Ytagpcfjagaegkaa
open Go.ChangeShapes Go.WideShapes Go.ChangeAt Go.RowKit
set_option linter.unusedVariables false
def IsLines (w : World) (a : Option Addr) (len cap : Nat) : Prop := ∃ L V, LinesAt w a len cap L V
def cellI (w : World) (p : Addr) : Int := match w.cell? p with | some v => intOf v | none => 0
theorem cellI_is {w : World} {p : Addr} {k : IntKind} {z : Int} (h : w.cell? p = some (.int k z)) : cellI w p = z := by unfold cellI; rw [h]; rfl
theorem mem_all {H : Type} {P : Program} {e : TypeId} : ∀ {ds : List (DataW H)} {d : DataW H}, d ∈ ds → ∀ n ∈ d.weights P e, n ∈ DataW.weightsAll P e ds
  | [], d, h, n, hn => by cases h
  | x :: r, d, h, n, hn => by
    simp only [DataW.weightsAll, List.mem_append]
    rcases List.mem_cons.1 h with rfl | h
    · exact .inl hn
    · exact .inr (mem_all h n hn)
def partsOf : Value → Option Addr × Nat × Nat
  | .slice a l c => (a, l, c)
  | _ => (none, 0, 0)
def numAt (W : World) (v : Value) (j : Nat) : Int := match (partsOf v).1 with
  | some y => cellI W ⟨y.block, y.off + j, none⟩
  | none => 0
theorem open_lines {H : Type} {enc : TypeId × Value → H} {P : Program} {W : World} {b0 : Nat} {held : Bool} {t e ek : TypeId} {a : Option Addr} {len cap : Nat} {d : DataW H} {ps : List MemPlace}
    (ht : P.underlying t = some (.slice e)) (he : P.underlying e = some (.slice ek)) (ce : P.cellsOf e = 1) (be : P.bytesOf e = 24) (hk : P.underlying ek = some (.int .i64)) (ck : P.cellsOf ek = 1) (bk : P.bytesOf ek = 8)
    (h : DataW.Trod enc P W b0 (fun _ => true) held t (.slice a len cap) d ps) (hn : ∀ m ∈ d.weights P t, m ≤ reachBytes) : IsLines W a len cap := by
  obtain ⟨fuel, h⟩ := h
  have h : DataW.trod enc P W b0 (fun _ => true) held fuel t [.slice a len cap] = some (d, ps) := by simpa [Value.cells] using h
  have hcap := slice_reach (k := 24) ht be h hn
  rcases Deep.open_slice1 ht ce h with ⟨hcs, _⟩ | ⟨x, l, c, m, q, U, D, Pl, hcs, _, hl, hm, hmm, hd, hx⟩
  · simp at hcs
    obtain ⟨rfl, rfl, rfl⟩ := hcs
    exact ⟨fun _ => (none, 0, 0), fun _ _ => 0, by omega, .inl rfl⟩
  · simp at hcs
    obtain ⟨rfl, rfl, rfl⟩ := hcs
    refine ⟨fun i => partsOf (U i), fun i j => numAt W (U i) j, by omega, ?_⟩
    rcases Nat.eq_zero_or_pos len with h0 | h0
    · exact .inl h0
    · have hlm : ∀ i, i < len → i < m := fun i hi => by rw [hmm]; simp; omega
      obtain ⟨v0, _⟩ := hx 0 (hlm 0 h0)
      have e0 : x.add 0 = x := rfl
      rw [e0] at v0
      have hs := World.cell?_spot v0
      obtain ⟨b, off, sp⟩ := x
      simp only at hs
      subst hs
      refine .inr ⟨b, off, rfl, block_lt_of_cell v0, fun i hi => ?_⟩
      obtain ⟨c1, t1⟩ := hx i (hlm i hi)
      obtain ⟨a', l', c', zs, hU, hr⟩ := open_field_ints he hk ck t1
      obtain rfl := (Prod.mk.inj hd).1
      have hw : ∀ n ∈ (D i).weights P e, n ≤ reachBytes := fun n hn' => hn n (by
        simp only [DataW.weights, ht, List.mem_cons, List.mem_append]
        exact .inr (.inl (mem_all (List.mem_map.2 ⟨i, List.mem_range.2 hi, rfl⟩) n hn')))
      have hU' : U i = .slice a' l' c' := by simpa using hU
      rw [hU] at t1
      have hcap' := slice_reach (k := 8) he bk t1 hw
      have eP : partsOf (U i) = (a', l', c') := by rw [hU']; rfl
      have hlc : l' ≤ c' := by
        rcases hr with ⟨rfl, rfl, rfl, rfl⟩ | ⟨y, rfl, h1, h2, h3, h4, h5⟩
        · exact Nat.le_refl _
        · exact h1
      show W.cell? _ = some (Value.slice (partsOf (U i)).1 (partsOf (U i)).2.1 (partsOf (U i)).2.2) ∧ (partsOf (U i)).2.1 ≤ 140737488355328 ∧ NumsAt W (partsOf (U i)).1 (partsOf (U i)).2.1 (numAt W (U i))
      rw [eP]
      refine ⟨?_, by show l' ≤ _; omega, ?_⟩
      · rw [← hU', ← c1, Addr.add_lit]
      · rcases Nat.eq_zero_or_pos l' with h3 | h3
        · exact .inl h3
        · obtain ⟨bb, oo, rfl, hb, _, _, hc⟩ := hr.cells h3
          refine .inr ⟨bb, oo, rfl, hb, fun j hj => ?_⟩
          obtain ⟨q1, q2⟩ := hc j hj
          have e : numAt W (U i) j = zs.getD j 0 := by rw [hU']; exact cellI_is q1
          rw [e]
          exact ⟨q1, q2⟩
theorem sides_of {W : World} {a : Option Addr} {len cap : Nat} (h : IsArrs .i64 2 W a len cap) (hc : cap * 16 ≤ 140737488351232) : ∃ S, SidesAt W a len cap S := by
  rcases Nat.eq_zero_or_pos len with h0 | h0
  · exact ⟨fun _ _ => 0, by omega, .inl h0⟩
  · obtain ⟨b, o, rfl, hb, h1, _, h3⟩ := h.cells h0 (by omega)
    refine ⟨fun i j => cellI W ⟨b, o + (i * 2 + j), none⟩, by omega, .inr ⟨b, o, rfl, hb, fun i hi j hj => ?_⟩⟩
    obtain ⟨z, wz, cz⟩ := h3 i hi j hj
    show _ = some (Value.int .i64 (cellI W _)) ∧ (Lit.int .i64 (cellI W _)).wf = true
    rw [cellI_is cz]
    exact ⟨cz, wz⟩
end Go.Proofs.Ytagpcfjagaegkaa
