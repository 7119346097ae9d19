/- A slice of arrays of integers that came in: its cells. No word of the program is in it but that its types are laid out. -/
import Derived.Test.YthelklkfcllddaaGreatDoorTopCardsJ28
import Derived.Deep.Slices
import Derived.ChangeArms
namespace Go.Proofs.YthelklkfcllddaaGreatDoor
set_option maxRecDepth 20000
open R15
open Go.ChangeShapes Go.WideShapes Go.ChangeAt Go.RowKit
def IsArrs (k : IntKind) (n : Nat) (w : World) (a : Option Addr) (len cap : Nat) : Prop :=
  (a = none ∧ len = 0 ∧ cap = 0) ∨ ∃ x, a = some x ∧ len ≤ cap ∧ cap ≤ maxLen ∧ ∀ i, i < len → ∀ j, j < n → ∃ z, (Lit.int k z).wf = true ∧ w.cell? (x.add (i * n + j)) = some (.int k z)
theorem IsArrs.max {k : IntKind} {n : Nat} {w : World} {a : Option Addr} {len cap : Nat} (h : IsArrs k n w a len cap) : len ≤ maxLen := by
  rcases h with ⟨_, rfl, _⟩ | ⟨x, _, h1, h2, _⟩
  · exact Nat.zero_le _
  · omega
theorem IsArrs.cells {k : IntKind} {n : Nat} {w : World} {a : Option Addr} {len cap : Nat} (h : IsArrs k n w a len cap) (hl : 0 < len) (hn : 0 < n) :
    ∃ b off, a = some ⟨b, off, none⟩ ∧ b < w.heap.size ∧ len ≤ cap ∧ cap ≤ maxLen ∧ ∀ i, i < len → ∀ j, j < n → ∃ z, (Lit.int k z).wf = true ∧ w.cell? ⟨b, off + (i * n + j), none⟩ = some (.int k z) := by
  rcases h with ⟨rfl, rfl, rfl⟩ | ⟨x, rfl, h1, h2, h3⟩
  · omega
  · obtain ⟨z, _, c0⟩ := h3 0 hl 0 hn
    have e0 : x.add (0 * n + 0) = x := by rw [Nat.zero_mul]; rfl
    rw [e0] at c0
    have hs := World.cell?_spot c0
    obtain ⟨b, off, sp⟩ := x
    simp only at hs
    subst hs
    refine ⟨b, off, rfl, block_lt_of_cell c0, h1, h2, fun i hi j hj => ?_⟩
    obtain ⟨v, fv, cv⟩ := h3 i hi j hj
    refine ⟨v, fv, ?_⟩
    rw [← cv]
    congr 1
    unfold Addr.add
    split <;> simp_all
theorem open_arrays {H : Type} {enc : TypeId × Value → H} {P : Program} {W : World} {b0 : Nat} {sp : Nat → Bool} {held : Bool} {t e ek : TypeId} {k : IntKind} {n : Nat} {a : Option Addr} {len cap : Nat} {d : DataW H} {ps : List MemPlace}
    (ht : P.underlying t = some (.slice e)) (he : P.underlying e = some (.array n ek)) (ce : P.cellsOf e = n) (hk : P.underlying ek = some (.int k)) (ck : P.cellsOf ek = 1)
    (h : DataW.Trod enc P W b0 sp held t (.slice a len cap) d ps) : IsArrs k n W a len cap := by
  obtain ⟨fuel, h⟩ := h
  rcases Deep.open_slice ht h with ⟨hcs, _⟩ | ⟨x, l, c, m, q, D, Pl, hcs, _, hl, hm, hmm, _, hx⟩
  · simp [Value.cells] at hcs
    exact .inl hcs
  · simp [Value.cells] at hcs
    obtain ⟨rfl, rfl, rfl⟩ := hcs
    refine .inr ⟨x, rfl, hl, hm, fun i hi j hj => ?_⟩
    have hlm : i < m := by rw [hmm]; split <;> omega
    obtain ⟨cs', h1, h2⟩ := hx i hlm
    obtain ⟨_, hlen, hcell⟩ := World.cells?_some h1
    obtain ⟨z, ez, wz⟩ := trod_ints he hk ck h2 j hj
    refine ⟨z, wz, ?_⟩
    have hj2 : j < cs'.length := by rw [hlen, ce]; exact hj
    have c := hcell j (by omega)
    rw [Deep.add_add, ce] at c
    rw [c, ← ez]
end Go.Proofs.YthelklkfcllddaaGreatDoor
