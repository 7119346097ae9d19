/- Two numbers in an array that came in, and a block that holds them: no word of the program is in it. -/
import Derived.Test.YtdnmamfglfhboaaDoorKit
namespace Go.Proofs.YtdnmamfglfhboaaDoor
open Go.RowKit
theorem two_of (l : List Int) (h : l.length = 2) : ∃ a b, l = [a, b] := by
  match l, h with
  | [a, b], _ => exact ⟨a, b, rfl⟩
theorem three_of (l : List Int) (h : l.length = 3) : ∃ a b c, l = [a, b, c] := by
  match l, h with
  | [a, b, c], _ => exact ⟨a, b, c, rfl⟩
/-- Block b holds two numbers. -/
def Has2 (w : World) (b : Nat) (x y : Int) : Prop :=
  b < w.heap.size ∧ w.cell? ⟨b, 0, none⟩ = some (.int .i64 x) ∧ w.cell? ⟨b, 1, none⟩ = some (.int .i64 y)
theorem Has2.next {w w' : World} {b : Nat} {x y : Int} (h : Has2 w b x y) (k : Below w.heap.size w w') : Has2 w' b x y := by
  obtain ⟨h0, h1, h2⟩ := h
  exact ⟨Nat.lt_of_lt_of_le h0 k.size, (k.cell (p := ⟨b, 0, none⟩) h0).trans h1, (k.cell (p := ⟨b, 1, none⟩) h0).trans h2⟩
end Go.Proofs.YtdnmamfglfhboaaDoor
