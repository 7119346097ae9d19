/- The two blocks that a law's parameters are boxed in. No word of the program is in it but its types. -/
import Derived.Test.YtnlohhgogdiheaaDoorNamed
import Derived.Test.YtnlohhgogdiheaaDoorWant
namespace Go.Proofs.YtnlohhgogdiheaaDoor
open Go.RowKit
set_option linter.unusedVariables false
/-- Block b holds two numbers. -/
def Has2 (w : World) (b : Nat) (x y : Int) : Prop := w.heap[b]? = some (.cells #[.int .i64 x, .int .i64 y] 32 (0, 0))
theorem Has2.next {w w' : World} {b : Nat} {x y : Int} (h : Has2 w b x y) (k : Below w.heap.size w w') : Has2 w' b x y := (k.block b (lt_of_block h)).trans h
theorem Has2.c0 {w : World} {b : Nat} {x y : Int} (h : Has2 w b x y) : w.cell? ⟨b, 0, none⟩ = some (.int .i64 x) := (cell_of_row w b 0 _ _ _ h).trans rfl
theorem Has2.c1 {w : World} {b : Nat} {x y : Int} (h : Has2 w b x y) : w.cell? ⟨b, 1, none⟩ = some (.int .i64 y) := (cell_of_row w b 1 _ _ _ h).trans rfl
theorem Has2.lt {w : World} {b : Nat} {x y : Int} (h : Has2 w b x y) : b < w.heap.size := lt_of_block h
theorem two_list (l : List Int) (h : l.length = 2) : ∃ a b, l = [a, b] := by
  match l, h with
  | [a, b], _ => exact ⟨a, b, rfl⟩
end Go.Proofs.YtnlohhgogdiheaaDoor
