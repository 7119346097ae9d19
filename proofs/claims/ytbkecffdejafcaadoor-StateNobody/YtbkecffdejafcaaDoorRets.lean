/- Returns of structs and arrays by value, and boxed numbers: no word of the program is in it. -/
import Derived.Test.YtbkecffdejafcaaDoorKit
import Derived.Laws.ResultCell
import Derived.Laws.Rows
import Derived.Laws.Tables
import Derived.Laws.CopyOwn
import Derived.OneCell
import Derived.Below
namespace Go.Proofs.YtbkecffdejafcaaDoor
open Go.RowKit
theorem results_agg_tmp {P : Program} {fn : Func} {p u : Tmp} {ty : TypeId} (h : fn.results = #[.cell p ty, .tmp u]) (tmps : Array Value) (w : World) (g : Nat) (t : TypeId) (cs : Array Value) (fr : Nat × Nat) (d : TypeDesc)
    (hp : tmps.getD p undef = .pointer (some ⟨g, 0, none⟩)) (hg : w.heap[g]? = some (.cells cs t fr))
    (hu : P.underlying ty = some d) (hd : (match d with | .struct _ | .array _ _ => true | _ => false) = true) (hi : (P.info? ty).map (·.size) = some cs.size) :
    (results fn tmps).run P w = .ok (.tuple #[.agg cs, tmps.getD u undef]) w := by
  rw [results_cell_tmp h, hp]
  simp [asAddr, Result.andThen, run_loadVar_row w g t ty cs fr d hg hu hd hi]
/-- Block b holds a boxed number (its type's number is t). -/
def Box (t : TypeId) (w : World) (b : Nat) (v : Int) : Prop := w.heap[b]? = some (.cells #[.int .i64 v] t (0, 0))
theorem Box.cell {t : TypeId} {w : World} {b : Nat} {v : Int} (h : Box t w b v) : w.cell? ⟨b, 0, none⟩ = some (.int .i64 v) := cell_of_one h
theorem Box.below {B : Nat} {t : TypeId} {w w' : World} {b : Nat} {v : Int} (h : Box t w b v) (k : Below B w w') (hb : b < B) : Box t w' b v := (k.block b hb).trans h
theorem Box.lt {t : TypeId} {w : World} {b : Nat} {v : Int} (h : Box t w b v) : b < w.heap.size := lt_of_block h
theorem Box.next {t : TypeId} {w w' : World} {b : Nat} {v : Int} (h : Box t w b v) (k : Below w.heap.size w w') : Box t w' b v := h.below k h.lt
end Go.Proofs.YtbkecffdejafcaaDoor
