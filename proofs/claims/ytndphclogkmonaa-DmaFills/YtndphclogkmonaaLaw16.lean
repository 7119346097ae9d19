/- What the laws of layer 16 lean on: masks, '==' of two ends, a block that holds them. -/
import Derived.Test.YtndphclogkmonaaDma16
import Derived.Test.YtndphclogkmonaaArrayEq
import Derived.Deep.MidRow
import Derived.BigFrame
import Derived.WalkMore
import Derived.Handy
namespace Go.Proofs.Ytndphclogkmonaa
open Go.RowKit
set_option linter.unusedVariables false

theorem and_63 (n : Int) : bits .and .i64 n 63 = n % 64 := and_mask 6 (by decide) n
theorem eqE (x y : Int) (w : World) : (binOp .eql 29 (.agg #[.int .i64 x, .int .i64 y]) (.agg #[.int .i64 x, .int .i64 y])).run Try.prog w = .ok (.bool true) w :=
  (run_eql_ints w 29 3 2 Try.underlying29 Try.underlying3 Try.sizeOf3 [x, y] [x, y] rfl rfl).trans (by simp)
/-- Block b holds two ends. -/
def HasE (w : World) (b : Nat) (x y : Int) : Prop := w.heap[b]? = some (.cells #[.int .i64 x, .int .i64 y] 29 (0, 0))
theorem HasE.only {w w' : World} {b g : Nat} {x y : Int} (h : HasE w b x y) (o : Only g w w') (hb : b ≠ g) : HasE w' b x y := o.obj h hb
theorem HasE.next {w w' : World} {b : Nat} {x y : Int} (h : HasE w b x y) (k : Below w.heap.size w w') : HasE w' b x y := (k.block b (lt_of_block h)).trans h
theorem HasE.lt {w : World} {b : Nat} {x y : Int} (h : HasE w b x y) : b < w.heap.size := lt_of_block h
theorem farOf_0 (k : Int) : farOf 0 k = 1 := by unfold farOf bitOf; split <;> simp
theorem farOf_8_2 : farOf 8 2 = 1 := rfl
theorem farOf_8_3 : farOf 8 3 = -1 := rfl
theorem wordAt_zero (p : Int) : wordAt (fun _ => 0) p = 0 := by unfold wordAt; split <;> rfl
theorem under_then {K : Act → World → Prop} {Q : Exit → Act → World → Prop} {e : Exit} {a : Act} {w : World} (h : ∀ wa, wa = w → Exit.then K Q e a wa) : Exit.then K Q e a w := h w rfl
theorem wpList_load_want {P : Program} {ops : Array Oper} {rest : List Oper} {o : Oper} {a : Act} {w : World} {Q : Exit → Act → World → Prop} (hw : Region.wanted o (yielded ops a.tmps) = true) (ty : TypeId) (x : Operand) (ho : o.op = .load ty x)
    (g : Nat) (hx : a.eval x = .pointer (some ⟨g, 0, none⟩)) (t : TypeId) (cs : Array Value) (fr : Nat × Nat) (d : TypeDesc) (hg : w.heap[g]? = some (.cells cs t fr))
    (hu : P.underlying ty = some d) (hd : (match d with | .struct _ | .array _ _ => true | _ => false) = true) (hi : (P.info? ty).map (·.size) = some cs.size)
    (h : wpList P ops Q rest (a.put o.dst (.agg cs)) w) : wpList P ops Q (o :: rest) a w :=
  BigFrame.wpList_want hw fun _ hK => wp_load_row ty x ho g hx t cs fr d hg hu hd hi (hK _ _ h)
theorem under_calls {P : Program} {f : FuncId} {args : Array Value} {w : World} {Q : Ending → World → Prop} (h : ∀ u, u = w → Calls P f args u Q) : Calls P f args w Q := h w rfl
theorem under_list {P : Program} {ops : Array Oper} {Q : Exit → Act → World → Prop} {rest : List Oper} {a : Act} {w : World} (h : ∀ u, u = w → wpList P ops Q rest a u) : wpList P ops Q rest a w := h w rfl
end Go.Proofs.Ytndphclogkmonaa
