/- Worlds under names of their own. No word of the program is in it. -/
import Derived.Test.YtbkecffdejafcaaDoorRets
import Derived.Test.YtbkecffdejafcaaDoorKept
import Derived.WalkMore
import Derived.Handy
namespace Go.Proofs.YtbkecffdejafcaaDoor
open Go.RowKit
set_option linter.unusedVariables false

theorem under_name {P : Program} {c : Code} {Q : Exit → Act → World → Prop} {a : Act} {w : World} (h : ∀ wa, wa = w → Code.wp P c Q a wa) : Code.wp P c Q a w := h w rfl
theorem under_calls {P : Program} {f : FuncId} {args : Array Value} {w : World} {Q : Ending → World → Prop} (h : ∀ u, u = w → Calls P f args u Q) : Calls P f args w Q := h w rfl
theorem under_list {P : Program} {ops : Array Oper} {Q : Exit → Act → World → Prop} {rest : List Oper} {a : Act} {w : World} (h : ∀ u, u = w → wpList P ops Q rest a u) : wpList P ops Q rest a w := h w rfl
theorem under_then {K : Act → World → Prop} {Q : Exit → Act → World → Prop} {e : Exit} {a : Act} {w : World} (h : ∀ wa, wa = w → Exit.then K Q e a wa) : Exit.then K Q e a w := h w rfl
theorem two_named {w wa : World} {o0 o1 : Obj} (h : wa = (w.alloc o0).alloc o1) :
    wa.heap[w.heap.size]? = some o0 ∧ wa.heap[w.heap.size + 1]? = some o1 ∧ w.heap.size + 1 < wa.heap.size ∧ Below w.heap.size w wa := by
  have e : wa.heap = (w.heap.push o0).push o1 := by rw [h]; rfl
  refine ⟨?_, ?_, ?_, ?_⟩
  · rw [e, Array.getElem?_push, if_neg (by simp), Array.getElem?_push, if_pos rfl]
  · rw [e, Array.getElem?_push, if_pos (by simp)]
  · rw [e]; simp
  · rw [h]
    exact ((Below.refl _ w).alloc (Nat.le_refl _) _).alloc (by simp) _
end Go.Proofs.YtbkecffdejafcaaDoor
