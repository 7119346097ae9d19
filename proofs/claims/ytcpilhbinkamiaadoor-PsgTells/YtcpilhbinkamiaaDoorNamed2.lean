/- Three and four new blocks under names. No word of the program is in it. -/
import Derived.Test.YtcpilhbinkamiaaDoorNamed
namespace Go.Proofs.YtcpilhbinkamiaaDoor
open Go.RowKit
set_option linter.unusedVariables false
theorem three_named {w wa : World} {o0 o1 o2 : Obj} (h : wa = ((w.alloc o0).alloc o1).alloc o2) :
    wa.heap[w.heap.size]? = some o0 ∧ wa.heap[w.heap.size + 1]? = some o1 ∧ wa.heap[w.heap.size + 2]? = some o2 ∧ wa.heap.size = w.heap.size + 3 ∧ Below w.heap.size w wa := by
  have e : wa.heap = ((w.heap.push o0).push o1).push o2 := by rw [h]; rfl
  refine ⟨?_, ?_, ?_, ?_, ?_⟩
  · rw [e, Array.getElem?_push, if_neg (by simp; omega), Array.getElem?_push, if_neg (by simp), Array.getElem?_push, if_pos rfl]
  · rw [e, Array.getElem?_push, if_neg (by simp), Array.getElem?_push, if_pos (by simp)]
  · rw [e, Array.getElem?_push, if_pos (by simp)]
  · rw [e]; simp
  · rw [h]
    exact (((Below.refl _ w).alloc (Nat.le_refl _) _).alloc (by simp) _).alloc (by simp; omega) _
theorem four_named {w wa : World} {o0 o1 o2 o3 : Obj} (h : wa = (((w.alloc o0).alloc o1).alloc o2).alloc o3) :
    wa.heap[w.heap.size]? = some o0 ∧ wa.heap[w.heap.size + 1]? = some o1 ∧ wa.heap[w.heap.size + 2]? = some o2 ∧ wa.heap[w.heap.size + 3]? = some o3 ∧ wa.heap.size = w.heap.size + 4 ∧ Below w.heap.size w wa := by
  obtain ⟨a0, a1, a2, a3, a4⟩ := three_named (w := w) (o0 := o0) (o1 := o1) (o2 := o2) rfl
  have k : Below (((w.alloc o0).alloc o1).alloc o2).heap.size (((w.alloc o0).alloc o1).alloc o2) wa := by rw [h]; exact (Below.refl _ _).alloc (Nat.le_refl _) _
  refine ⟨(k.block _ (lt_of_block a0)).trans a0, (k.block _ (lt_of_block a1)).trans a1, (k.block _ (lt_of_block a2)).trans a2, ?_, ?_, bnext a4 k⟩
  · rw [h, ← a3]; exact heap_alloc_new _ _
  · rw [h, show ((((w.alloc o0).alloc o1).alloc o2).alloc o3).heap.size = (((w.alloc o0).alloc o1).alloc o2).heap.size + 1 by simp, a3]
end Go.Proofs.YtcpilhbinkamiaaDoor
