/- A region that draws its order and whose callees make memory of their own: one walk in the order of the text, in the class of all worlds in whose old blocks nothing has turned. No word of the program is in it. -/
import Derived.Test.YtbkecffdejafcaaDoorKit
import Derived.Deep.Quiet
import Derived.BigQuiet
namespace Go.Proofs.YtbkecffdejafcaaDoor
open Go.RowKit

/-- A world that is, in all blocks that W has, as W is. -/
def Kept (W : World) : Type := { x : World // Below W.heap.size W x }
def Kept.val {W : World} (x : Kept W) : World := Subtype.val x
theorem Kept.below {W : World} (x : Kept W) : Below W.heap.size W x.val := Subtype.property x
def kept {W x : World} (h : Below W.heap.size W x) : Kept W := ⟨x, h⟩
/-- There is one: 'haveI := kept_some W' ahead of a region. -/
theorem kept_some (W : World) : Nonempty (Kept W) := ⟨kept (Below.refl _ W)⟩
theorem Kept.cell {W : World} (x : Kept W) (b o : Nat) (h : b < W.heap.size) : x.val.cell? ⟨b, o, none⟩ = W.cell? ⟨b, o, none⟩ := x.below.cell (p := ⟨b, o, none⟩) h
theorem Kept.block {W : World} (x : Kept W) (b : Nat) (h : b < W.heap.size) : x.val.heap[b]? = W.heap[b]? := x.below.block b h
theorem kept_cell {W : World} {b o : Nat} {v : Value} (h : W.cell? ⟨b, o, none⟩ = some v) (hb : b < W.heap.size) : ∀ x : Kept W, x.val.cell? ⟨b, o, none⟩ = some v := fun x => (x.cell b o hb).trans h

theorem wp_region_kept {P : Program} {id : Nat} {Q : Exit → Act → World → Prop} {a : Act} {w : World} {l : List Oper} (hm : P.follows .mixedOrders = true) (hB : Region.lexB .any l.toArray = true)
    (h : wpQuiet P l.toArray (fun w' => ∃ x : Kept w, w' = x.val) (fun a' => ∀ w', (∃ x : Kept w, w' = x.val) → Q .normal a' w') l a) : (Code.region id l.toArray true).wp P Q a w :=
  wp_region_quiet (C := fun w' => ∃ x : Kept w, w' = x.val) hm hB ⟨kept (Below.refl _ w).drew, rfl⟩ (by simpa using h)

/-- A callee's contract, met in a world of the class. -/
theorem kept_call {P : Program} {f : FuncId} {args : Array Value} {W : World} {x : Kept W} {v : Value}
    (h : Calls P f args x.val fun e w' => e = .returned v ∧ Below x.val.heap.size x.val w') : Calls P f args x.val fun e w'' => e = .returned v ∧ ∃ y : Kept W, w'' = y.val :=
  h.mono fun _ _ ⟨he, hb⟩ => ⟨he, kept (bnext x.below hb), rfl⟩
theorem kept_same {P : Program} {f : FuncId} {args : Array Value} {W : World} {x : Kept W} {v : Value}
    (h : Calls P f args x.val fun e w' => e = .returned v ∧ w' = x.val) : Calls P f args x.val fun e w'' => e = .returned v ∧ ∃ y : Kept W, w'' = y.val :=
  h.mono fun _ _ ⟨he, hb⟩ => ⟨he, x, hb⟩
end Go.Proofs.YtbkecffdejafcaaDoor
