/- Worlds that part in some blocks alone. No word of the program is in it. -/
import Derived.Test.YtnhjhmfiapjenaaDoorMem13
import Derived.Test.YtnhjhmfiapjenaaDoorGenA
namespace Go.Proofs.YtnhjhmfiapjenaaDoor
open Go.RowKit
set_option linter.unusedVariables false
/-- All blocks that there were are as they were, but for those of E. -/
def OnlyE (E : Nat → Prop) (w w' : World) : Prop := w'.os = w.os ∧ w'.tape = w.tape ∧ w'.output = w.output ∧ w.heap.size ≤ w'.heap.size ∧ ∀ k, k < w.heap.size → ¬ E k → w'.heap[k]? = w.heap[k]?
theorem OnlyE.of {E : Nat → Prop} {w w' : World} (h : Below w.heap.size w w') : OnlyE E w w' := ⟨h.os, h.tape, h.output, h.size, fun k hk _ => h.block k hk⟩
theorem OnlyE.size {E : Nat → Prop} {w w' : World} (h : OnlyE E w w') : w.heap.size ≤ w'.heap.size := h.2.2.2.1
theorem OnlyE.block {E : Nat → Prop} {w w' : World} (h : OnlyE E w w') (k : Nat) (hk : k < w.heap.size) (hb : ¬ E k) : w'.heap[k]? = w.heap[k]? := h.2.2.2.2 k hk hb
theorem OnlyE.trans {E : Nat → Prop} {w1 w2 w3 : World} (h : OnlyE E w1 w2) (k : OnlyE E w2 w3) : OnlyE E w1 w3 :=
  ⟨k.1.trans h.1, k.2.1.trans h.2.1, k.2.2.1.trans h.2.2.1, Nat.le_trans h.size k.size, fun i hi hb => (k.block i (Nat.lt_of_lt_of_le hi h.size) hb).trans (h.block i hi hb)⟩
theorem OnlyE.obj {E : Nat → Prop} {c : Nat} {w w' : World} {o : Obj} (h : OnlyE E w w') (k : w.heap[c]? = some o) (hc : ¬ E c) : w'.heap[c]? = some o := (h.block c (lt_of_block k) hc).trans k
theorem OnlyE.setRow {E : Nat → Prop} {w w' : World} (h : OnlyE E w w') (g : Nat) (hg : w.heap.size ≤ g) (cs : Array Value) : OnlyE E w (w'.setRow g cs) :=
  ⟨h.1, h.2.1, h.2.2.1, by have := h.size; simp [World.setRow]; omega, fun i hi hb => (setRow_other w' g i cs (by omega)).trans (h.block i hi hb)⟩
theorem OnlyE.set {E : Nat → Prop} {w w' : World} (h : OnlyE E w w') (b o : Nat) (v : Value) (hb : E b) : OnlyE E w (w'.setCell ⟨b, o, none⟩ v) :=
  ⟨h.1, h.2.1, h.2.2.1, by have := h.size; simpa [World.setCell] using this, fun k hk hE => (Below.heap_setCell _ _ _ _ fun e => hE (by rw [e]; exact hb)).trans (h.block k hk hE)⟩
theorem OnlyE.drew {E : Nat → Prop} {w w' : World} (h : OnlyE E w w') : OnlyE E w w'.drew := h
theorem OnlyE.below {E : Nat → Prop} {B : Nat} {w w' : World} (h : OnlyE E w w') (hE : ∀ k, E k → B ≤ k) (hB : B ≤ w.heap.size) : Below B w w' :=
  ⟨h.1, h.2.1, h.2.2.1, h.size, fun k hk => h.block k (Nat.lt_of_lt_of_le hk hB) fun e => by have := hE k e; omega⟩
theorem OnlyE.none {w w' : World} (h : OnlyE (fun _ => False) w w') : Below w.heap.size w w' := ⟨h.1, h.2.1, h.2.2.1, h.size, fun k hk => h.block k hk id⟩
end Go.Proofs.YtnhjhmfiapjenaaDoor
