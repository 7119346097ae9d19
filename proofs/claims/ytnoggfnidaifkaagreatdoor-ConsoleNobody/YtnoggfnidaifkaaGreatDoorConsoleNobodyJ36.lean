/- Facts of a region's values, by a list. No word of the program is in it. -/
import Derived.Test.YtnoggfnidaifkaaGreatDoorConsoleNobodyJ01
import Derived.BigFrame
namespace Go.Proofs.YtnoggfnidaifkaaGreatDoor.L25
set_option maxRecDepth 20000
open Go.RowKit
set_option linter.unusedVariables false
def factR (L : List (Value → World → Prop)) (i : Nat) (v : Value) (w : World) : Prop := (L.getD i fun _ _ => True) v w
def eqF (x v : Value) (w : World) : Prop := v = x
def sliceF (x : Int) (v : Value) (w : World) : Prop := ∃ g, v = .slice (some ⟨g, 0, none⟩) 1 1 ∧ w.cell? ⟨g, 0, none⟩ = some (.int .i64 x) ∧ g < w.heap.size
def slice2F (x y : Int) (v : Value) (w : World) : Prop := ∃ g, v = .slice (some ⟨g, 0, none⟩) 2 2 ∧ w.cell? ⟨g, 0, none⟩ = some (.int .i64 x) ∧ w.cell? ⟨g, 1, none⟩ = some (.int .i64 y) ∧ g < w.heap.size
theorem slice2F_next {x y : Int} : ∀ v w w', slice2F x y v w → Below w.heap.size w w' → slice2F x y v w' := fun _ _ _ ⟨g, e, c, d, l⟩ b => ⟨g, e, (b.cell (p := ⟨g, 0, none⟩) l).trans c, (b.cell (p := ⟨g, 1, none⟩) l).trans d, Nat.lt_of_lt_of_le l b.size⟩
theorem eqF_next {x : Value} : ∀ v w w', eqF x v w → Below w.heap.size w w' → eqF x v w' := fun _ _ _ h _ => h
theorem sliceF_next {x : Int} : ∀ v w w', sliceF x v w → Below w.heap.size w w' → sliceF x v w' := fun _ _ _ ⟨g, e, c, l⟩ b => ⟨g, e, (b.cell (p := ⟨g, 0, none⟩) l).trans c, Nat.lt_of_lt_of_le l b.size⟩
theorem factR_next {L : List (Value → World → Prop)} (h : ∀ A ∈ L, ∀ v w w', A v w → Below w.heap.size w w' → A v w') (i : Nat) (v : Value) (w w' : World) (hi : factR L i v w) (k : Below w.heap.size w w') : factR L i v w' := by
  unfold factR at hi ⊢
  rw [List.getD_eq_getElem?_getD] at hi ⊢
  cases e : L[i]? with
  | none => trivial
  | some A =>
    rw [e] at hi
    exact h A (List.mem_of_getElem? e) v w w' hi k
theorem wpList_mid_wanted {P : Program} {ops : Array Oper} {rest : List Oper} {op : Oper} {a : Act} {w : World} {Q : Exit → Act → World → Prop} (hw : Region.wanted op (yielded ops a.tmps) = true) (ty : TypeId) (x : Operand) (ho : op.op = .load ty x)
    (b o : Nat) (hx : a.eval x = .pointer (some ⟨b, o, none⟩)) (cs : List Value) (d : TypeDesc) (hc : w.rangeAt b o cs) (hu : P.underlying ty = some d) (hd : d.isRow = true) (hi : (P.info? ty).map (·.size) = some cs.length)
    (h : wpList P ops Q rest (a.put op.dst (.agg cs.toArray)) w) : wpList P ops Q (op :: rest) a w :=
  BigFrame.wpList_want hw fun _ hK => wp_load_mid ty x ho b o hx cs d hc hu hd hi (hK _ _ h)
theorem wpList_part_wanted {P : Program} {ops : Array Oper} {rest : List Oper} {op : Oper} {a : Act} {w : World} {Q : Exit → Act → World → Prop} (hw : Region.wanted op (yielded ops a.tmps) = true) (ty : TypeId) (x : Operand) (ho : op.op = .load ty x)
    (b o : Nat) (hx : a.eval x = .pointer (some ⟨b, o, none⟩)) {T : TypeId} {N : Nat} {c : Nat → Value} (h : HasF T w b N c) (M : Nat) (hM : o + M ≤ N) (e : Nat → Value) (he : ∀ j, j < M → c (o + j) = e j) (d : TypeDesc) (hu : P.underlying ty = some d) (hd : d.isRow = true) (hi : (P.info? ty).map (·.size) = some M)
    (hK : wpList P ops Q rest (a.put op.dst (.agg (rowF e M))) w) : wpList P ops Q (op :: rest) a w := by
  refine wpList_mid_wanted hw ty x ho b o hx (rowF e M).toList d ?_ hu hd ?_ hK
  · rw [← rowF_ext he]
    exact h.range o M hM
  · rw [Array.length_toList, rowF_size]
    exact hi
end Go.Proofs.YtnoggfnidaifkaaGreatDoor.L25
