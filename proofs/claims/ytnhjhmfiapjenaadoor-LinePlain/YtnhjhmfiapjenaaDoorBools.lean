/- Rows of bools of one's own: make, read, write. No word of the program is in it but the two types' numbers. -/
import Derived.Test.YtnhjhmfiapjenaaDoorProg
import Derived.Test.YtnhjhmfiapjenaaDoorKit
import Derived.Laws.Rows
import Derived.Laws.Tables
import Derived.RowKit
import Derived.Below
import Derived.OneCell
namespace Go.Proofs.YtnhjhmfiapjenaaDoor
open Go.RowKit
set_option linter.unusedVariables false
def Bools (T : TypeId) (w : World) (g : Nat) (bs : List Bool) : Prop := w.heap[g]? = some (.cells (bs.map Value.bool).toArray T (0, 0))
theorem Bools.lt {T : TypeId} {w : World} {g : Nat} {bs : List Bool} (h : Bools T w g bs) : g < w.heap.size := lt_of_block h
theorem Bools.next {T : TypeId} {w w' : World} {g : Nat} {bs : List Bool} (h : Bools T w g bs) (b : Below w.heap.size w w') : Bools T w' g bs := (b.block g h.lt).trans h
theorem Bools.cell {T : TypeId} {w : World} {g : Nat} {bs : List Bool} (h : Bools T w g bs) (i : Nat) (hi : i < bs.length) :
    w.cell? ⟨g, i, none⟩ = some (.bool (bs.getD i false)) := by
  rw [cell_of_row w g i _ T (0, 0) h, List.getD_eq_getElem?_getD, List.getElem?_eq_getElem hi]
  simp [hi]
theorem Bools.free {T : TypeId} {w : World} {g : Nat} {bs : List Bool} (h : Bools T w g bs) (i : Nat) : w.frozen? ⟨g, i, none⟩ = false := frozen_of_row w g i _ T h
theorem Bools.put {T : TypeId} {w : World} {g : Nat} {bs : List Bool} (h : Bools T w g bs) (i : Nat) (v : Bool) :
    Bools T (w.setCell ⟨g, i, none⟩ (.bool v)) g (bs.set i v) := by
  unfold Bools
  rw [heap_setCell_same w g i _ T _ h]
  simp
theorem make_bools {P : Program} {t e : TypeId} {i : TypeInfo} (ht : P.underlying t = some (.slice e)) (hi : P.info? e = some i) (hz : i.zero = some (.bool false)) (hs : i.size = 1) (hb : i.bytes = 1)
    (n : Nat) (hn : n ≤ 281474976710656) (w : World) :
    (Instr.makeSlice t (.int .i64 (n : Int)) (.int .i64 (n : Int))).run P w = .ok (.slice (some ⟨w.heap.size, 0, none⟩) n n) (w.alloc (.cells ((List.replicate n false).map Value.bool).toArray e)) := by
  rw [Go.run_make w t e i (.bool false) ht hi hz .i64 .i64 n n (by omega) (by omega) (by rw [hb]; omega) (by omega)]
  have e1 : madeCells (Value.cells (.bool false)) (n * i.size) = ((List.replicate n false).map Value.bool).toArray := by
    rw [hs, Nat.mul_one]
    apply Array.toList_inj.1
    show (madeCells #[.bool false] n).toList = _
    rw [toList_madeCells_one]
    simp
  simp only [Int.toNat_natCast, e1]
theorem Tryd.infoBool : (Tryd.prog.info? 4).map (fun i => (i.zero, i.size, i.bytes)) = some (some (.bool false), 1, 1) := by kernel_rfl
theorem mk_bools (n : Nat) (hn : n ≤ 281474976710656) (w : World) :
    (Instr.makeSlice 56 (.int .i64 (n : Int)) (.int .i64 (n : Int))).run Tryd.prog w = .ok (.slice (some ⟨w.heap.size, 0, none⟩) n n) (w.alloc (.cells ((List.replicate n false).map Value.bool).toArray 4)) := by
  obtain ⟨i, hi, hz⟩ := Option.map_eq_some_iff.1 Tryd.infoBool
  simp only [Prod.mk.injEq] at hz
  exact make_bools Tryd.underlying56 hi hz.1 hz.2.1 hz.2.2 n hn w
theorem Bools.made {T : TypeId} {w : World} {n : Nat} : Bools T (w.alloc (.cells ((List.replicate n false).map Value.bool).toArray T)) w.heap.size (List.replicate n false) := heap_alloc_new w _
end Go.Proofs.YtnhjhmfiapjenaaDoor
