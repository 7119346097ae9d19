/- The program's processor: bytes that are changed by a closure, and blocks that are moved. -/
import Derived.Test.YtoijhhbiknhlnaaGreatDoorCpuPictureJ38
namespace Go.Proofs.YtoijhhbiknhlnaaGreatDoor.L25
set_option maxRecDepth 20000
open A2 B4 C3 G6 I11 J23 K9 L24 M5 N8 O7 P22 R15 T10 V12 W13
open Go.RowKit
set_option linter.unusedVariables false
def Boxes (s b v g1 g2 : Nat) (nn : ByteArray) (w : World) : Prop := (∃ t1 f1, w.heap[g1]? = some (.cells #[.pointer (some ⟨s, 0, none⟩)] t1 f1)) ∧ (∃ t2 f2, w.heap[g2]? = some (.cells #[.string nn] t2 f2)) ∧ ¬ EQ s b v g1 ∧ ¬ EQ s b v g2
theorem Boxes.only {s b v g1 g2 : Nat} {nn : ByteArray} {w w' : World} (h : Boxes s b v g1 g2 nn w) (k : OnlyE (EQ s b v) w w') : Boxes s b v g1 g2 nn w' := by
  obtain ⟨⟨t1, f1, e1⟩, ⟨t2, f2, e2⟩, n1, n2⟩ := h
  exact ⟨⟨t1, f1, k.obj e1 n1⟩, ⟨t2, f2, k.obj e2 n2⟩, n1, n2⟩
theorem Boxes.one {s b v g1 g2 : Nat} {nn : ByteArray} {w : World} (h : Boxes s b v g1 g2 nn w) : w.cell? ⟨g1, 0, none⟩ = some (.pointer (some ⟨s, 0, none⟩)) := by
  obtain ⟨⟨t1, f1, e1⟩, _⟩ := h
  exact (cell_of_row w g1 0 _ _ _ e1).trans rfl
theorem Boxes.two {s b v g1 g2 : Nat} {nn : ByteArray} {w : World} (h : Boxes s b v g1 g2 nn w) : w.cell? ⟨g2, 0, none⟩ = some (.string nn) := by
  obtain ⟨_, ⟨t2, f2, e2⟩, _⟩ := h
  exact (cell_of_row w g2 0 _ _ _ e2).trans rfl
end Go.Proofs.YtoijhhbiknhlnaaGreatDoor.L25
