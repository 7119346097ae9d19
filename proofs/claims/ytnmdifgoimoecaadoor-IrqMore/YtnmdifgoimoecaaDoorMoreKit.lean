/- What the three cases of the law IrqMore share. -/
import Derived.Test.YtnmdifgoimoecaaDoorPick
namespace Go.Proofs.YtnmdifgoimoecaaDoor
open Go.RowKit
set_option linter.unusedVariables false

theorem HasS.set0 {w : World} {b : Nat} {m l : Int} (h : HasS w b m l) (q : Int) : HasS (w.setCell ⟨b, 0, none⟩ (.int .i64 q)) b q l :=
  heap_setCell_same w b 0 _ _ _ h
theorem HasVec.set0 {w : World} {b : Nat} (h : HasVec w) (q : Int) (hb : 0 ≠ b) : HasVec (w.setCell ⟨b, 0, none⟩ (.int .i64 q)) := by
  obtain ⟨t, fr, e⟩ := h
  exact ⟨t, fr, (heap_setCell_other w _ _ _ hb).trans e⟩
theorem only_4 (w : World) (hT : HasVec w) : Calls Tryd.prog 6 #[.agg #[.int .i64 0, .int .i64 4], .int .i64 0] w fun e w' => e = .returned (.tuple #[.int .i64 65530, .bool true]) ∧ Below w.heap.size w w' :=
  pick_free 0 4 0 (by decide) w hT

end Go.Proofs.YtnmdifgoimoecaaDoor
