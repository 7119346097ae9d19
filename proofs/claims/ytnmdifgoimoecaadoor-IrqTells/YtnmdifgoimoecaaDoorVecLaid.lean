/- What the rows' list of one variable (the table of the vectors) gives a walk: the table's cells; and a world that meets it (the witness). -/
import Derived.Test.YtnmdifgoimoecaaDoorRows
import Derived.Test.YtnmdifgoimoecaaDoorPick
import Derived.Test.YtnmdifgoimoecaaDoorFlat
import Derived.ChangeSame
import Derived.ChangeVars
import Derived.JoinedOf
import Derived.RowKit
import Derived.RowKitTokens
import Derived.LaidLaws
import Derived.LaidHandle
import Derived.Stop.Joined
namespace Go.Proofs.YtnmdifgoimoecaaDoor
open Go.ChangeShapes Go.WideShapes Go.RowKit
set_option linter.unusedVariables false

abbrev laidVec : List (String × DataW Unit) := [("phosphor/irq.vectors", Rows.laid_phosphor_irq_vectors)]
theorem Tryd.gVec : Tryd.prog.globalNamed "phosphor/irq.vectors" = some 0 := by kernel_rfl
theorem Tryd.tVec : (Tryd.prog.globals[0]?).map (·.type) = some 41 := by kernel_rfl
theorem vec_flat : flat Tryd.prog 40 41 Rows.laid_phosphor_irq_vectors = some vecCells.toList := by kernel_rfl

theorem laid_vec {W : World} (h : laidMetH Tryd.prog laidVec W) : HasVec W := by
  have h : laidMet Tryd.prog laidVec W := h
  obtain ⟨ps, ⟨g, t, cs, fuel, p, q, e1, e2, e3, e4, _, _⟩, _⟩ := h
  obtain rfl := Option.some.inj (Tryd.gVec.symm.trans e1)
  obtain rfl := Option.some.inj (Tryd.tVec.symm.trans e2)
  have hc := flat_at 40 fuel 41 _ _ _ _ vec_flat e4
  have hc2 : cs = vecCells := Array.toList_inj.1 hc
  subst hc2
  simp only [World.var?, Tryd.gVec, Option.bind_some] at e3
  split at e3
  · rename_i cs' t' fr hh
    obtain rfl := Option.some.inj e3
    exact ⟨t', fr, hh⟩
  · cases e3

/-- A world that meets the list: the settled one, the variable's cells laid. -/
noncomputable def laidWorld (os : Os) : World :=
  let w0 := World.holding Tryd.prog os ⟨#[], #[], []⟩
  { w0 with heap := w0.heap.modify 0 fun
      | .cells _ t frozen => .cells vecCells t frozen
      | o => o }
theorem laidWorld_vec (os : Os) (args : Array Value) : laidMetH Tryd.prog laidVec ((laidWorld os).forCall (fun _ _ => 0) ⟨#[], args, []⟩).memory :=
  laidMetH_of_parts (laidMet_of_run' 8 (by kernel_rfl) (by kernel_rfl)) (by kernel_rfl)
end Go.Proofs.YtnmdifgoimoecaaDoor
