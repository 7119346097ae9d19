/- What the rows' list of one variable (the table of the heights) gives a walk: the table's cells; and a world that meets it (the witness). -/
import Derived.Test.YtnhjhmfiapjenaaDoorRows
import Derived.Test.YtnhjhmfiapjenaaDoorSpr18
import Derived.Test.YtnhjhmfiapjenaaDoorFlat
import Derived.ChangeSame
import Derived.ChangeVars
import Derived.JoinedOf
import Derived.RowKit
import Derived.RowKitTokens
import Derived.LaidLaws
import Derived.LaidHandle
import Derived.Stop.Joined
namespace Go.Proofs.YtnhjhmfiapjenaaDoor
open Go.ChangeShapes Go.WideShapes Go.RowKit
set_option linter.unusedVariables false

abbrev laidHigh : List (String × DataW Unit) := [("phosphor/sprites.heights", Rows.laid_phosphor_sprites_heights)]
theorem Tryd.gHigh : Tryd.prog.globalNamed "phosphor/sprites.heights" = some 0 := by kernel_rfl
theorem Tryd.tHigh : (Tryd.prog.globals[0]?).map (·.type) = some 78 := by kernel_rfl
theorem high_flat : flat Tryd.prog 40 78 Rows.laid_phosphor_sprites_heights = some highCells.toList := by kernel_rfl

theorem laid_high {W : World} (h : laidMetH Tryd.prog laidHigh W) : HasHigh W := by
  have h : laidMet Tryd.prog laidHigh W := h
  obtain ⟨ps, ⟨g, t, cs, fuel, p, q, e1, e2, e3, e4, _, _⟩, _⟩ := h
  obtain rfl := Option.some.inj (Tryd.gHigh.symm.trans e1)
  obtain rfl := Option.some.inj (Tryd.tHigh.symm.trans e2)
  have hc := flat_at 40 fuel 78 _ _ _ _ high_flat e4
  have hc2 : cs = highCells := Array.toList_inj.1 hc
  subst hc2
  simp only [World.var?, Tryd.gHigh, Option.bind_some] at e3
  split at e3
  · rename_i cs' t' fr hh
    obtain rfl := Option.some.inj e3
    exact ⟨t', fr, hh⟩
  · cases e3

/-- A world that meets the list: the settled one, the variable's cells laid. -/
noncomputable def laidWorld (os : Os) : World :=
  let w0 := World.holding Tryd.prog os ⟨#[], #[], []⟩
  { w0 with heap := w0.heap.modify 0 fun
      | .cells _ t frozen => .cells highCells t frozen
      | o => o }
theorem laidWorld_high (os : Os) (args : Array Value) : laidMetH Tryd.prog laidHigh ((laidWorld os).forCall (fun _ _ => 0) ⟨#[], args, []⟩).memory :=
  laidMetH_of_parts (laidMet_of_run' 8 (by kernel_rfl) (by kernel_rfl)) (by kernel_rfl)
end Go.Proofs.YtnhjhmfiapjenaaDoor
