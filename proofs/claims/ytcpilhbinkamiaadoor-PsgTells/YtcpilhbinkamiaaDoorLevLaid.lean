/- What the rows' list of one variable (the table of the levels) gives a walk: the table's cells; and a world that meets it (the witness). -/
import Derived.Test.YtcpilhbinkamiaaDoorRows
import Derived.Test.YtcpilhbinkamiaaDoorVol20
import Derived.Test.YtcpilhbinkamiaaDoorFlat
import Derived.ChangeSame
import Derived.ChangeVars
import Derived.JoinedOf
import Derived.RowKit
import Derived.RowKitTokens
import Derived.LaidLaws
import Derived.LaidHandle
import Derived.Stop.Joined
namespace Go.Proofs.YtcpilhbinkamiaaDoor
open Go.ChangeShapes Go.WideShapes Go.RowKit
set_option linter.unusedVariables false

abbrev laidLev : List (String × DataW Unit) := [("phosphor/volume.levels", Rows.laid_phosphor_volume_levels)]
theorem Tryd.gLev : Tryd.prog.globalNamed "phosphor/volume.levels" = some 0 := by kernel_rfl
theorem Tryd.tLev : (Tryd.prog.globals[0]?).map (·.type) = some 22 := by kernel_rfl
theorem lev_flat : flat Tryd.prog 40 22 Rows.laid_phosphor_volume_levels = some levelCells.toList := by kernel_rfl

theorem laid_lev {W : World} (h : laidMetH Tryd.prog laidLev W) : HasLevels W := by
  have h : laidMet Tryd.prog laidLev W := h
  obtain ⟨ps, ⟨g, t, cs, fuel, p, q, e1, e2, e3, e4, _, _⟩, _⟩ := h
  obtain rfl := Option.some.inj (Tryd.gLev.symm.trans e1)
  obtain rfl := Option.some.inj (Tryd.tLev.symm.trans e2)
  have hc := flat_at 40 fuel 22 _ _ _ _ lev_flat e4
  have hc2 : cs = levelCells := Array.toList_inj.1 hc
  subst hc2
  simp only [World.var?, Tryd.gLev, Option.bind_some] at e3
  split at e3
  · rename_i cs' t' fr hh
    obtain rfl := Option.some.inj e3
    exact ⟨t', fr, hh⟩
  · cases e3

/-- A world that meets the list: the settled one, the variable's cells laid. -/
noncomputable def laidWorld (os : Os) : World :=
  let w0 := World.holding Tryd.prog os ⟨#[], #[], []⟩
  { w0 with heap := w0.heap.modify 0 fun
      | .cells _ t frozen => .cells levelCells t frozen
      | o => o }
theorem laidWorld_lev (os : Os) (args : Array Value) : laidMetH Tryd.prog laidLev ((laidWorld os).forCall (fun _ _ => 0) ⟨#[], args, []⟩).memory :=
  laidMetH_of_parts (laidMet_of_run' 8 (by kernel_rfl) (by kernel_rfl)) (by kernel_rfl)
end Go.Proofs.YtcpilhbinkamiaaDoor
