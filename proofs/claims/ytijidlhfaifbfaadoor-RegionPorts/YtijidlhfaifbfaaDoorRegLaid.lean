/- What the row's list of one variable (the table of the ports' places) gives a walk: the table's cells; and a world that meets it (the witness). -/
import Derived.Test.YtijidlhfaifbfaaDoorRows
import Derived.Test.YtijidlhfaifbfaaDoorRegion
import Derived.Test.YtijidlhfaifbfaaDoorFlat
import Derived.ChangeSame
import Derived.ChangeVars
import Derived.JoinedOf
import Derived.RowKit
import Derived.RowKitTokens
import Derived.LaidLaws
import Derived.LaidHandle
import Derived.Stop.Joined
namespace Go.Proofs.YtijidlhfaifbfaaDoor
open Go.ChangeShapes Go.WideShapes Go.RowKit
set_option linter.unusedVariables false

abbrev laidReg : List (String × DataW Unit) := [("phosphor/region.portPlaces", Rows.laid_phosphor_region_portPlaces)]
theorem Tryd.gReg : Tryd.prog.globalNamed "phosphor/region.portPlaces" = some 0 := by kernel_rfl
theorem Tryd.tReg : (Tryd.prog.globals[0]?).map (·.type) = some 30 := by kernel_rfl
theorem reg_flat : flat Tryd.prog 40 30 Rows.laid_phosphor_region_portPlaces = some portCells.toList := by kernel_rfl

theorem laid_reg {W : World} (h : laidMetH Tryd.prog laidReg W) : HasPorts W := by
  have h : laidMet Tryd.prog laidReg W := h
  obtain ⟨ps, ⟨g, t, cs, fuel, p, q, e1, e2, e3, e4, _, _⟩, _⟩ := h
  obtain rfl := Option.some.inj (Tryd.gReg.symm.trans e1)
  obtain rfl := Option.some.inj (Tryd.tReg.symm.trans e2)
  have hc := flat_at 40 fuel 30 _ _ _ _ reg_flat e4
  have hc2 : cs = portCells := Array.toList_inj.1 hc
  subst hc2
  simp only [World.var?, Tryd.gReg, Option.bind_some] at e3
  split at e3
  · rename_i cs' t' fr hh
    obtain rfl := Option.some.inj e3
    exact ⟨t', fr, hh⟩
  · cases e3

/-- A world that meets the list: the settled one, the variable's cells laid. -/
noncomputable def laidWorld (os : Os) : World :=
  let w0 := World.holding Tryd.prog os ⟨#[], #[], []⟩
  { w0 with heap := w0.heap.modify 0 fun
      | .cells _ t frozen => .cells portCells t frozen
      | o => o }
theorem laidWorld_reg (os : Os) (args : Array Value) : laidMetH Tryd.prog laidReg ((laidWorld os).forCall (fun _ _ => 0) ⟨#[], args, []⟩).memory :=
  laidMetH_of_parts (laidMet_of_run' 8 (by kernel_rfl) (by kernel_rfl)) (by kernel_rfl)
end Go.Proofs.YtijidlhfaifbfaaDoor
