/- What the rows' lists of variables (the table of the kinds' ways, and that of their names) give a walk: the tables' cells; and a world that meets them (the witness). -/
import Derived.Test.YtjmalnlfhmddjaaDoorRows
import Derived.Test.YtjmalnlfhmddjaaDoorBlock
import Derived.Test.YtjmalnlfhmddjaaDoorFlat
import Derived.ChangeSame
import Derived.ChangeVars
import Derived.JoinedOf
import Derived.RowKit
import Derived.RowKitTokens
import Derived.LaidLaws
import Derived.LaidHandle
import Derived.Stop.Joined
namespace Go.Proofs.YtjmalnlfhmddjaaDoor
open Go.ChangeShapes Go.WideShapes Go.RowKit
set_option linter.unusedVariables false

/-- The table of the names, as its cells lie. -/
def nameCells : Array Value := #[.string ⟨#[84, 73, 73]⟩, .string ⟨#[84, 68, 68]⟩, .string ⟨#[84, 73, 78]⟩, .string ⟨#[84, 73, 65]⟩, .string ⟨#[84, 65, 73]⟩]
def HasNames (w : World) : Prop := ∃ t fr, w.heap[1]? = some (.cells nameCells t fr)

abbrev laidPaths : List (String × DataW Unit) := [("phosphor/block.paths", Rows.laid_phosphor_block_paths)]
abbrev laidTwo : List (String × DataW Unit) := [("phosphor/block.names", Rows.laid_phosphor_block_names), ("phosphor/block.paths", Rows.laid_phosphor_block_paths)]
theorem Tryd.gPaths : Tryd.prog.globalNamed "phosphor/block.paths" = some 0 := by kernel_rfl
theorem Tryd.tPaths : (Tryd.prog.globals[0]?).map (·.type) = some 33 := by kernel_rfl
theorem paths_flat : flat Tryd.prog 40 33 Rows.laid_phosphor_block_paths = some pathCells.toList := by kernel_rfl
theorem Tryd.gNames : Tryd.prog.globalNamed "phosphor/block.names" = some 1 := by kernel_rfl
theorem Tryd.tNames : (Tryd.prog.globals[1]?).map (·.type) = some 37 := by kernel_rfl
theorem names_flat : flat Tryd.prog 40 37 Rows.laid_phosphor_block_names = some nameCells.toList := by kernel_rfl

theorem laid_paths {W : World} (h : laidMetH Tryd.prog laidPaths W) : HasPaths W := by
  have h : laidMet Tryd.prog laidPaths W := h
  obtain ⟨ps, ⟨g, t, cs, fuel, p, q, e1, e2, e3, e4, _, _⟩, _⟩ := h
  obtain rfl := Option.some.inj (Tryd.gPaths.symm.trans e1)
  obtain rfl := Option.some.inj (Tryd.tPaths.symm.trans e2)
  have hc := flat_at 40 fuel 33 _ _ _ _ paths_flat e4
  have hc2 : cs = pathCells := Array.toList_inj.1 hc
  subst hc2
  simp only [World.var?, Tryd.gPaths, Option.bind_some] at e3
  split at e3
  · rename_i cs' t' fr hh
    obtain rfl := Option.some.inj e3
    exact ⟨t', fr, hh⟩
  · cases e3
theorem laid_two {W : World} (h : laidMetH Tryd.prog laidTwo W) : HasPaths W ∧ HasNames W := by
  have h : laidMet Tryd.prog laidTwo W := h
  obtain ⟨ps, ⟨g, t, cs, fuel, p, q, e1, e2, e3, e4, x, _⟩, _⟩ := h
  constructor
  · obtain ⟨g, t, cs, fuel, p, q, e1, e2, e3, e4, _, _⟩ := x
    obtain rfl := Option.some.inj (Tryd.gPaths.symm.trans e1)
    obtain rfl := Option.some.inj (Tryd.tPaths.symm.trans e2)
    have hc := flat_at 40 fuel 33 _ _ _ _ paths_flat e4
    have hc2 : cs = pathCells := Array.toList_inj.1 hc
    subst hc2
    simp only [World.var?, Tryd.gPaths, Option.bind_some] at e3
    split at e3
    · rename_i cs' t' fr hh
      obtain rfl := Option.some.inj e3
      exact ⟨t', fr, hh⟩
    · cases e3
  ·
    obtain rfl := Option.some.inj (Tryd.gNames.symm.trans e1)
    obtain rfl := Option.some.inj (Tryd.tNames.symm.trans e2)
    have hc := flat_at 40 fuel 37 _ _ _ _ names_flat e4
    have hc2 : cs = nameCells := Array.toList_inj.1 hc
    subst hc2
    simp only [World.var?, Tryd.gNames, Option.bind_some] at e3
    split at e3
    · rename_i cs' t' fr hh
      obtain rfl := Option.some.inj e3
      exact ⟨t', fr, hh⟩
    · cases e3

/-- A world that meets the lists: the settled one, the two variables' cells laid. -/
noncomputable def laidWorld (os : Os) : World :=
  let w0 := World.holding Tryd.prog os ⟨#[], #[], []⟩
  { w0 with heap := (w0.heap.modify 0 fun
      | .cells _ t frozen => .cells pathCells t frozen
      | o => o).modify 1 fun
      | .cells _ t frozen => .cells nameCells t frozen
      | o => o }
theorem laidWorld_paths (os : Os) (args : Array Value) : laidMetH Tryd.prog laidPaths ((laidWorld os).forCall (fun _ _ => 0) ⟨#[], args, []⟩).memory :=
  laidMetH_of_parts (laidMet_of_run' 8 (by kernel_rfl) (by kernel_rfl)) (by kernel_rfl)
theorem laidWorld_two (os : Os) (args : Array Value) : laidMetH Tryd.prog laidTwo ((laidWorld os).forCall (fun _ _ => 0) ⟨#[], args, []⟩).memory :=
  laidMetH_of_parts (laidMet_of_run' 8 (by kernel_rfl) (by kernel_rfl)) (by kernel_rfl)
end Go.Proofs.YtjmalnlfhmddjaaDoor
