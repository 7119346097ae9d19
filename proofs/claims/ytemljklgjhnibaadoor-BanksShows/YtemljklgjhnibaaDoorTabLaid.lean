/- What the row's list of one variable (the table of card's kinds) gives a walk: the table's cells; and a world that meets it (the witness). -/
import Derived.Test.YtemljklgjhnibaaDoorRows
import Derived.Test.YtemljklgjhnibaaDoorCard
import Derived.Test.YtemljklgjhnibaaDoorFlat
import Derived.ChangeSame
import Derived.ChangeVars
import Derived.JoinedOf
import Derived.RowKit
import Derived.RowKitTokens
import Derived.LaidLaws
import Derived.LaidHandle
import Derived.Stop.Joined
namespace Go.Proofs.YtemljklgjhnibaaDoor
open Go.ChangeShapes Go.WideShapes Go.RowKit
set_option linter.unusedVariables false

abbrev laidTab : List (String × DataW Unit) := [("phosphor/card.classes", Rows.laid_phosphor_card_classes)]
theorem Tryd.gTab : Tryd.prog.globalNamed "phosphor/card.classes" = some 0 := by kernel_rfl
theorem Tryd.tTab : (Tryd.prog.globals[0]?).map (·.type) = some 39 := by kernel_rfl
theorem tab_flat : flat Tryd.prog 40 39 Rows.laid_phosphor_card_classes = some tabCells.toList := by kernel_rfl

theorem laid_tab {W : World} (h : laidMetH Tryd.prog laidTab W) : HasTab W := by
  have h : laidMet Tryd.prog laidTab W := h
  obtain ⟨ps, ⟨g, t, cs, fuel, p, q, e1, e2, e3, e4, _, _⟩, _⟩ := h
  obtain rfl := Option.some.inj (Tryd.gTab.symm.trans e1)
  obtain rfl := Option.some.inj (Tryd.tTab.symm.trans e2)
  have hc := flat_at 40 fuel 39 _ _ _ _ tab_flat e4
  have hc2 : cs = tabCells := Array.toList_inj.1 hc
  subst hc2
  simp only [World.var?, Tryd.gTab, Option.bind_some] at e3
  split at e3
  · rename_i cs' t' fr hh
    obtain rfl := Option.some.inj e3
    exact ⟨t', fr, hh⟩
  · cases e3

/-- A world that meets the list: the settled one, the variable's cells laid. -/
noncomputable def laidWorld (os : Os) : World :=
  let w0 := World.holding Tryd.prog os ⟨#[], #[], []⟩
  { w0 with heap := w0.heap.modify 0 fun
      | .cells _ t frozen => .cells tabCells t frozen
      | o => o }
theorem laidWorld_tab (os : Os) (args : Array Value) : laidMetH Tryd.prog laidTab ((laidWorld os).forCall (fun _ _ => 0) ⟨#[], args, []⟩).memory :=
  laidMetH_of_parts (laidMet_of_run' 8 (by kernel_rfl) (by kernel_rfl)) (by kernel_rfl)
end Go.Proofs.YtemljklgjhnibaaDoor
