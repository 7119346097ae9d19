/- What the rows' lists of variables give a walk: the table's cells, the handle of the type error; and a world that meets them (the witness). -/
import Derived.Test.YtlildknlkjoidaaDoorRows
import Derived.Test.YtlildknlkjoidaaDoorCardLoad
import Derived.Test.YtlildknlkjoidaaDoorFlat
import Derived.ChangeSame
import Derived.ChangeVars
import Derived.JoinedOf
import Derived.RowKit
import Derived.RowKitTokens
import Derived.LaidLaws
import Derived.LaidHandle
import Derived.Stop.Joined
namespace Go.Proofs.YtlildknlkjoidaaDoor
open Go.ChangeShapes Go.WideShapes Go.RowKit
set_option linter.unusedVariables false

abbrev laidTab : List (String × DataW Unit) := [("phosphor/card.classes", Rows.laid_phosphor_card_classes)]
abbrev laidBoth : List (String × DataW Unit) := [("errors.errorType", Rows.laid_errors_errorType), ("phosphor/card.classes", Rows.laid_phosphor_card_classes)]

theorem Tryd.gTab : Tryd.prog.globalNamed "phosphor/card.classes" = some 0 := by kernel_rfl
theorem Tryd.gErr : Tryd.prog.globalNamed "errors.errorType" = some 1 := by kernel_rfl
theorem Tryd.tTab : (Tryd.prog.globals[0]?).map (·.type) = some 52 := by kernel_rfl
theorem Tryd.rt : (Tryd.prog.cutTypes.find? (·.1 == "internal/reflectlite.rtype")).map (·.2) = some 71 := by kernel_rfl
theorem Tryd.oneRow : ((List.range 113).filter fun t => Tryd.prog.rowNamed t [101, 114, 114, 111, 114]) = [48] := by kernel_rfl
theorem Tryd.size : Tryd.prog.types.size = 113 := by kernel_rfl
theorem tab_flat : flat Tryd.prog 40 52 Rows.laid_phosphor_card_classes = some tabCells.toList := by kernel_rfl

theorem tab_of_laid {W : World} (h : laidMet Tryd.prog laidTab W) : HasTab W := by
  obtain ⟨ps, ⟨g, t, cs, fuel, p, q, e1, e2, e3, e4, _, _⟩, _⟩ := h
  obtain rfl := Option.some.inj (Tryd.gTab.symm.trans e1)
  obtain rfl := Option.some.inj (Tryd.tTab.symm.trans e2)
  have hc := flat_at 40 fuel 52 _ _ _ _ tab_flat e4
  have hc2 : cs = tabCells := Array.toList_inj.1 hc
  subst hc2
  simp only [World.var?, Tryd.gTab, Option.bind_some] at e3
  split at e3
  · rename_i cs' t' fr hh
    obtain rfl := Option.some.inj e3
    exact ⟨t', fr, hh⟩
  · cases e3

theorem laid_tab {W : World} (h : laidMetH Tryd.prog laidTab W) : HasTab W := tab_of_laid h
theorem laid_both {W : World} (h : laidMetH Tryd.prog laidBoth W) : HasTab W ∧ HasErr W := by
  have h' : laidMet Tryd.prog laidTab W ∧ handlesMet Tryd.prog [("errors.errorType", Rows.laid_errors_errorType)] W := h
  refine ⟨tab_of_laid h'.1, ?_⟩
  obtain ⟨name, u, ty, e1, e2, e3, e4, e5⟩ := h'.2 _ (List.mem_singleton.2 rfl)
  have en : name = [101, 114, 114, 111, 114] := (Option.some.inj e1).symm
  subst en
  obtain rfl := Option.some.inj (Tryd.rt.symm.trans e2)
  have hm : ty ∈ (List.range 113).filter fun t => Tryd.prog.rowNamed t [101, 114, 114, 111, 114] := List.mem_filter.2 ⟨List.mem_range.2 (by rw [← Tryd.size]; exact e3), e4⟩
  rw [Tryd.oneRow] at hm
  obtain rfl := List.mem_singleton.1 hm
  have hh : typeHandle Tryd.prog 48 = .pointer (some ⟨2, 48, none⟩) := by kernel_rfl
  rw [hh] at e5
  unfold HasErr
  simpa using World.var?_cell Tryd.gErr e5 0

/-- A world that meets the lists: the settled one, the two variables' cells laid. -/
noncomputable def laidWorld (os : Os) : World :=
  let w0 := World.holding Tryd.prog os ⟨#[], #[], []⟩
  { w0 with heap := (w0.heap.modify 1 fun
      | .cells _ t frozen => .cells #[.iface 71 (.agg #[.pointer (some ⟨2, 48, none⟩)])] t frozen
      | o => o).modify 0 fun
      | .cells _ t frozen => .cells tabCells t frozen
      | o => o }
theorem laidWorld_tab (os : Os) (args : Array Value) : laidMetH Tryd.prog laidTab ((laidWorld os).forCall (fun _ _ => 0) ⟨#[], args, []⟩).memory :=
  laidMetH_of_parts (laidMet_of_run' 8 (by kernel_rfl) (by kernel_rfl)) (by kernel_rfl)
theorem laidWorld_both (os : Os) (args : Array Value) : laidMetH Tryd.prog laidBoth ((laidWorld os).forCall (fun _ _ => 0) ⟨#[], args, []⟩).memory :=
  laidMetH_of_parts (laidMet_of_run' 8 (by kernel_rfl) (by kernel_rfl)) (by kernel_rfl)
end Go.Proofs.YtlildknlkjoidaaDoor
