/- What the rows' list of four variables gives a walk: the three tables' cells, the handle of the type error; and a world that meets it (the witness). -/
import Derived.Test.YthelklkfcllddaaGreatDoorRows
import Derived.Test.YthelklkfcllddaaGreatDoorTopCardsJ05
import Derived.Test.YthelklkfcllddaaGreatDoorTopCardsJ10
import Derived.Test.YthelklkfcllddaaGreatDoorTopCardsJ11
import Derived.Test.YthelklkfcllddaaGreatDoorTopCardsJ13
import Derived.Test.YthelklkfcllddaaGreatDoorTopCardsJ01
import Derived.ChangeSame
import Derived.ChangeVars
import Derived.JoinedOf
import Derived.RowKit
import Derived.RowKitTokens
import Derived.LaidLaws
import Derived.LaidHandle
import Derived.Stop.Joined
namespace Go.Proofs.YthelklkfcllddaaGreatDoor
set_option maxRecDepth 20000
open C3 G6 L24 R15 W13
open Go.ChangeShapes Go.WideShapes Go.RowKit
set_option linter.unusedVariables false
abbrev laidDatas : List (String × DataW Unit) := [("phosphor/region.portPlaces", Rows.laid_phosphor_region_portPlaces), ("phosphor/regs.mayHave", Rows.laid_phosphor_regs_mayHave), ("phosphor/card.classes", Rows.laid_phosphor_card_classes)]
abbrev laidBus : List (String × DataW Unit) := [("phosphor/region.portPlaces", Rows.laid_phosphor_region_portPlaces), ("phosphor/regs.mayHave", Rows.laid_phosphor_regs_mayHave), ("errors.errorType", Rows.laid_errors_errorType), ("phosphor/card.classes", Rows.laid_phosphor_card_classes)]
theorem Tryz.gTab : Tryz.prog.globalNamed "phosphor/card.classes" = some 2 := by kernel_rfl
theorem Tryz.tTab : (Tryz.prog.globals[2]?).map (·.type) = some 122 := by kernel_rfl
theorem tab_flat : flat Tryz.prog 40 122 Rows.laid_phosphor_card_classes = some tabCells.toList := by kernel_rfl
theorem Tryz.gReg : Tryz.prog.globalNamed "phosphor/region.portPlaces" = some 1 := by kernel_rfl
theorem Tryz.tReg : (Tryz.prog.globals[1]?).map (·.type) = some 25 := by kernel_rfl
theorem reg_flat : flat Tryz.prog 40 25 Rows.laid_phosphor_region_portPlaces = some portCells.toList := by kernel_rfl
theorem Tryz.gMask : Tryz.prog.globalNamed "phosphor/regs.mayHave" = some 3 := by kernel_rfl
theorem Tryz.tMask : (Tryz.prog.globals[3]?).map (·.type) = some 35 := by kernel_rfl
theorem mask_flat : flat Tryz.prog 40 35 Rows.laid_phosphor_regs_mayHave = some maskCells.toList := by kernel_rfl
theorem Tryz.gErr : Tryz.prog.globalNamed "errors.errorType" = some 0 := by kernel_rfl
theorem Tryz.rt : (Tryz.prog.cutTypes.find? (·.1 == "internal/reflectlite.rtype")).map (·.2) = some 141 := by kernel_rfl
theorem Tryz.oneRow : ((List.range 215).filter fun t => Tryz.prog.rowNamed t [101, 114, 114, 111, 114]) = [76] := by kernel_rfl
theorem Tryz.size : Tryz.prog.types.size = 215 := by kernel_rfl
theorem laid_bus {W : World} (h : laidMetH Tryz.prog laidBus W) : Tabs W ∧ HasErr W := by
  have h' : laidMet Tryz.prog laidDatas W ∧ handlesMet Tryz.prog [("errors.errorType", Rows.laid_errors_errorType)] W := h
  constructor
  · obtain ⟨ps, ⟨g, t, cs, fuel, p, q, e1, e2, e3, e4, x, _⟩, _⟩ := h'.1
    refine ⟨?_, ?_, ?_⟩
    · obtain ⟨g, t, cs, fuel, p, q, e1, e2, e3, e4, x, _⟩ := x
      obtain ⟨g, t, cs, fuel, p, q, e1, e2, e3, e4, _, _⟩ := x
      obtain rfl := Option.some.inj (Tryz.gTab.symm.trans e1)
      obtain rfl := Option.some.inj (Tryz.tTab.symm.trans e2)
      have hc := flat_at 40 fuel 122 _ _ _ _ tab_flat e4
      have hc2 : cs = tabCells := Array.toList_inj.1 hc
      subst hc2
      simp only [World.var?, Tryz.gTab, Option.bind_some] at e3
      split at e3
      · rename_i cs' t' fr hh
        obtain rfl := Option.some.inj e3
        exact ⟨t', fr, hh⟩
      · cases e3
    · clear x
      obtain rfl := Option.some.inj (Tryz.gReg.symm.trans e1)
      obtain rfl := Option.some.inj (Tryz.tReg.symm.trans e2)
      have hc := flat_at 40 fuel 25 _ _ _ _ reg_flat e4
      have hc2 : cs = portCells := Array.toList_inj.1 hc
      subst hc2
      simp only [World.var?, Tryz.gReg, Option.bind_some] at e3
      split at e3
      · rename_i cs' t' fr hh
        obtain rfl := Option.some.inj e3
        exact ⟨t', fr, hh⟩
      · cases e3
    · obtain ⟨g, t, cs, fuel, p, q, e1, e2, e3, e4, x, _⟩ := x
      clear x
      obtain rfl := Option.some.inj (Tryz.gMask.symm.trans e1)
      obtain rfl := Option.some.inj (Tryz.tMask.symm.trans e2)
      have hc := flat_at 40 fuel 35 _ _ _ _ mask_flat e4
      have hc2 : cs = maskCells := Array.toList_inj.1 hc
      subst hc2
      simp only [World.var?, Tryz.gMask, Option.bind_some] at e3
      split at e3
      · rename_i cs' t' fr hh
        obtain rfl := Option.some.inj e3
        exact ⟨t', fr, hh⟩
      · cases e3
  · obtain ⟨name, u, ty, e1, e2, e3, e4, e5⟩ := h'.2 _ (List.mem_singleton.2 rfl)
    have en : name = [101, 114, 114, 111, 114] := (Option.some.inj e1).symm
    subst en
    obtain rfl := Option.some.inj (Tryz.rt.symm.trans e2)
    have hm : ty ∈ (List.range 215).filter fun t => Tryz.prog.rowNamed t [101, 114, 114, 111, 114] := List.mem_filter.2 ⟨List.mem_range.2 (by rw [← Tryz.size]; exact e3), e4⟩
    rw [Tryz.oneRow] at hm
    obtain rfl := List.mem_singleton.1 hm
    have hh : typeHandle Tryz.prog 76 = .pointer (some ⟨4, 76, none⟩) := by kernel_rfl
    rw [hh] at e5
    unfold HasErr
    simpa using World.var?_cell Tryz.gErr e5 0
noncomputable def laidWorld (os : Os) : World :=
  let w0 := World.holding Tryz.prog os ⟨#[], #[], []⟩
  { w0 with heap := (((w0.heap.modify 0 fun
      | .cells _ t frozen => .cells #[.iface 141 (.agg #[.pointer (some ⟨4, 76, none⟩)])] t frozen
      | o => o).modify 2 fun
      | .cells _ t frozen => .cells tabCells t frozen
      | o => o).modify 1 fun
      | .cells _ t frozen => .cells portCells t frozen
      | o => o).modify 3 fun
      | .cells _ t frozen => .cells maskCells t frozen
      | o => o }
theorem laidWorld_bus (os : Os) (args : Array Value) : laidMetH Tryz.prog laidBus ((laidWorld os).forCall (fun _ _ => 0) ⟨#[], args, []⟩).memory :=
  laidMetH_of_parts (laidMet_of_run' 8 (by kernel_rfl) (by kernel_rfl)) (by kernel_rfl)
end Go.Proofs.YthelklkfcllddaaGreatDoor
