/- What the rows' lists of variables give a walk: the table's cells, the handle of the type error; and a world that meets them (the witness). -/
import Derived.Test.YthelklkfcllddaaGreatDoorRows
import Derived.Test.YthelklkfcllddaaGreatDoorTopCardsJ05
import Derived.Test.YthelklkfcllddaaGreatDoorTopCardsJ01
import Derived.ChangeSame
import Derived.ChangeVars
import Derived.JoinedOf
import Derived.RowKit
import Derived.RowKitTokens
import Derived.LaidLaws
import Derived.LaidHandle
import Derived.Stop.Joined
namespace Go.Proofs.YthelklkfcllddaaGreatDoor.C3
set_option maxRecDepth 20000
open Go.ChangeShapes Go.WideShapes Go.RowKit
set_option linter.unusedVariables false
theorem Tryz.gTab : Tryz.prog.globalNamed "phosphor/card.classes" = some 2 := by kernel_rfl
theorem Tryz.gErr : Tryz.prog.globalNamed "errors.errorType" = some 0 := by kernel_rfl
theorem Tryz.tTab : (Tryz.prog.globals[2]?).map (·.type) = some 122 := by kernel_rfl
theorem Tryz.rt : (Tryz.prog.cutTypes.find? (·.1 == "internal/reflectlite.rtype")).map (·.2) = some 141 := by kernel_rfl
theorem Tryz.oneRow : ((List.range 215).filter fun t => Tryz.prog.rowNamed t [101, 114, 114, 111, 114]) = [76] := by kernel_rfl
theorem Tryz.size : Tryz.prog.types.size = 215 := by kernel_rfl
theorem tab_flat : flat Tryz.prog 40 122 Rows.laid_phosphor_card_classes = some tabCells.toList := by kernel_rfl
noncomputable def laidWorld (os : Os) : World :=
  let w0 := World.holding Tryz.prog os ⟨#[], #[], []⟩
  { w0 with heap := (w0.heap.modify 0 fun
      | .cells _ t frozen => .cells #[.iface 141 (.agg #[.pointer (some ⟨4, 76, none⟩)])] t frozen
      | o => o).modify 2 fun
      | .cells _ t frozen => .cells tabCells t frozen
      | o => o }
end Go.Proofs.YthelklkfcllddaaGreatDoor.C3
