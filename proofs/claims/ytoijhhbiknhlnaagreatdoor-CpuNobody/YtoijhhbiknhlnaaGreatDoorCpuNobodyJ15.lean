/- What the rows' list of eight variables gives a walk: the seven tables' cells, the handle of the type error; and a world that meets it (the witness). -/
import Derived.Test.YtoijhhbiknhlnaaGreatDoorRows
import Derived.Test.YtoijhhbiknhlnaaGreatDoorCpuNobodyJ03
import Derived.Stop.Asserts
import Derived.Test.YtoijhhbiknhlnaaGreatDoorCpuNobodyJ01
import Derived.Test.YtoijhhbiknhlnaaGreatDoorProg
import Derived.RegionTactic
import Derived.Deep.RegionLaw
import Derived.Laws.CopyOwn
import Derived.Test.YtoijhhbiknhlnaaGreatDoorCpuNobodyJ04
import Derived.Test.YtoijhhbiknhlnaaGreatDoorCpuNobodyJ05
import Derived.Test.YtoijhhbiknhlnaaGreatDoorCpuNobodyJ02
import Derived.WalkKit
import Derived.ProofKit
import Derived.Deep.QuietTactic
import Derived.BigQuiet
import Derived.Test.YtoijhhbiknhlnaaGreatDoorCpuNobodyJ06
import Derived.Test.YtoijhhbiknhlnaaGreatDoorCpuNobodyJ14
import Derived.ChangeSame
import Derived.ChangeVars
import Derived.JoinedOf
import Derived.RowKit
import Derived.RowKitTokens
import Derived.LaidLaws
import Derived.LaidHandle
import Derived.Stop.Joined
namespace Go.Proofs.YtoijhhbiknhlnaaGreatDoor
set_option maxRecDepth 20000
open C3 G6 I11 K9 L24 L25 R15 W13
open Go.ChangeShapes Go.WideShapes Go.RowKit
set_option linter.unusedVariables false
abbrev laidDatas : List (String × DataW Unit) := [("phosphor/block.names", Rows.laid_phosphor_block_names), ("phosphor/block.paths", Rows.laid_phosphor_block_paths), ("phosphor/region.portPlaces", Rows.laid_phosphor_region_portPlaces), ("phosphor/regs.mayHave", Rows.laid_phosphor_regs_mayHave), ("phosphor/card.classes", Rows.laid_phosphor_card_classes), ("phosphor/irq.vectors", Rows.laid_phosphor_irq_vectors), ("phosphor/cpu.videoPorts", Rows.laid_phosphor_cpu_videoPorts)]
noncomputable def laidWorld (os : Os) : World :=
  let w0 := World.holding Tryz.prog os ⟨#[], #[], []⟩
  { w0 with heap := (((((((w0.heap.modify 4 fun
      | .cells _ t frozen => .cells #[.iface 250 (.agg #[.pointer (some ⟨8, 174, none⟩)])] t frozen
      | o => o).modify 2 fun
      | .cells _ t frozen => .cells kindCells t frozen
      | o => o).modify 3 fun
      | .cells _ t frozen => .cells pathCells t frozen
      | o => o).modify 5 fun
      | .cells _ t frozen => .cells portCells t frozen
      | o => o).modify 7 fun
      | .cells _ t frozen => .cells maskCells t frozen
      | o => o).modify 6 fun
      | .cells _ t frozen => .cells tabCells t frozen
      | o => o).modify 0 fun
      | .cells _ t frozen => .cells vecCells t frozen
      | o => o).modify 1 fun
      | .cells _ t frozen => .cells vidCells t frozen
      | o => o }
end Go.Proofs.YtoijhhbiknhlnaaGreatDoor
