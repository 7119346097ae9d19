/- Contracts of package region: what stands at a place of the bus, which kinds are slow, which are held. -/
import Derived.Test.YtoijhhbiknhlnaaGreatDoorProg
import Derived.Test.YtoijhhbiknhlnaaGreatDoorCpuNobodyJ01
import Derived.Laws.StructEq
import Derived.Laws.Rows
import Derived.Laws.Tables
import Derived.Laws.ResultCell
import Derived.Laws.CopyOwn
import Derived.WalkMore
import Derived.WalkKit
import Derived.Below
import Derived.OneCell
import Derived.Handy
namespace Go.Proofs.YtoijhhbiknhlnaaGreatDoor.G6
set_option maxRecDepth 20000
open Go.RowKit
set_option linter.unusedVariables false
def portCells : Array Value := #[.int .i64 0, .int .i64 0, .int .i64 4, .int .i64 8, .int .i64 16, .int .i64 2, .int .i64 1, .int .i64 4]
end Go.Proofs.YtoijhhbiknhlnaaGreatDoor.G6
