/- Texts without a word of the program, one behind the other. -/
import Derived.Test.YtoijhhbiknhlnaaGreatDoorRows
import Derived.Laws.StructEq
import Derived.Laws.Rows
import Derived.Laws.Tables
import Derived.Laws.ResultCell
import Derived.Laws.CopyOwn
import Derived.RegionTactic
import Derived.LaidEql
import Derived.WalkMore
import Derived.WalkKit
import Derived.Below
import Derived.OneCell
import Derived.Handy
import Derived.Test.YtoijhhbiknhlnaaGreatDoorCpuNobodyJ01
import Derived.ProofKit
import Derived.Deep.QuietTactic
import Derived.BigQuiet
namespace Go.Proofs.YtoijhhbiknhlnaaGreatDoor.I11
set_option maxRecDepth 20000
end Go.Proofs.YtoijhhbiknhlnaaGreatDoor.I11
namespace Go.Proofs.YtoijhhbiknhlnaaGreatDoor.I11
set_option maxRecDepth 20000
open Go.RowKit
set_option linter.unusedVariables false
end Go.Proofs.YtoijhhbiknhlnaaGreatDoor.I11
namespace Go.Proofs.YtoijhhbiknhlnaaGreatDoor.I11
set_option maxRecDepth 20000
open Go.RowKit
set_option linter.unusedVariables false
def vecCells : Array Value := #[.int .i64 4, .int .i64 65530, .int .i64 2, .int .i64 65528, .int .i64 1, .int .i64 65526]
end Go.Proofs.YtoijhhbiknhlnaaGreatDoor.I11
namespace Go.Proofs.YtoijhhbiknhlnaaGreatDoor.I11
set_option maxRecDepth 20000
open Go.RowKit
set_option linter.unusedVariables false
end Go.Proofs.YtoijhhbiknhlnaaGreatDoor.I11
