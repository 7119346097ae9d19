/- Texts without a word of the program, one behind the other. -/
import Derived.Test.YtoijhhbiknhlnaaGreatDoorCpuNobodyJ01
import Derived.Test.YtoijhhbiknhlnaaGreatDoorRows
import Derived.WalkKit
import Derived.ProofKit
import Derived.Deep.QuietTactic
import Derived.BigQuiet
import Derived.Laws.StructEq
import Derived.Laws.Rows
import Derived.Laws.Tables
import Derived.Laws.ResultCell
import Derived.Laws.CopyOwn
import Derived.Deep.Quiet
import Derived.Deep.MidRow
import Derived.BigFrame
import Derived.WalkMore
import Derived.OneCell
import Derived.Handy
namespace Go.Proofs.YtoijhhbiknhlnaaGreatDoor.R15
set_option maxRecDepth 20000
def maskL : List Int := [65535, 65535, 65535, 0, 0, 8191, 1023, 1023, 511, 255, 32543, 32639, 65311, 511, 255, 31, 65535, 65535, 65535, 65535]
end Go.Proofs.YtoijhhbiknhlnaaGreatDoor.R15
namespace Go.Proofs.YtoijhhbiknhlnaaGreatDoor.R15
set_option maxRecDepth 20000
open Go.RowKit
set_option linter.unusedVariables false
end Go.Proofs.YtoijhhbiknhlnaaGreatDoor.R15
namespace Go.Proofs.YtoijhhbiknhlnaaGreatDoor.R15
set_option maxRecDepth 20000
open Go.RowKit
set_option linter.unusedVariables false
def maskCells : Array Value := (maskL.map (Value.int .i64)).toArray
end Go.Proofs.YtoijhhbiknhlnaaGreatDoor.R15
namespace Go.Proofs.YtoijhhbiknhlnaaGreatDoor.R15
set_option maxRecDepth 20000
open Go.RowKit
set_option linter.unusedVariables false
end Go.Proofs.YtoijhhbiknhlnaaGreatDoor.R15
namespace Go.Proofs.YtoijhhbiknhlnaaGreatDoor.R15
set_option maxRecDepth 20000
open Go.RowKit
set_option linter.unusedVariables false
end Go.Proofs.YtoijhhbiknhlnaaGreatDoor.R15
namespace Go.Proofs.YtoijhhbiknhlnaaGreatDoor.R15
set_option maxRecDepth 20000
open Go.RowKit
set_option linter.unusedVariables false
end Go.Proofs.YtoijhhbiknhlnaaGreatDoor.R15
namespace Go.Proofs.YtoijhhbiknhlnaaGreatDoor.R15
set_option maxRecDepth 20000
open Go.RowKit
set_option linter.unusedVariables false
end Go.Proofs.YtoijhhbiknhlnaaGreatDoor.R15
namespace Go.Proofs.YtoijhhbiknhlnaaGreatDoor.R15
set_option maxRecDepth 20000
open Go.RowKit
set_option linter.unusedVariables false
end Go.Proofs.YtoijhhbiknhlnaaGreatDoor.R15
namespace Go.Proofs.YtoijhhbiknhlnaaGreatDoor.R15
set_option maxRecDepth 20000
open Go.RowKit
set_option linter.unusedVariables false
end Go.Proofs.YtoijhhbiknhlnaaGreatDoor.R15
namespace Go.Proofs.YtoijhhbiknhlnaaGreatDoor.R15
set_option maxRecDepth 20000
open Go.RowKit
set_option linter.unusedVariables false
end Go.Proofs.YtoijhhbiknhlnaaGreatDoor.R15
namespace Go.Proofs.YtoijhhbiknhlnaaGreatDoor.R15
set_option maxRecDepth 20000
open Go.RowKit
set_option linter.unusedVariables false
end Go.Proofs.YtoijhhbiknhlnaaGreatDoor.R15
