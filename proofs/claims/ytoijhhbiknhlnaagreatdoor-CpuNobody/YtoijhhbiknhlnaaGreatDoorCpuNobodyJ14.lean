/- The program's processor: a step that is being done, by its cells and its state. -/
import Derived.Test.YtoijhhbiknhlnaaGreatDoorCpuNobodyJ02
import Derived.Test.YtoijhhbiknhlnaaGreatDoorRows
import Derived.Test.YtoijhhbiknhlnaaGreatDoorCpuNobodyJ01
import Derived.WalkKit
import Derived.ProofKit
import Derived.Deep.QuietTactic
import Derived.BigQuiet
import Derived.Test.YtoijhhbiknhlnaaGreatDoorCpuNobodyJ03
import Derived.Test.YtoijhhbiknhlnaaGreatDoorCpuNobodyJ04
import Derived.Test.YtoijhhbiknhlnaaGreatDoorCpuNobodyJ05
import Derived.Test.YtoijhhbiknhlnaaGreatDoorCpuNobodyJ06
import Derived.Test.YtoijhhbiknhlnaaGreatDoorProg
import Derived.WalkMore
import Derived.Below
import Derived.OneCell
import Derived.Handy
import Derived.Deep.CutRange
import Derived.Test.YtoijhhbiknhlnaaGreatDoorCpuNobodyJ07
import Derived.RegionTactic
import Derived.Deep.RegionLaw
import Derived.Laws.CopyOwn
import Derived.Stop.Asserts
import Derived.Laws.StructEq
import Derived.Laws.Rows
import Derived.Laws.Tables
import Derived.Laws.ResultCell
import Derived.Test.YtoijhhbiknhlnaaGreatDoorCpuNobodyJ08
import Derived.Deep.Quiet
import Derived.BigFrame
import Derived.Test.YtoijhhbiknhlnaaGreatDoorCpuNobodyJ13
import Derived.Test.YtoijhhbiknhlnaaGreatDoorCpuNobodyJ10
namespace Go.Proofs.YtoijhhbiknhlnaaGreatDoor.L25
set_option maxRecDepth 20000
open C3 G6 I11 K9 L24 R15 W13
open Go.RowKit
set_option linter.unusedVariables false
def vidCells : Array Value := #[.int .i64 2088960, .int .i64 2088962, .int .i64 2088963]
def kindCells : Array Value := #[.string ⟨#[84, 73, 73]⟩, .string ⟨#[84, 68, 68]⟩, .string ⟨#[84, 73, 78]⟩, .string ⟨#[84, 73, 65]⟩, .string ⟨#[84, 65, 73]⟩]
end Go.Proofs.YtoijhhbiknhlnaaGreatDoor.L25
