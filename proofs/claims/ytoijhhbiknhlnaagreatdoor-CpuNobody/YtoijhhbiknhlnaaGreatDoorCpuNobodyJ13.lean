/- Package dma: the contracts of going, of the closure that it makes, and of Move. -/
import Derived.Test.YtoijhhbiknhlnaaGreatDoorCpuNobodyJ06
import Derived.Test.YtoijhhbiknhlnaaGreatDoorCpuNobodyJ01
namespace Go.Proofs.YtoijhhbiknhlnaaGreatDoor.W13
set_option maxRecDepth 20000
open Go.RowKit
set_option linter.unusedVariables false
theorem under_name {P : Program} {c : Code} {Q : Exit → Act → World → Prop} {a : Act} {w : World} (h : ∀ wa, wa = w → Code.wp P c Q a wa) : Code.wp P c Q a w := h w rfl
end Go.Proofs.YtoijhhbiknhlnaaGreatDoor.W13
