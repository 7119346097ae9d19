/- Texts without a word of the program, one behind the other. -/
import Derived.Test.YthelklkfcllddaaGreatDoorRows
import Derived.Laws.StructEq
import Derived.Laws.Rows
import Derived.Laws.Tables
import Derived.Laws.ResultCell
import Derived.Laws.CopyOwn
import Derived.RegionTactic
import Derived.LaidEql
import Derived.WalkMore
import Derived.WalkKit
import Derived.Below
import Derived.OneCell
import Derived.Handy
import Derived.Test.YthelklkfcllddaaGreatDoorTopCardsJ09
namespace Go.Proofs.YthelklkfcllddaaGreatDoor.I11
set_option maxRecDepth 20000
end Go.Proofs.YthelklkfcllddaaGreatDoor.I11
namespace Go.Proofs.YthelklkfcllddaaGreatDoor.I11
set_option maxRecDepth 20000
open Go.RowKit
set_option linter.unusedVariables false
def HasS (w : World) (b : Nat) (m l : Int) : Prop := w.heap[b]? = some (.cells #[.int .i64 m, .int .i64 l] 56 (0, 0))
theorem HasS.next {w w' : World} {b : Nat} {m l : Int} (h : HasS w b m l) (k : Below w.heap.size w w') : HasS w' b m l := (k.block b (lt_of_block h)).trans h
theorem HasS.alloc {w : World} {b : Nat} {m l : Int} (h : HasS w b m l) (x : Obj) : HasS (w.alloc x) b m l := h.next ((Below.refl _ w).alloc (Nat.le_refl _) _)
theorem HasS.lt {w : World} {b : Nat} {m l : Int} (h : HasS w b m l) : b < w.heap.size := lt_of_block h
theorem HasS.c0 {w : World} {b : Nat} {m l : Int} (h : HasS w b m l) : w.cell? ⟨b, 0, none⟩ = some (.int .i64 m) := (cell_of_row w b 0 _ _ _ h).trans rfl
theorem HasS.c1 {w : World} {b : Nat} {m l : Int} (h : HasS w b m l) : w.cell? ⟨b, 1, none⟩ = some (.int .i64 l) := (cell_of_row w b 1 _ _ _ h).trans rfl
end Go.Proofs.YthelklkfcllddaaGreatDoor.I11
namespace Go.Proofs.YthelklkfcllddaaGreatDoor.I11
set_option maxRecDepth 20000
open Go.RowKit
set_option linter.unusedVariables false
end Go.Proofs.YthelklkfcllddaaGreatDoor.I11
namespace Go.Proofs.YthelklkfcllddaaGreatDoor.I11
set_option maxRecDepth 20000
open Go.RowKit
set_option linter.unusedVariables false
end Go.Proofs.YthelklkfcllddaaGreatDoor.I11
