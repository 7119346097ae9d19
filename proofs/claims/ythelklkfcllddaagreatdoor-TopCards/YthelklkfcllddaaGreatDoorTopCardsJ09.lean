/- What each function of package bits, and of the document's answer for it, returns: one contract a function. -/
import Derived.Test.YthelklkfcllddaaGreatDoorRows
import Derived.Test.YthelklkfcllddaaGreatDoorTopCardsJ01
import Derived.WalkKit
import Derived.ProofKit
import Derived.Deep.QuietTactic
import Derived.BigQuiet
namespace Go.Proofs.YthelklkfcllddaaGreatDoor
set_option maxRecDepth 20000
open Go.RowKit
theorem byte_any (n : Int) (w : World) :
    Calls Tryz.prog 21 #[.int .i64 n] w fun e w' => e = .returned (.int .i64 (n % 256)) ∧ w' = w := by
  go_enter Tryz.func21, Tryz.ntmps21
  go_wp2
  go_ret
  exact ⟨ret_int (and_255 n), rfl⟩
theorem word_any (n : Int) (w : World) :
    Calls Tryz.prog 20 #[.int .i64 n] w fun e w' => e = .returned (.int .i64 (n % 65536)) ∧ w' = w := by
  go_enter Tryz.func20, Tryz.ntmps20
  go_wp2
  go_ret
  exact ⟨ret_int (and_65535 n), rfl⟩
end Go.Proofs.YthelklkfcllddaaGreatDoor
