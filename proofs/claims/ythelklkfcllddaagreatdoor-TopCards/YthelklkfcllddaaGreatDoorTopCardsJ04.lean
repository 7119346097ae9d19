/- The law's own maker of images: so many bytes, whatever they are. -/
import Derived.Test.YthelklkfcllddaaGreatDoorTopCardsJ01
import Derived.Test.YthelklkfcllddaaGreatDoorProg
import Derived.RegionTactic
import Derived.Deep.RegionLaw
namespace Go.Proofs.YthelklkfcllddaaGreatDoor.C3
set_option maxRecDepth 20000
open Go.RowKit
set_option linter.unusedVariables false
theorem Tryz.info5 : (Tryz.prog.info? 5).map (fun i => (i.zero, i.size, i.bytes)) = some (some (.int .u8 0), 1, 1) := by kernel_rfl
theorem mk_bytes (n : Nat) (hn : n ≤ 281474976710656) (w : World) :
    (Instr.makeSlice 22 (.int .i64 (n : Int)) (.int .i64 (n : Int))).run Tryz.prog w = .ok (.slice (some ⟨w.heap.size, 0, none⟩) n n) (w.alloc (.cells ((List.replicate n (0 : Int)).map (Value.int .u8)).toArray 5)) := by
  obtain ⟨i, hi, hz⟩ := Option.map_eq_some_iff.1 Tryz.info5
  simp only [Prod.mk.injEq] at hz
  exact make_bytes Tryz.underlying22 hi hz.1 hz.2.1 hz.2.2 n hn w
theorem u8_wrap (x : Int) : 0 ≤ IntKind.u8.wrap x ∧ IntKind.u8.wrap x < 256 := by
  have e : IntKind.u8.wrap x = x % 256 := by rfl
  rw [e]; omega
end Go.Proofs.YthelklkfcllddaaGreatDoor.C3
