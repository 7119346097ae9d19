/- The law's own maker of images: so many bytes, whatever they are. -/
import Derived.Test.YtpjhiopmdkieiabGreatDoorGenA
import Derived.Test.YtpjhiopmdkieiabGreatDoorProg
import Derived.RegionTactic
import Derived.Deep.RegionLaw
namespace Go.Proofs.YtpjhiopmdkieiabGreatDoor.C3
open Go.RowKit
set_option linter.unusedVariables false

theorem Tryz.info5 : (Tryz.prog.info? 5).map (fun i => (i.zero, i.size, i.bytes)) = some (some (.int .u8 0), 1, 1) := by kernel_rfl
theorem mk_bytes (n : Nat) (hn : n ≤ 281474976710656) (w : World) :
    (Instr.makeSlice 61 (.int .i64 (n : Int)) (.int .i64 (n : Int))).run Tryz.prog w = .ok (.slice (some ⟨w.heap.size, 0, none⟩) n n) (w.alloc (.cells ((List.replicate n (0 : Int)).map (Value.int .u8)).toArray 5)) := by
  obtain ⟨i, hi, hz⟩ := Option.map_eq_some_iff.1 Tryz.info5
  simp only [Prod.mk.injEq] at hz
  exact make_bytes Tryz.underlying61 hi hz.1 hz.2.1 hz.2.2 n hn w

theorem u8_wrap (x : Int) : 0 ≤ IntKind.u8.wrap x ∧ IntKind.u8.wrap x < 256 := by
  have e : IntKind.u8.wrap x = x % 256 := by rfl
  rw [e]; omega
theorem u8_xor (x y : Int) : 0 ≤ bits .xor .u8 x y ∧ bits .xor .u8 x y < 256 := by
  unfold bits; exact u8_wrap _

end Go.Proofs.YtpjhiopmdkieiabGreatDoor.C3
