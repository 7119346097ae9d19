/- Package regs: the contract of Fresh. -/
import Derived.Test.YtbgbedkmggefpaaDoorRegs15
namespace Go.Proofs.YtbgbedkmggefpaaDoor
open Go.RowKit
set_option linter.unusedVariables false

theorem fresh_any (w : World) : Calls Tryd.prog 18 #[] w fun e w' => e = .returned (.agg (rowG 0 (fun _ => 0))) ∧ Below w.heap.size w w' := by
  have Z0 := hide (show (w.alloc (.cells #[.int .i64 0, .int .i64 0, .int .i64 0, .int .i64 0, .int .i64 0, .int .i64 0, .int .i64 0, .int .i64 0, .int .i64 0, .int .i64 0, .int .i64 0, .int .i64 0, .int .i64 0, .int .i64 0, .int .i64 0, .int .i64 0, .int .i64 0, .int .i64 0, .int .i64 0, .int .i64 0, .int .i64 0] 24)).heap[w.heap.size]? = some (.cells #[.int .i64 0, .int .i64 0, .int .i64 0, .int .i64 0, .int .i64 0, .int .i64 0, .int .i64 0, .int .i64 0, .int .i64 0, .int .i64 0, .int .i64 0, .int .i64 0, .int .i64 0, .int .i64 0, .int .i64 0, .int .i64 0, .int .i64 0, .int .i64 0, .int .i64 0, .int .i64 0, .int .i64 0] 24 (0, 0)) from heap_alloc_new _ _)
  rw [← zero_lit]
  go_enter Tryd.func18, Tryd.ntmps18
  go_wp2_with (first
    | (refine wpList_store_row rfl 24 (.tmp 0) (.tmp 1) rfl w.heap.size _ rfl rfl 24 _ Z0.out (by kernel_rfl) rfl (by kernel_rfl) ?_)
    | (refine bodyPost_ret (results_cell_row rfl _ _ w.heap.size 24 _ (0, 0) _ rfl (setRow_heap _ _ _ _ _ _ Z0.out) Tryd.underlying24 rfl (by kernel_rfl)) rfl ⟨rfl, below_setRow ((Below.refl _ w).alloc (Nat.le_refl _) _) (Nat.le_refl _) _⟩))
end Go.Proofs.YtbgbedkmggefpaaDoor
