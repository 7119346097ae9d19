/-
  DERIVED. GIVEN WITH THE SEED: THE PROGRAM's TIES (one call each: nine closed facts by the kernel) AND EACH ROW's TIE, after the 31st guide's Derived/Test/Toyas{Tie, Card}.lean. No idea stands in it: it is a product of the set-up. Laid BY PROGRAM, IN A SANDBOX (cutbox-door.mjs). By AI agents, Wed Nov 11 2026. No macro, syntax, notation, axiom, sorry.
-/
import Derived.Test.YtdiidjehdginnaaGreatDoorRows
import Derived.LaidByTextLater
import Derived.SevenTiedAt
import Derived.LaidSub
import Derived.LaidOnce
namespace Go.Proofs.YtdiidjehdginnaaGreatDoor
open Go
set_option maxRecDepth 100000
theorem seatTie1 : Tryz.prog.laidByTextLater [("phosphor/block.names", Rows.laid_phosphor_block_names), ("phosphor/block.paths", Rows.laid_phosphor_block_paths), ("phosphor/region.portPlaces", Rows.laid_phosphor_region_portPlaces), ("phosphor/regs.mayHave", Rows.laid_phosphor_regs_mayHave), ("phosphor/volume.levels", Rows.laid_phosphor_volume_levels), ("errors.errorType", Rows.laid_errors_errorType), ("phosphor/card.classes", Rows.laid_phosphor_card_classes), ("phosphor/irq.vectors", Rows.laid_phosphor_irq_vectors), ("phosphor/cpu.videoPorts", Rows.laid_phosphor_cpu_videoPorts), ("phosphor/sprites.heights", Rows.laid_phosphor_sprites_heights)] [.data, .data, .data, .data, .data, .handle, .data, .data, .data, .data] true :=
  Program.laidByTextLater_by_one 80 8 33 (by kernel_rfl) (by kernel_rfl) (by kernel_rfl) (by kernel_rfl) (by kernel_rfl) (by kernel_rfl) (fun _ _ => by kernel_rfl)
theorem noOwnUnsafe : Tryz.pinned.checked.prog.headLifts.contains "ownunsafe" = false := by kernel_rfl
theorem tie : Tryz.prog.laidByTextLater [("phosphor/block.names", Rows.laid_phosphor_block_names), ("phosphor/block.paths", Rows.laid_phosphor_block_paths), ("phosphor/region.portPlaces", Rows.laid_phosphor_region_portPlaces), ("phosphor/regs.mayHave", Rows.laid_phosphor_regs_mayHave), ("phosphor/volume.levels", Rows.laid_phosphor_volume_levels), ("errors.errorType", Rows.laid_errors_errorType), ("phosphor/card.classes", Rows.laid_phosphor_card_classes), ("phosphor/irq.vectors", Rows.laid_phosphor_irq_vectors), ("phosphor/cpu.videoPorts", Rows.laid_phosphor_cpu_videoPorts), ("phosphor/sprites.heights", Rows.laid_phosphor_sprites_heights)] [.data, .data, .data, .data, .data, .handle, .data, .data, .data, .data] true :=
  Program.laidByTextLater.sub seatTie1 ["phosphor/block.names", "phosphor/block.paths", "phosphor/region.portPlaces", "phosphor/regs.mayHave", "phosphor/volume.levels", "errors.errorType", "phosphor/card.classes", "phosphor/irq.vectors", "phosphor/cpu.videoPorts", "phosphor/sprites.heights"] (by kernel_rfl) (by kernel_rfl)
theorem consoleCounts_row_tie : Rows.consoleCountsRow.laidByTextAt .later Tryz.pinned [.data, .data, .data, .data, .data, .handle, .data, .data, .data, .data] true :=
  OpenClaim.laidByTextAt_later rfl rfl tie noOwnUnsafe
theorem consoleCountsUpto_row_tie : Rows.consoleCountsUptoRow.laidByTextAt .later Tryz.pinned [.data, .data, .data, .data, .data, .handle, .data, .data, .data, .data] true :=
  OpenClaim.laidByTextAt_later rfl rfl tie noOwnUnsafe
end Go.Proofs.YtdiidjehdginnaaGreatDoor
