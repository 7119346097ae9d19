/-
  DERIVED. GIVEN WITH THE SEED: THE PROGRAM's TIES (one call each: nine closed facts by the kernel) AND EACH ROW's TIE, after the 31st guide's Derived/Test/Toyas{Tie, Card}.lean. No idea stands in it: it is a product of the set-up. Laid BY PROGRAM, IN A SANDBOX (cutbox-door.mjs). By AI agents, Wed Nov 11 2026. No macro, syntax, notation, axiom, sorry.
-/
import Derived.Test.YtoijhhbiknhlnaaGreatDoorRows
import Derived.LaidByTextLater
import Derived.SevenTiedAt
import Derived.LaidSub
import Derived.LaidOnce
namespace Go.Proofs.YtoijhhbiknhlnaaGreatDoor
open Go
set_option maxRecDepth 100000
theorem seatTie1 : Tryz.prog.laidByTextLater [("phosphor/block.names", Rows.laid_phosphor_block_names), ("phosphor/block.paths", Rows.laid_phosphor_block_paths), ("phosphor/region.portPlaces", Rows.laid_phosphor_region_portPlaces), ("phosphor/regs.mayHave", Rows.laid_phosphor_regs_mayHave), ("errors.errorType", Rows.laid_errors_errorType), ("phosphor/card.classes", Rows.laid_phosphor_card_classes), ("phosphor/irq.vectors", Rows.laid_phosphor_irq_vectors), ("phosphor/cpu.videoPorts", Rows.laid_phosphor_cpu_videoPorts)] [.data, .data, .data, .data, .handle, .data, .data, .data] true :=
  Program.laidByTextLater_by_one 70 8 23 (by kernel_rfl) (by kernel_rfl) (by kernel_rfl) (by kernel_rfl) (by kernel_rfl) (by kernel_rfl) (fun _ _ => by kernel_rfl)
theorem noOwnUnsafe : Tryz.pinned.checked.prog.headLifts.contains "ownunsafe" = false := by kernel_rfl
theorem tie : Tryz.prog.laidByTextLater [("phosphor/block.names", Rows.laid_phosphor_block_names), ("phosphor/block.paths", Rows.laid_phosphor_block_paths), ("phosphor/region.portPlaces", Rows.laid_phosphor_region_portPlaces), ("phosphor/regs.mayHave", Rows.laid_phosphor_regs_mayHave), ("phosphor/card.classes", Rows.laid_phosphor_card_classes), ("phosphor/irq.vectors", Rows.laid_phosphor_irq_vectors), ("phosphor/cpu.videoPorts", Rows.laid_phosphor_cpu_videoPorts)] [.data, .data, .data, .data, .data, .data, .data] true :=
  Program.laidByTextLater.sub seatTie1 ["phosphor/block.names", "phosphor/block.paths", "phosphor/region.portPlaces", "phosphor/regs.mayHave", "phosphor/card.classes", "phosphor/irq.vectors", "phosphor/cpu.videoPorts"] (by kernel_rfl) (by kernel_rfl)
theorem cpuNobody_row_tie : Rows.cpuNobodyRow.laidByTextAt .later Tryz.pinned [.data, .data, .data, .data, .data, .data, .data] true :=
  OpenClaim.laidByTextAt_later rfl rfl tie noOwnUnsafe
theorem tie2 : Tryz.prog.laidByTextLater [("phosphor/block.names", Rows.laid_phosphor_block_names), ("phosphor/block.paths", Rows.laid_phosphor_block_paths), ("phosphor/region.portPlaces", Rows.laid_phosphor_region_portPlaces), ("phosphor/regs.mayHave", Rows.laid_phosphor_regs_mayHave), ("errors.errorType", Rows.laid_errors_errorType), ("phosphor/card.classes", Rows.laid_phosphor_card_classes), ("phosphor/irq.vectors", Rows.laid_phosphor_irq_vectors), ("phosphor/cpu.videoPorts", Rows.laid_phosphor_cpu_videoPorts)] [.data, .data, .data, .data, .handle, .data, .data, .data] true :=
  Program.laidByTextLater.sub seatTie1 ["phosphor/block.names", "phosphor/block.paths", "phosphor/region.portPlaces", "phosphor/regs.mayHave", "errors.errorType", "phosphor/card.classes", "phosphor/irq.vectors", "phosphor/cpu.videoPorts"] (by kernel_rfl) (by kernel_rfl)
theorem cpuSums_row_tie : Rows.cpuSumsRow.laidByTextAt .later Tryz.pinned [.data, .data, .data, .data, .handle, .data, .data, .data] true :=
  OpenClaim.laidByTextAt_later rfl rfl tie2 noOwnUnsafe
theorem cpuCalls_row_tie : Rows.cpuCallsRow.laidByTextAt .later Tryz.pinned [.data, .data, .data, .data, .handle, .data, .data, .data] true :=
  OpenClaim.laidByTextAt_later rfl rfl tie2 noOwnUnsafe
theorem cpuMoves_row_tie : Rows.cpuMovesRow.laidByTextAt .later Tryz.pinned [.data, .data, .data, .data, .handle, .data, .data, .data] true :=
  OpenClaim.laidByTextAt_later rfl rfl tie2 noOwnUnsafe
theorem cpuTakes_row_tie : Rows.cpuTakesRow.laidByTextAt .later Tryz.pinned [.data, .data, .data, .data, .handle, .data, .data, .data] true :=
  OpenClaim.laidByTextAt_later rfl rfl tie2 noOwnUnsafe
theorem cpuBranches_row_tie : Rows.cpuBranchesRow.laidByTextAt .later Tryz.pinned [.data, .data, .data, .data, .handle, .data, .data, .data] true :=
  OpenClaim.laidByTextAt_later rfl rfl tie2 noOwnUnsafe
theorem cpuBits_row_tie : Rows.cpuBitsRow.laidByTextAt .later Tryz.pinned [.data, .data, .data, .data, .handle, .data, .data, .data] true :=
  OpenClaim.laidByTextAt_later rfl rfl tie2 noOwnUnsafe
theorem cpuCounts_row_tie : Rows.cpuCountsRow.laidByTextAt .later Tryz.pinned [.data, .data, .data, .data, .handle, .data, .data, .data] true :=
  OpenClaim.laidByTextAt_later rfl rfl tie2 noOwnUnsafe
theorem cpuSpeeds_row_tie : Rows.cpuSpeedsRow.laidByTextAt .later Tryz.pinned [.data, .data, .data, .data, .handle, .data, .data, .data] true :=
  OpenClaim.laidByTextAt_later rfl rfl tie2 noOwnUnsafe
theorem cpuPicture_row_tie : Rows.cpuPictureRow.laidByTextAt .later Tryz.pinned [.data, .data, .data, .data, .handle, .data, .data, .data] true :=
  OpenClaim.laidByTextAt_later rfl rfl tie2 noOwnUnsafe
theorem cpuNobodyUpto_row_tie : Rows.cpuNobodyUptoRow.laidByTextAt .later Tryz.pinned [.data, .data, .data, .data, .data, .data, .data] true :=
  OpenClaim.laidByTextAt_later rfl rfl tie noOwnUnsafe
theorem cpuSumsUpto_row_tie : Rows.cpuSumsUptoRow.laidByTextAt .later Tryz.pinned [.data, .data, .data, .data, .handle, .data, .data, .data] true :=
  OpenClaim.laidByTextAt_later rfl rfl tie2 noOwnUnsafe
theorem cpuCallsUpto_row_tie : Rows.cpuCallsUptoRow.laidByTextAt .later Tryz.pinned [.data, .data, .data, .data, .handle, .data, .data, .data] true :=
  OpenClaim.laidByTextAt_later rfl rfl tie2 noOwnUnsafe
theorem cpuMovesUpto_row_tie : Rows.cpuMovesUptoRow.laidByTextAt .later Tryz.pinned [.data, .data, .data, .data, .handle, .data, .data, .data] true :=
  OpenClaim.laidByTextAt_later rfl rfl tie2 noOwnUnsafe
theorem cpuTakesUpto_row_tie : Rows.cpuTakesUptoRow.laidByTextAt .later Tryz.pinned [.data, .data, .data, .data, .handle, .data, .data, .data] true :=
  OpenClaim.laidByTextAt_later rfl rfl tie2 noOwnUnsafe
theorem cpuBranchesUpto_row_tie : Rows.cpuBranchesUptoRow.laidByTextAt .later Tryz.pinned [.data, .data, .data, .data, .handle, .data, .data, .data] true :=
  OpenClaim.laidByTextAt_later rfl rfl tie2 noOwnUnsafe
theorem cpuBitsUpto_row_tie : Rows.cpuBitsUptoRow.laidByTextAt .later Tryz.pinned [.data, .data, .data, .data, .handle, .data, .data, .data] true :=
  OpenClaim.laidByTextAt_later rfl rfl tie2 noOwnUnsafe
theorem cpuCountsUpto_row_tie : Rows.cpuCountsUptoRow.laidByTextAt .later Tryz.pinned [.data, .data, .data, .data, .handle, .data, .data, .data] true :=
  OpenClaim.laidByTextAt_later rfl rfl tie2 noOwnUnsafe
theorem cpuSpeedsUpto_row_tie : Rows.cpuSpeedsUptoRow.laidByTextAt .later Tryz.pinned [.data, .data, .data, .data, .handle, .data, .data, .data] true :=
  OpenClaim.laidByTextAt_later rfl rfl tie2 noOwnUnsafe
theorem cpuPictureUpto_row_tie : Rows.cpuPictureUptoRow.laidByTextAt .later Tryz.pinned [.data, .data, .data, .data, .handle, .data, .data, .data] true :=
  OpenClaim.laidByTextAt_later rfl rfl tie2 noOwnUnsafe
end Go.Proofs.YtoijhhbiknhlnaaGreatDoor
