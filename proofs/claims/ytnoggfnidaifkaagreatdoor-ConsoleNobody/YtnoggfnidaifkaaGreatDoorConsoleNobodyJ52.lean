/- What the rows' list of ten variables gives a walk: the seven tables' cells, the handle of the type error; and a world that meets it (the witness). -/
import Derived.Test.YtnoggfnidaifkaaGreatDoorRows
import Derived.Test.YtnoggfnidaifkaaGreatDoorConsoleNobodyJ16
import Derived.Test.YtnoggfnidaifkaaGreatDoorConsoleNobodyJ04
import Derived.Test.YtnoggfnidaifkaaGreatDoorConsoleNobodyJ05
import Derived.Test.YtnoggfnidaifkaaGreatDoorConsoleNobodyJ07
import Derived.Test.YtnoggfnidaifkaaGreatDoorConsoleNobodyJ27
import Derived.Test.YtnoggfnidaifkaaGreatDoorConsoleNobodyJ01
import Derived.ChangeSame
import Derived.ChangeVars
import Derived.JoinedOf
import Derived.RowKit
import Derived.RowKitTokens
import Derived.LaidLaws
import Derived.LaidHandle
import Derived.Stop.Joined
namespace Go.Proofs.YtnoggfnidaifkaaGreatDoor
set_option maxRecDepth 20000
open B4 C3 G6 I11 J23 K9 L24 L25 M5 N8 P22 R15 T10 V12 W13
open Go.ChangeShapes Go.WideShapes Go.RowKit
set_option linter.unusedVariables false
abbrev laidDatas : List (String × DataW Unit) := [("phosphor/block.names", Rows.laid_phosphor_block_names), ("phosphor/block.paths", Rows.laid_phosphor_block_paths), ("phosphor/region.portPlaces", Rows.laid_phosphor_region_portPlaces), ("phosphor/regs.mayHave", Rows.laid_phosphor_regs_mayHave), ("phosphor/volume.levels", Rows.laid_phosphor_volume_levels), ("phosphor/card.classes", Rows.laid_phosphor_card_classes), ("phosphor/irq.vectors", Rows.laid_phosphor_irq_vectors), ("phosphor/cpu.videoPorts", Rows.laid_phosphor_cpu_videoPorts), ("phosphor/sprites.heights", Rows.laid_phosphor_sprites_heights)]
abbrev laidCon : List (String × DataW Unit) := [("phosphor/block.names", Rows.laid_phosphor_block_names), ("phosphor/block.paths", Rows.laid_phosphor_block_paths), ("phosphor/region.portPlaces", Rows.laid_phosphor_region_portPlaces), ("phosphor/regs.mayHave", Rows.laid_phosphor_regs_mayHave), ("phosphor/volume.levels", Rows.laid_phosphor_volume_levels), ("errors.errorType", Rows.laid_errors_errorType), ("phosphor/card.classes", Rows.laid_phosphor_card_classes), ("phosphor/irq.vectors", Rows.laid_phosphor_irq_vectors), ("phosphor/cpu.videoPorts", Rows.laid_phosphor_cpu_videoPorts), ("phosphor/sprites.heights", Rows.laid_phosphor_sprites_heights)]
theorem Tryz.gNames : Tryz.prog.globalNamed "phosphor/block.names" = some 7 := by kernel_rfl
theorem Tryz.tNames : (Tryz.prog.globals[7]?).map (·.type) = some 344 := by kernel_rfl
theorem names_flat : flat Tryz.prog 40 344 Rows.laid_phosphor_block_names = some kindCells.toList := by kernel_rfl
theorem Tryz.gPaths : Tryz.prog.globalNamed "phosphor/block.paths" = some 8 := by kernel_rfl
theorem Tryz.tPaths : (Tryz.prog.globals[8]?).map (·.type) = some 345 := by kernel_rfl
theorem paths_flat : flat Tryz.prog 40 345 Rows.laid_phosphor_block_paths = some pathCells.toList := by kernel_rfl
theorem Tryz.gReg : Tryz.prog.globalNamed "phosphor/region.portPlaces" = some 5 := by kernel_rfl
theorem Tryz.tReg : (Tryz.prog.globals[5]?).map (·.type) = some 49 := by kernel_rfl
theorem reg_flat : flat Tryz.prog 40 49 Rows.laid_phosphor_region_portPlaces = some portCells.toList := by kernel_rfl
theorem Tryz.gMask : Tryz.prog.globalNamed "phosphor/regs.mayHave" = some 2 := by kernel_rfl
theorem Tryz.tMask : (Tryz.prog.globals[2]?).map (·.type) = some 41 := by kernel_rfl
theorem mask_flat : flat Tryz.prog 40 41 Rows.laid_phosphor_regs_mayHave = some maskCells.toList := by kernel_rfl
theorem Tryz.gTab : Tryz.prog.globalNamed "phosphor/card.classes" = some 1 := by kernel_rfl
theorem Tryz.tTab : (Tryz.prog.globals[1]?).map (·.type) = some 230 := by kernel_rfl
theorem tab_flat : flat Tryz.prog 40 230 Rows.laid_phosphor_card_classes = some tabCells.toList := by kernel_rfl
theorem Tryz.gVec : Tryz.prog.globalNamed "phosphor/irq.vectors" = some 3 := by kernel_rfl
theorem Tryz.tVec : (Tryz.prog.globals[3]?).map (·.type) = some 278 := by kernel_rfl
theorem vec_flat : flat Tryz.prog 40 278 Rows.laid_phosphor_irq_vectors = some vecCells.toList := by kernel_rfl
theorem Tryz.gVid : Tryz.prog.globalNamed "phosphor/cpu.videoPorts" = some 4 := by kernel_rfl
theorem Tryz.tVid : (Tryz.prog.globals[4]?).map (·.type) = some 291 := by kernel_rfl
theorem vid_flat : flat Tryz.prog 40 291 Rows.laid_phosphor_cpu_videoPorts = some vidCells.toList := by kernel_rfl
theorem Tryz.gErr : Tryz.prog.globalNamed "errors.errorType" = some 0 := by kernel_rfl
theorem Tryz.rt : (Tryz.prog.cutTypes.find? (·.1 == "internal/reflectlite.rtype")).map (·.2) = some 216 := by kernel_rfl
theorem Tryz.oneRow : ((List.range 389).filter fun t => Tryz.prog.rowNamed t [101, 114, 114, 111, 114]) = [121] := by kernel_rfl
theorem Tryz.size : Tryz.prog.types.size = 389 := by kernel_rfl
theorem laid_names {W : World} (h : laidMet Tryz.prog laidDatas W) : ∃ t fr, W.heap[7]? = some (.cells kindCells t fr) := by
  obtain ⟨ps, ⟨g, t, cs, fuel, p, q, e1, e2, e3, e4, x, _⟩, _⟩ := h
  clear x
  obtain rfl := Option.some.inj (Tryz.gNames.symm.trans e1)
  obtain rfl := Option.some.inj (Tryz.tNames.symm.trans e2)
  have hc := flat_at 40 fuel 344 _ _ _ _ names_flat e4
  have hc2 : cs = kindCells := Array.toList_inj.1 hc
  subst hc2
  simp only [World.var?, Tryz.gNames, Option.bind_some] at e3
  split at e3
  · rename_i cs' t' fr hh
    obtain rfl := Option.some.inj e3
    exact ⟨t', fr, hh⟩
  · cases e3
theorem laid_paths {W : World} (h : laidMet Tryz.prog laidDatas W) : ∃ t fr, W.heap[8]? = some (.cells pathCells t fr) := by
  obtain ⟨ps, ⟨g, t, cs, fuel, p, q, e1, e2, e3, e4, x, _⟩, _⟩ := h
  obtain ⟨g, t, cs, fuel, p, q, e1, e2, e3, e4, x, _⟩ := x
  clear x
  obtain rfl := Option.some.inj (Tryz.gPaths.symm.trans e1)
  obtain rfl := Option.some.inj (Tryz.tPaths.symm.trans e2)
  have hc := flat_at 40 fuel 345 _ _ _ _ paths_flat e4
  have hc2 : cs = pathCells := Array.toList_inj.1 hc
  subst hc2
  simp only [World.var?, Tryz.gPaths, Option.bind_some] at e3
  split at e3
  · rename_i cs' t' fr hh
    obtain rfl := Option.some.inj e3
    exact ⟨t', fr, hh⟩
  · cases e3
theorem laid_reg {W : World} (h : laidMet Tryz.prog laidDatas W) : ∃ t fr, W.heap[5]? = some (.cells portCells t fr) := by
  obtain ⟨ps, ⟨g, t, cs, fuel, p, q, e1, e2, e3, e4, x, _⟩, _⟩ := h
  obtain ⟨g, t, cs, fuel, p, q, e1, e2, e3, e4, x, _⟩ := x
  obtain ⟨g, t, cs, fuel, p, q, e1, e2, e3, e4, x, _⟩ := x
  clear x
  obtain rfl := Option.some.inj (Tryz.gReg.symm.trans e1)
  obtain rfl := Option.some.inj (Tryz.tReg.symm.trans e2)
  have hc := flat_at 40 fuel 49 _ _ _ _ reg_flat e4
  have hc2 : cs = portCells := Array.toList_inj.1 hc
  subst hc2
  simp only [World.var?, Tryz.gReg, Option.bind_some] at e3
  split at e3
  · rename_i cs' t' fr hh
    obtain rfl := Option.some.inj e3
    exact ⟨t', fr, hh⟩
  · cases e3
theorem laid_mask {W : World} (h : laidMet Tryz.prog laidDatas W) : ∃ t fr, W.heap[2]? = some (.cells maskCells t fr) := by
  obtain ⟨ps, ⟨g, t, cs, fuel, p, q, e1, e2, e3, e4, x, _⟩, _⟩ := h
  obtain ⟨g, t, cs, fuel, p, q, e1, e2, e3, e4, x, _⟩ := x
  obtain ⟨g, t, cs, fuel, p, q, e1, e2, e3, e4, x, _⟩ := x
  obtain ⟨g, t, cs, fuel, p, q, e1, e2, e3, e4, x, _⟩ := x
  clear x
  obtain rfl := Option.some.inj (Tryz.gMask.symm.trans e1)
  obtain rfl := Option.some.inj (Tryz.tMask.symm.trans e2)
  have hc := flat_at 40 fuel 41 _ _ _ _ mask_flat e4
  have hc2 : cs = maskCells := Array.toList_inj.1 hc
  subst hc2
  simp only [World.var?, Tryz.gMask, Option.bind_some] at e3
  split at e3
  · rename_i cs' t' fr hh
    obtain rfl := Option.some.inj e3
    exact ⟨t', fr, hh⟩
  · cases e3
theorem laid_tab {W : World} (h : laidMet Tryz.prog laidDatas W) : ∃ t fr, W.heap[1]? = some (.cells tabCells t fr) := by
  obtain ⟨ps, ⟨g, t, cs, fuel, p, q, e1, e2, e3, e4, x, _⟩, _⟩ := h
  obtain ⟨g, t, cs, fuel, p, q, e1, e2, e3, e4, x, _⟩ := x
  obtain ⟨g, t, cs, fuel, p, q, e1, e2, e3, e4, x, _⟩ := x
  obtain ⟨g, t, cs, fuel, p, q, e1, e2, e3, e4, x, _⟩ := x
  obtain ⟨g, t, cs, fuel, p, q, e1, e2, e3, e4, x, _⟩ := x
  obtain ⟨g, t, cs, fuel, p, q, e1, e2, e3, e4, x, _⟩ := x
  clear x
  obtain rfl := Option.some.inj (Tryz.gTab.symm.trans e1)
  obtain rfl := Option.some.inj (Tryz.tTab.symm.trans e2)
  have hc := flat_at 40 fuel 230 _ _ _ _ tab_flat e4
  have hc2 : cs = tabCells := Array.toList_inj.1 hc
  subst hc2
  simp only [World.var?, Tryz.gTab, Option.bind_some] at e3
  split at e3
  · rename_i cs' t' fr hh
    obtain rfl := Option.some.inj e3
    exact ⟨t', fr, hh⟩
  · cases e3
theorem laid_vec {W : World} (h : laidMet Tryz.prog laidDatas W) : ∃ t fr, W.heap[3]? = some (.cells vecCells t fr) := by
  obtain ⟨ps, ⟨g, t, cs, fuel, p, q, e1, e2, e3, e4, x, _⟩, _⟩ := h
  obtain ⟨g, t, cs, fuel, p, q, e1, e2, e3, e4, x, _⟩ := x
  obtain ⟨g, t, cs, fuel, p, q, e1, e2, e3, e4, x, _⟩ := x
  obtain ⟨g, t, cs, fuel, p, q, e1, e2, e3, e4, x, _⟩ := x
  obtain ⟨g, t, cs, fuel, p, q, e1, e2, e3, e4, x, _⟩ := x
  obtain ⟨g, t, cs, fuel, p, q, e1, e2, e3, e4, x, _⟩ := x
  obtain ⟨g, t, cs, fuel, p, q, e1, e2, e3, e4, x, _⟩ := x
  clear x
  obtain rfl := Option.some.inj (Tryz.gVec.symm.trans e1)
  obtain rfl := Option.some.inj (Tryz.tVec.symm.trans e2)
  have hc := flat_at 40 fuel 278 _ _ _ _ vec_flat e4
  have hc2 : cs = vecCells := Array.toList_inj.1 hc
  subst hc2
  simp only [World.var?, Tryz.gVec, Option.bind_some] at e3
  split at e3
  · rename_i cs' t' fr hh
    obtain rfl := Option.some.inj e3
    exact ⟨t', fr, hh⟩
  · cases e3
theorem laid_vid {W : World} (h : laidMet Tryz.prog laidDatas W) : ∃ t fr, W.heap[4]? = some (.cells vidCells t fr) := by
  obtain ⟨ps, ⟨g, t, cs, fuel, p, q, e1, e2, e3, e4, x, _⟩, _⟩ := h
  obtain ⟨g, t, cs, fuel, p, q, e1, e2, e3, e4, x, _⟩ := x
  obtain ⟨g, t, cs, fuel, p, q, e1, e2, e3, e4, x, _⟩ := x
  obtain ⟨g, t, cs, fuel, p, q, e1, e2, e3, e4, x, _⟩ := x
  obtain ⟨g, t, cs, fuel, p, q, e1, e2, e3, e4, x, _⟩ := x
  obtain ⟨g, t, cs, fuel, p, q, e1, e2, e3, e4, x, _⟩ := x
  obtain ⟨g, t, cs, fuel, p, q, e1, e2, e3, e4, x, _⟩ := x
  obtain ⟨g, t, cs, fuel, p, q, e1, e2, e3, e4, x, _⟩ := x
  clear x
  obtain rfl := Option.some.inj (Tryz.gVid.symm.trans e1)
  obtain rfl := Option.some.inj (Tryz.tVid.symm.trans e2)
  have hc := flat_at 40 fuel 291 _ _ _ _ vid_flat e4
  have hc2 : cs = vidCells := Array.toList_inj.1 hc
  subst hc2
  simp only [World.var?, Tryz.gVid, Option.bind_some] at e3
  split at e3
  · rename_i cs' t' fr hh
    obtain rfl := Option.some.inj e3
    exact ⟨t', fr, hh⟩
  · cases e3
def levCells : Array Value := #[.int .i64 1024, .int .i64 862, .int .i64 725, .int .i64 610, .int .i64 513, .int .i64 432, .int .i64 363, .int .i64 306, .int .i64 257, .int .i64 216, .int .i64 182, .int .i64 153, .int .i64 129, .int .i64 108, .int .i64 91, .int .i64 77, .int .i64 65, .int .i64 54, .int .i64 46, .int .i64 38, .int .i64 32, .int .i64 27, .int .i64 23, .int .i64 19, .int .i64 16, .int .i64 14, .int .i64 11, .int .i64 10, .int .i64 8, .int .i64 7, .int .i64 6, .int .i64 0]
def hiCells : Array Value := #[.int .i64 16, .int .i64 32, .int .i64 64, .int .i64 64]
theorem Tryz.gLev : Tryz.prog.globalNamed "phosphor/volume.levels" = some 9 := by kernel_rfl
theorem Tryz.tLev : (Tryz.prog.globals[9]?).map (·.type) = some 54 := by kernel_rfl
theorem lev_flat : flat Tryz.prog 40 54 Rows.laid_phosphor_volume_levels = some levCells.toList := by kernel_rfl
theorem Tryz.gHi : Tryz.prog.globalNamed "phosphor/sprites.heights" = some 6 := by kernel_rfl
theorem Tryz.tHi : (Tryz.prog.globals[6]?).map (·.type) = some 312 := by kernel_rfl
theorem hi_flat : flat Tryz.prog 40 312 Rows.laid_phosphor_sprites_heights = some hiCells.toList := by kernel_rfl
theorem laid_lev {W : World} (h : laidMet Tryz.prog laidDatas W) : ∃ t fr, W.heap[9]? = some (.cells levCells t fr) := by
  obtain ⟨ps, ⟨g, t, cs, fuel, p, q, e1, e2, e3, e4, x, _⟩, _⟩ := h
  obtain ⟨g, t, cs, fuel, p, q, e1, e2, e3, e4, x, _⟩ := x
  obtain ⟨g, t, cs, fuel, p, q, e1, e2, e3, e4, x, _⟩ := x
  obtain ⟨g, t, cs, fuel, p, q, e1, e2, e3, e4, x, _⟩ := x
  obtain ⟨g, t, cs, fuel, p, q, e1, e2, e3, e4, x, _⟩ := x
  clear x
  obtain rfl := Option.some.inj (Tryz.gLev.symm.trans e1)
  obtain rfl := Option.some.inj (Tryz.tLev.symm.trans e2)
  have hc := flat_at 40 fuel 54 _ _ _ _ lev_flat e4
  have hc2 : cs = levCells := Array.toList_inj.1 hc
  subst hc2
  simp only [World.var?, Tryz.gLev, Option.bind_some] at e3
  split at e3
  · rename_i cs' t' fr hh
    obtain rfl := Option.some.inj e3
    exact ⟨t', fr, hh⟩
  · cases e3
theorem laid_hi {W : World} (h : laidMet Tryz.prog laidDatas W) : ∃ t fr, W.heap[6]? = some (.cells hiCells t fr) := by
  obtain ⟨ps, ⟨g, t, cs, fuel, p, q, e1, e2, e3, e4, x, _⟩, _⟩ := h
  obtain ⟨g, t, cs, fuel, p, q, e1, e2, e3, e4, x, _⟩ := x
  obtain ⟨g, t, cs, fuel, p, q, e1, e2, e3, e4, x, _⟩ := x
  obtain ⟨g, t, cs, fuel, p, q, e1, e2, e3, e4, x, _⟩ := x
  obtain ⟨g, t, cs, fuel, p, q, e1, e2, e3, e4, x, _⟩ := x
  obtain ⟨g, t, cs, fuel, p, q, e1, e2, e3, e4, x, _⟩ := x
  obtain ⟨g, t, cs, fuel, p, q, e1, e2, e3, e4, x, _⟩ := x
  obtain ⟨g, t, cs, fuel, p, q, e1, e2, e3, e4, x, _⟩ := x
  obtain ⟨g, t, cs, fuel, p, q, e1, e2, e3, e4, x, _⟩ := x
  clear x
  obtain rfl := Option.some.inj (Tryz.gHi.symm.trans e1)
  obtain rfl := Option.some.inj (Tryz.tHi.symm.trans e2)
  have hc := flat_at 40 fuel 312 _ _ _ _ hi_flat e4
  have hc2 : cs = hiCells := Array.toList_inj.1 hc
  subst hc2
  simp only [World.var?, Tryz.gHi, Option.bind_some] at e3
  split at e3
  · rename_i cs' t' fr hh
    obtain rfl := Option.some.inj e3
    exact ⟨t', fr, hh⟩
  · cases e3
theorem laid_con {W : World} (h : laidMetH Tryz.prog laidCon W) : (Tabs W ∧ HasErr W ∧ CT W) ∧ 10 ≤ W.heap.size := by
  have h' : laidMet Tryz.prog laidDatas W ∧ handlesMet Tryz.prog [("errors.errorType", Rows.laid_errors_errorType)] W := h
  have q := h'.1
  have sz : 10 ≤ W.heap.size := by
    obtain ⟨_, _, k0⟩ := laid_names q
    obtain ⟨_, _, k1⟩ := laid_paths q
    obtain ⟨_, _, k2⟩ := laid_reg q
    obtain ⟨_, _, k3⟩ := laid_mask q
    obtain ⟨_, _, k4⟩ := laid_tab q
    obtain ⟨_, _, k5⟩ := laid_vec q
    obtain ⟨_, _, k6⟩ := laid_vid q
    obtain ⟨_, _, k7⟩ := laid_lev q
    obtain ⟨_, _, k8⟩ := laid_hi q
    have := lt_of_block k0; have := lt_of_block k1; have := lt_of_block k2; have := lt_of_block k3; have := lt_of_block k4; have := lt_of_block k5; have := lt_of_block k6; have := lt_of_block k7; have := lt_of_block k8
    omega
  refine ⟨⟨⟨laid_tab q, laid_reg q, laid_mask q⟩, ?_, ⟨laid_vec q, laid_paths q, laid_names q, laid_vid q⟩⟩, sz⟩
  obtain ⟨name, u, ty, e1, e2, e3, e4, e5⟩ := h'.2 _ (List.mem_singleton.2 rfl)
  have en : name = [101, 114, 114, 111, 114] := (Option.some.inj e1).symm
  subst en
  obtain rfl := Option.some.inj (Tryz.rt.symm.trans e2)
  have hm : ty ∈ (List.range 389).filter fun t => Tryz.prog.rowNamed t [101, 114, 114, 111, 114] := List.mem_filter.2 ⟨List.mem_range.2 (by rw [← Tryz.size]; exact e3), e4⟩
  rw [Tryz.oneRow] at hm
  obtain rfl := List.mem_singleton.1 hm
  have hh : typeHandle Tryz.prog 121 = .pointer (some ⟨10, 121, none⟩) := by kernel_rfl
  rw [hh] at e5
  unfold HasErr
  simpa using World.var?_cell Tryz.gErr e5 0
noncomputable def laidWorld (os : Os) : World :=
  let w0 := World.holding Tryz.prog os ⟨#[], #[], []⟩
  { w0 with heap := (((((((((w0.heap.modify 0 fun
      | .cells _ t frozen => .cells #[.iface 216 (.agg #[.pointer (some ⟨10, 121, none⟩)])] t frozen
      | o => o).modify 7 fun
      | .cells _ t frozen => .cells kindCells t frozen
      | o => o).modify 8 fun
      | .cells _ t frozen => .cells pathCells t frozen
      | o => o).modify 5 fun
      | .cells _ t frozen => .cells portCells t frozen
      | o => o).modify 2 fun
      | .cells _ t frozen => .cells maskCells t frozen
      | o => o).modify 1 fun
      | .cells _ t frozen => .cells tabCells t frozen
      | o => o).modify 3 fun
      | .cells _ t frozen => .cells vecCells t frozen
      | o => o).modify 4 fun
      | .cells _ t frozen => .cells vidCells t frozen
      | o => o).modify 9 fun
      | .cells _ t frozen => .cells levCells t frozen
      | o => o).modify 6 fun
      | .cells _ t frozen => .cells hiCells t frozen
      | o => o }
theorem laidWorld_con (os : Os) (args : Array Value) : laidMetH Tryz.prog laidCon ((laidWorld os).forCall (fun _ _ => 0) ⟨#[], args, []⟩).memory :=
  laidMetH_of_parts (laidMet_of_run' 8 (by kernel_rfl) (by kernel_rfl)) (by kernel_rfl)
end Go.Proofs.YtnoggfnidaifkaaGreatDoor
