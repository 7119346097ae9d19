/-
  NARROWER THAN 'FOR EVERY INPUT', by the rows' own cells (each row's printed sentence says how): CpuNobody: laid · CpuSums: laid · CpuCalls: laid · CpuMoves: laid · CpuTakes: laid · CpuBranches: laid · CpuBits: laid · CpuCounts: laid · CpuSpeeds: laid · CpuPicture: laid.
  DERIVED. THE GIVEN ROWS OF THIS SEAT. 10 by the template 'for every input the law returns true; each argument reads behind the call as it read before'; 0 by the template 'total and deterministic' (their statements: YtoijhhbiknhlnaaGreatDoorTotals.lean).
  GIVEN WITH THE SEED: the statements are not yours to turn. If you find one false, say at which input.
  Laid BY PROGRAM, IN A SANDBOX (cutbox-rows.mjs): the forced cells as the released guide's own fill.sh prints them over the translation c5465e3df9f5d98c… (all of the seat's roots in one cut). By AI agents, Wed Nov 11 2026. No macro, syntax, notation, axiom, sorry.
-/
import Derived.Test.YtoijhhbiknhlnaaGreatDoorChecked
import GoSem.Claim
import GoSem.ClaimJoined
import GoSem.ClaimMapViews
import Derived.JoinedTies
import Derived.KernelRfl
namespace Go.Proofs.YtoijhhbiknhlnaaGreatDoor
/- THE CELL 'sum', in the pinned program and in every row, IS THE sha256 OF THE DUMP (.gsa) THAT YtoijhhbiknhlnaaGreatDoorProg.lean LOADS. Nothing in Lean hashes anything: it is a label: what it is worth is what the hold of that sum in a sandbox is worth. -/
noncomputable def Tryz.pinned : Pinned := { name := "ytoijhhbiknhlnaagreatdoor", sum := "c5465e3df9f5d98c000dd2568f0c9a619cc6c437ffa38aaf7581537cded547f3", checked := Tryz.checked }
namespace Rows
def none {H : Type} : Left H := { results := [], args := [] }

/- WHAT THE LISTED PACKAGE-LEVEL VARIABLES READ AS WHEN THE CALL BEGINS. Each datum BY PROGRAM (the guide's laid-datum.mjs) off the statement by which the dump's own 'gosem.cut.vars' lays the variable. In a bare row this is a premise. The card (YtoijhhbiknhlnaaGreatDoorCards.lean) ties it to the program's text. -/
def laid_phosphor_block_names {H : Type} : DataW H := .agg [.lit (.string [84, 73, 73]), .lit (.string [84, 68, 68]), .lit (.string [84, 73, 78]), .lit (.string [84, 73, 65]), .lit (.string [84, 65, 73])]
def laid_phosphor_block_paths {H : Type} : DataW H := .agg [.agg [.lit (.int .i64 0), .lit (.int .i64 0)], .agg [.lit (.int .i64 1), .lit (.int .i64 1)], .agg [.lit (.int .i64 0), .lit (.int .i64 2)], .agg [.lit (.int .i64 0), .lit (.int .i64 3)], .agg [.lit (.int .i64 3), .lit (.int .i64 0)]]
def laid_phosphor_region_portPlaces {H : Type} : DataW H := .agg [.lit (.int .i64 0), .lit (.int .i64 0), .lit (.int .i64 4), .lit (.int .i64 8), .lit (.int .i64 16), .lit (.int .i64 2), .lit (.int .i64 1), .lit (.int .i64 4)]
def laid_phosphor_regs_mayHave {H : Type} : DataW H := .agg [.lit (.int .i64 65535), .lit (.int .i64 65535), .lit (.int .i64 65535), .lit (.int .i64 0), .lit (.int .i64 0), .lit (.int .i64 8191), .lit (.int .i64 1023), .lit (.int .i64 1023), .lit (.int .i64 511), .lit (.int .i64 255), .lit (.int .i64 32543), .lit (.int .i64 32639), .lit (.int .i64 65311), .lit (.int .i64 511), .lit (.int .i64 255), .lit (.int .i64 31), .lit (.int .i64 65535), .lit (.int .i64 65535), .lit (.int .i64 65535), .lit (.int .i64 65535)]
def laid_phosphor_card_classes {H : Type} : DataW H := .agg [.agg [.lit (.int .i64 1), .lit (.int .i64 0)], .agg [.lit (.int .i64 2), .lit (.int .i64 0)], .agg [.lit (.int .i64 4), .lit (.int .i64 0)], .agg [.lit (.int .i64 8), .lit (.int .i64 0)], .agg [.lit (.int .i64 16), .lit (.int .i64 0)], .agg [.lit (.int .i64 32), .lit (.int .i64 0)], .agg [.lit (.int .i64 64), .lit (.int .i64 0)], .agg [.lit (.int .i64 128), .lit (.int .i64 0)], .agg [.lit (.int .i64 48), .lit (.int .i64 1)], .agg [.lit (.int .i64 96), .lit (.int .i64 1)], .agg [.lit (.int .i64 320), .lit (.int .i64 2)]]
def laid_phosphor_irq_vectors {H : Type} : DataW H := .agg [.agg [.lit (.int .i64 4), .lit (.int .i64 65530)], .agg [.lit (.int .i64 2), .lit (.int .i64 65528)], .agg [.lit (.int .i64 1), .lit (.int .i64 65526)]]
def laid_phosphor_cpu_videoPorts {H : Type} : DataW H := .agg [.lit (.int .i64 2088960), .lit (.int .i64 2088962), .lit (.int .i64 2088963)]
def laid_errors_errorType {H : Type} : DataW H := .iface "internal/reflectlite.rtype" (.agg [.ptr (.lit (.string [101, 114, 114, 111, 114]))])

/-- 'phosphorlaw25.CpuNobody': WHATEVER THE INPUT: true; the input reads as it did. -/
def cpuNobodySpec : ChangeSpec := { name := "cpuNobody", fn := fun _ => fun
  | [d] => { results := [.lit (.bool true)], args := [d] }
  | _ => none }
def cpuNobodyRow : OpenClaim := { program := "ytoijhhbiknhlnaagreatdoor", sum := "c5465e3df9f5d98c000dd2568f0c9a619cc6c437ffa38aaf7581537cded547f3", func := "phosphor/phosphorlaw25.CpuNobody", spec := "cpuNobody", unfollowed := true, recurses := true, named := ["phosphor/region.portPlaces", "phosphor/card.classes", "phosphor/irq.vectors", "phosphor/regs.mayHave", "phosphor/cpu.videoPorts", "phosphor/block.names", "phosphor/block.paths"], apart := false, laid := [("phosphor/block.names", laid_phosphor_block_names), ("phosphor/block.paths", laid_phosphor_block_paths), ("phosphor/region.portPlaces", laid_phosphor_region_portPlaces), ("phosphor/regs.mayHave", laid_phosphor_regs_mayHave), ("phosphor/card.classes", laid_phosphor_card_classes), ("phosphor/irq.vectors", laid_phosphor_irq_vectors), ("phosphor/cpu.videoPorts", laid_phosphor_cpu_videoPorts)] }
def CpuNobodySaid : Prop := cpuNobodyRow.holds Tryz.pinned (OpenSpec.ofChange cpuNobodySpec)

/-- ITS FALSE NEIGHBOUR: 'it returns false'. Refute it at one input. -/
def cpuNobodyWrong : ChangeSpec := { name := "cpuNobody", fn := fun _ => fun
  | [d] => { results := [.lit (.bool false)], args := [d] }
  | _ => none }
def CpuNobodyWrongFalsely : Prop := cpuNobodyRow.holds Tryz.pinned (OpenSpec.ofChange cpuNobodyWrong)

/-- 'phosphorlaw25.CpuSums': WHATEVER THE INPUT: true; the input reads as it did. -/
def cpuSumsSpec : ChangeSpec := { name := "cpuSums", fn := fun _ => fun
  | [d1, d2, d3] => { results := [.lit (.bool true)], args := [d1, d2, d3] }
  | _ => none }
def cpuSumsRow : OpenClaim := { program := "ytoijhhbiknhlnaagreatdoor", sum := "c5465e3df9f5d98c000dd2568f0c9a619cc6c437ffa38aaf7581537cded547f3", func := "phosphor/phosphorlaw25.CpuSums", spec := "cpuSums", inPlace := ["internal/reflectlite.ValueOf", "(internal/reflectlite.Value).Type", "(internal/reflectlite.Value).IsNil", "internal/reflectlite.TypeOf", "(internal/reflectlite.Value).Elem", "(internal/reflectlite.Value).Set"], unfollowed := true, recurses := true, named := ["phosphor/card.classes", "errors.errorType", "phosphor/region.portPlaces", "phosphor/irq.vectors", "phosphor/regs.mayHave", "phosphor/cpu.videoPorts", "phosphor/block.names", "phosphor/block.paths"], apart := false, laid := [("phosphor/block.names", laid_phosphor_block_names), ("phosphor/block.paths", laid_phosphor_block_paths), ("phosphor/region.portPlaces", laid_phosphor_region_portPlaces), ("phosphor/regs.mayHave", laid_phosphor_regs_mayHave), ("errors.errorType", laid_errors_errorType), ("phosphor/card.classes", laid_phosphor_card_classes), ("phosphor/irq.vectors", laid_phosphor_irq_vectors), ("phosphor/cpu.videoPorts", laid_phosphor_cpu_videoPorts)] }
def CpuSumsSaid : Prop := cpuSumsRow.holds Tryz.pinned (OpenSpec.ofChange cpuSumsSpec)

/-- ITS FALSE NEIGHBOUR: 'it returns false'. Refute it at one input. -/
def cpuSumsWrong : ChangeSpec := { name := "cpuSums", fn := fun _ => fun
  | [d1, d2, d3] => { results := [.lit (.bool false)], args := [d1, d2, d3] }
  | _ => none }
def CpuSumsWrongFalsely : Prop := cpuSumsRow.holds Tryz.pinned (OpenSpec.ofChange cpuSumsWrong)

/-- 'phosphorlaw25.CpuCalls': WHATEVER THE INPUT: true; the input reads as it did. -/
def cpuCallsSpec : ChangeSpec := { name := "cpuCalls", fn := fun _ => fun
  | [d1, d2, d3] => { results := [.lit (.bool true)], args := [d1, d2, d3] }
  | _ => none }
def cpuCallsRow : OpenClaim := { program := "ytoijhhbiknhlnaagreatdoor", sum := "c5465e3df9f5d98c000dd2568f0c9a619cc6c437ffa38aaf7581537cded547f3", func := "phosphor/phosphorlaw25.CpuCalls", spec := "cpuCalls", inPlace := ["internal/reflectlite.ValueOf", "(internal/reflectlite.Value).Type", "(internal/reflectlite.Value).IsNil", "internal/reflectlite.TypeOf", "(internal/reflectlite.Value).Elem", "(internal/reflectlite.Value).Set"], unfollowed := true, recurses := true, named := ["phosphor/card.classes", "errors.errorType", "phosphor/region.portPlaces", "phosphor/irq.vectors", "phosphor/regs.mayHave", "phosphor/cpu.videoPorts", "phosphor/block.names", "phosphor/block.paths"], apart := false, laid := [("phosphor/block.names", laid_phosphor_block_names), ("phosphor/block.paths", laid_phosphor_block_paths), ("phosphor/region.portPlaces", laid_phosphor_region_portPlaces), ("phosphor/regs.mayHave", laid_phosphor_regs_mayHave), ("errors.errorType", laid_errors_errorType), ("phosphor/card.classes", laid_phosphor_card_classes), ("phosphor/irq.vectors", laid_phosphor_irq_vectors), ("phosphor/cpu.videoPorts", laid_phosphor_cpu_videoPorts)] }
def CpuCallsSaid : Prop := cpuCallsRow.holds Tryz.pinned (OpenSpec.ofChange cpuCallsSpec)

/-- ITS FALSE NEIGHBOUR: 'it returns false'. Refute it at one input. -/
def cpuCallsWrong : ChangeSpec := { name := "cpuCalls", fn := fun _ => fun
  | [d1, d2, d3] => { results := [.lit (.bool false)], args := [d1, d2, d3] }
  | _ => none }
def CpuCallsWrongFalsely : Prop := cpuCallsRow.holds Tryz.pinned (OpenSpec.ofChange cpuCallsWrong)

/-- 'phosphorlaw25.CpuMoves': WHATEVER THE INPUT: true; the input reads as it did. -/
def cpuMovesSpec : ChangeSpec := { name := "cpuMoves", fn := fun _ => fun
  | [d1, d2, d3] => { results := [.lit (.bool true)], args := [d1, d2, d3] }
  | _ => none }
def cpuMovesRow : OpenClaim := { program := "ytoijhhbiknhlnaagreatdoor", sum := "c5465e3df9f5d98c000dd2568f0c9a619cc6c437ffa38aaf7581537cded547f3", func := "phosphor/phosphorlaw25.CpuMoves", spec := "cpuMoves", inPlace := ["internal/reflectlite.ValueOf", "(internal/reflectlite.Value).Type", "(internal/reflectlite.Value).IsNil", "internal/reflectlite.TypeOf", "(internal/reflectlite.Value).Elem", "(internal/reflectlite.Value).Set"], unfollowed := true, recurses := true, named := ["phosphor/card.classes", "errors.errorType", "phosphor/region.portPlaces", "phosphor/irq.vectors", "phosphor/regs.mayHave", "phosphor/cpu.videoPorts", "phosphor/block.names", "phosphor/block.paths"], apart := false, laid := [("phosphor/block.names", laid_phosphor_block_names), ("phosphor/block.paths", laid_phosphor_block_paths), ("phosphor/region.portPlaces", laid_phosphor_region_portPlaces), ("phosphor/regs.mayHave", laid_phosphor_regs_mayHave), ("errors.errorType", laid_errors_errorType), ("phosphor/card.classes", laid_phosphor_card_classes), ("phosphor/irq.vectors", laid_phosphor_irq_vectors), ("phosphor/cpu.videoPorts", laid_phosphor_cpu_videoPorts)] }
def CpuMovesSaid : Prop := cpuMovesRow.holds Tryz.pinned (OpenSpec.ofChange cpuMovesSpec)

/-- ITS FALSE NEIGHBOUR: 'it returns false'. Refute it at one input. -/
def cpuMovesWrong : ChangeSpec := { name := "cpuMoves", fn := fun _ => fun
  | [d1, d2, d3] => { results := [.lit (.bool false)], args := [d1, d2, d3] }
  | _ => none }
def CpuMovesWrongFalsely : Prop := cpuMovesRow.holds Tryz.pinned (OpenSpec.ofChange cpuMovesWrong)

/-- 'phosphorlaw25.CpuTakes': WHATEVER THE INPUT: true; the input reads as it did. -/
def cpuTakesSpec : ChangeSpec := { name := "cpuTakes", fn := fun _ => fun
  | [d1, d2, d3] => { results := [.lit (.bool true)], args := [d1, d2, d3] }
  | _ => none }
def cpuTakesRow : OpenClaim := { program := "ytoijhhbiknhlnaagreatdoor", sum := "c5465e3df9f5d98c000dd2568f0c9a619cc6c437ffa38aaf7581537cded547f3", func := "phosphor/phosphorlaw25.CpuTakes", spec := "cpuTakes", inPlace := ["internal/reflectlite.ValueOf", "(internal/reflectlite.Value).Type", "(internal/reflectlite.Value).IsNil", "internal/reflectlite.TypeOf", "(internal/reflectlite.Value).Elem", "(internal/reflectlite.Value).Set"], unfollowed := true, recurses := true, named := ["phosphor/card.classes", "errors.errorType", "phosphor/region.portPlaces", "phosphor/irq.vectors", "phosphor/regs.mayHave", "phosphor/cpu.videoPorts", "phosphor/block.names", "phosphor/block.paths"], apart := false, laid := [("phosphor/block.names", laid_phosphor_block_names), ("phosphor/block.paths", laid_phosphor_block_paths), ("phosphor/region.portPlaces", laid_phosphor_region_portPlaces), ("phosphor/regs.mayHave", laid_phosphor_regs_mayHave), ("errors.errorType", laid_errors_errorType), ("phosphor/card.classes", laid_phosphor_card_classes), ("phosphor/irq.vectors", laid_phosphor_irq_vectors), ("phosphor/cpu.videoPorts", laid_phosphor_cpu_videoPorts)] }
def CpuTakesSaid : Prop := cpuTakesRow.holds Tryz.pinned (OpenSpec.ofChange cpuTakesSpec)

/-- ITS FALSE NEIGHBOUR: 'it returns false'. Refute it at one input. -/
def cpuTakesWrong : ChangeSpec := { name := "cpuTakes", fn := fun _ => fun
  | [d1, d2, d3] => { results := [.lit (.bool false)], args := [d1, d2, d3] }
  | _ => none }
def CpuTakesWrongFalsely : Prop := cpuTakesRow.holds Tryz.pinned (OpenSpec.ofChange cpuTakesWrong)

/-- 'phosphorlaw25.CpuBranches': WHATEVER THE INPUT: true; the input reads as it did. -/
def cpuBranchesSpec : ChangeSpec := { name := "cpuBranches", fn := fun _ => fun
  | [d1, d2, d3] => { results := [.lit (.bool true)], args := [d1, d2, d3] }
  | _ => none }
def cpuBranchesRow : OpenClaim := { program := "ytoijhhbiknhlnaagreatdoor", sum := "c5465e3df9f5d98c000dd2568f0c9a619cc6c437ffa38aaf7581537cded547f3", func := "phosphor/phosphorlaw25.CpuBranches", spec := "cpuBranches", inPlace := ["internal/reflectlite.ValueOf", "(internal/reflectlite.Value).Type", "(internal/reflectlite.Value).IsNil", "internal/reflectlite.TypeOf", "(internal/reflectlite.Value).Elem", "(internal/reflectlite.Value).Set"], unfollowed := true, recurses := true, named := ["phosphor/card.classes", "errors.errorType", "phosphor/region.portPlaces", "phosphor/irq.vectors", "phosphor/regs.mayHave", "phosphor/cpu.videoPorts", "phosphor/block.names", "phosphor/block.paths"], apart := false, laid := [("phosphor/block.names", laid_phosphor_block_names), ("phosphor/block.paths", laid_phosphor_block_paths), ("phosphor/region.portPlaces", laid_phosphor_region_portPlaces), ("phosphor/regs.mayHave", laid_phosphor_regs_mayHave), ("errors.errorType", laid_errors_errorType), ("phosphor/card.classes", laid_phosphor_card_classes), ("phosphor/irq.vectors", laid_phosphor_irq_vectors), ("phosphor/cpu.videoPorts", laid_phosphor_cpu_videoPorts)] }
def CpuBranchesSaid : Prop := cpuBranchesRow.holds Tryz.pinned (OpenSpec.ofChange cpuBranchesSpec)

/-- ITS FALSE NEIGHBOUR: 'it returns false'. Refute it at one input. -/
def cpuBranchesWrong : ChangeSpec := { name := "cpuBranches", fn := fun _ => fun
  | [d1, d2, d3] => { results := [.lit (.bool false)], args := [d1, d2, d3] }
  | _ => none }
def CpuBranchesWrongFalsely : Prop := cpuBranchesRow.holds Tryz.pinned (OpenSpec.ofChange cpuBranchesWrong)

/-- 'phosphorlaw25.CpuBits': WHATEVER THE INPUT: true; the input reads as it did. -/
def cpuBitsSpec : ChangeSpec := { name := "cpuBits", fn := fun _ => fun
  | [d1, d2, d3] => { results := [.lit (.bool true)], args := [d1, d2, d3] }
  | _ => none }
def cpuBitsRow : OpenClaim := { program := "ytoijhhbiknhlnaagreatdoor", sum := "c5465e3df9f5d98c000dd2568f0c9a619cc6c437ffa38aaf7581537cded547f3", func := "phosphor/phosphorlaw25.CpuBits", spec := "cpuBits", inPlace := ["internal/reflectlite.ValueOf", "(internal/reflectlite.Value).Type", "(internal/reflectlite.Value).IsNil", "internal/reflectlite.TypeOf", "(internal/reflectlite.Value).Elem", "(internal/reflectlite.Value).Set"], unfollowed := true, recurses := true, named := ["phosphor/card.classes", "errors.errorType", "phosphor/region.portPlaces", "phosphor/irq.vectors", "phosphor/regs.mayHave", "phosphor/cpu.videoPorts", "phosphor/block.names", "phosphor/block.paths"], apart := false, laid := [("phosphor/block.names", laid_phosphor_block_names), ("phosphor/block.paths", laid_phosphor_block_paths), ("phosphor/region.portPlaces", laid_phosphor_region_portPlaces), ("phosphor/regs.mayHave", laid_phosphor_regs_mayHave), ("errors.errorType", laid_errors_errorType), ("phosphor/card.classes", laid_phosphor_card_classes), ("phosphor/irq.vectors", laid_phosphor_irq_vectors), ("phosphor/cpu.videoPorts", laid_phosphor_cpu_videoPorts)] }
def CpuBitsSaid : Prop := cpuBitsRow.holds Tryz.pinned (OpenSpec.ofChange cpuBitsSpec)

/-- ITS FALSE NEIGHBOUR: 'it returns false'. Refute it at one input. -/
def cpuBitsWrong : ChangeSpec := { name := "cpuBits", fn := fun _ => fun
  | [d1, d2, d3] => { results := [.lit (.bool false)], args := [d1, d2, d3] }
  | _ => none }
def CpuBitsWrongFalsely : Prop := cpuBitsRow.holds Tryz.pinned (OpenSpec.ofChange cpuBitsWrong)

/-- 'phosphorlaw25.CpuCounts': WHATEVER THE INPUT: true; the input reads as it did. -/
def cpuCountsSpec : ChangeSpec := { name := "cpuCounts", fn := fun _ => fun
  | [d] => { results := [.lit (.bool true)], args := [d] }
  | _ => none }
def cpuCountsRow : OpenClaim := { program := "ytoijhhbiknhlnaagreatdoor", sum := "c5465e3df9f5d98c000dd2568f0c9a619cc6c437ffa38aaf7581537cded547f3", func := "phosphor/phosphorlaw25.CpuCounts", spec := "cpuCounts", inPlace := ["internal/reflectlite.ValueOf", "(internal/reflectlite.Value).Type", "(internal/reflectlite.Value).IsNil", "internal/reflectlite.TypeOf", "(internal/reflectlite.Value).Elem", "(internal/reflectlite.Value).Set"], unfollowed := true, recurses := true, named := ["phosphor/card.classes", "errors.errorType", "phosphor/region.portPlaces", "phosphor/irq.vectors", "phosphor/regs.mayHave", "phosphor/cpu.videoPorts", "phosphor/block.names", "phosphor/block.paths"], apart := false, laid := [("phosphor/block.names", laid_phosphor_block_names), ("phosphor/block.paths", laid_phosphor_block_paths), ("phosphor/region.portPlaces", laid_phosphor_region_portPlaces), ("phosphor/regs.mayHave", laid_phosphor_regs_mayHave), ("errors.errorType", laid_errors_errorType), ("phosphor/card.classes", laid_phosphor_card_classes), ("phosphor/irq.vectors", laid_phosphor_irq_vectors), ("phosphor/cpu.videoPorts", laid_phosphor_cpu_videoPorts)] }
def CpuCountsSaid : Prop := cpuCountsRow.holds Tryz.pinned (OpenSpec.ofChange cpuCountsSpec)

/-- ITS FALSE NEIGHBOUR: 'it returns false'. Refute it at one input. -/
def cpuCountsWrong : ChangeSpec := { name := "cpuCounts", fn := fun _ => fun
  | [d] => { results := [.lit (.bool false)], args := [d] }
  | _ => none }
def CpuCountsWrongFalsely : Prop := cpuCountsRow.holds Tryz.pinned (OpenSpec.ofChange cpuCountsWrong)

/-- 'phosphorlaw25.CpuSpeeds': WHATEVER THE INPUT: true; the input reads as it did. -/
def cpuSpeedsSpec : ChangeSpec := { name := "cpuSpeeds", fn := fun _ => fun
  | [d1, d2] => { results := [.lit (.bool true)], args := [d1, d2] }
  | _ => none }
def cpuSpeedsRow : OpenClaim := { program := "ytoijhhbiknhlnaagreatdoor", sum := "c5465e3df9f5d98c000dd2568f0c9a619cc6c437ffa38aaf7581537cded547f3", func := "phosphor/phosphorlaw25.CpuSpeeds", spec := "cpuSpeeds", inPlace := ["internal/reflectlite.ValueOf", "(internal/reflectlite.Value).Type", "(internal/reflectlite.Value).IsNil", "internal/reflectlite.TypeOf", "(internal/reflectlite.Value).Elem", "(internal/reflectlite.Value).Set"], unfollowed := true, recurses := true, named := ["phosphor/card.classes", "errors.errorType", "phosphor/region.portPlaces", "phosphor/irq.vectors", "phosphor/regs.mayHave", "phosphor/cpu.videoPorts", "phosphor/block.names", "phosphor/block.paths"], apart := false, laid := [("phosphor/block.names", laid_phosphor_block_names), ("phosphor/block.paths", laid_phosphor_block_paths), ("phosphor/region.portPlaces", laid_phosphor_region_portPlaces), ("phosphor/regs.mayHave", laid_phosphor_regs_mayHave), ("errors.errorType", laid_errors_errorType), ("phosphor/card.classes", laid_phosphor_card_classes), ("phosphor/irq.vectors", laid_phosphor_irq_vectors), ("phosphor/cpu.videoPorts", laid_phosphor_cpu_videoPorts)] }
def CpuSpeedsSaid : Prop := cpuSpeedsRow.holds Tryz.pinned (OpenSpec.ofChange cpuSpeedsSpec)

/-- ITS FALSE NEIGHBOUR: 'it returns false'. Refute it at one input. -/
def cpuSpeedsWrong : ChangeSpec := { name := "cpuSpeeds", fn := fun _ => fun
  | [d1, d2] => { results := [.lit (.bool false)], args := [d1, d2] }
  | _ => none }
def CpuSpeedsWrongFalsely : Prop := cpuSpeedsRow.holds Tryz.pinned (OpenSpec.ofChange cpuSpeedsWrong)

/-- 'phosphorlaw25.CpuPicture': WHATEVER THE INPUT: true; the input reads as it did. -/
def cpuPictureSpec : ChangeSpec := { name := "cpuPicture", fn := fun _ => fun
  | [d1, d2, d3] => { results := [.lit (.bool true)], args := [d1, d2, d3] }
  | _ => none }
def cpuPictureRow : OpenClaim := { program := "ytoijhhbiknhlnaagreatdoor", sum := "c5465e3df9f5d98c000dd2568f0c9a619cc6c437ffa38aaf7581537cded547f3", func := "phosphor/phosphorlaw25.CpuPicture", spec := "cpuPicture", inPlace := ["internal/reflectlite.ValueOf", "(internal/reflectlite.Value).Type", "(internal/reflectlite.Value).IsNil", "internal/reflectlite.TypeOf", "(internal/reflectlite.Value).Elem", "(internal/reflectlite.Value).Set"], unfollowed := true, recurses := true, named := ["phosphor/card.classes", "errors.errorType", "phosphor/region.portPlaces", "phosphor/irq.vectors", "phosphor/regs.mayHave", "phosphor/cpu.videoPorts", "phosphor/block.names", "phosphor/block.paths"], apart := false, laid := [("phosphor/block.names", laid_phosphor_block_names), ("phosphor/block.paths", laid_phosphor_block_paths), ("phosphor/region.portPlaces", laid_phosphor_region_portPlaces), ("phosphor/regs.mayHave", laid_phosphor_regs_mayHave), ("errors.errorType", laid_errors_errorType), ("phosphor/card.classes", laid_phosphor_card_classes), ("phosphor/irq.vectors", laid_phosphor_irq_vectors), ("phosphor/cpu.videoPorts", laid_phosphor_cpu_videoPorts)] }
def CpuPictureSaid : Prop := cpuPictureRow.holds Tryz.pinned (OpenSpec.ofChange cpuPictureSpec)

/-- ITS FALSE NEIGHBOUR: 'it returns false'. Refute it at one input. -/
def cpuPictureWrong : ChangeSpec := { name := "cpuPicture", fn := fun _ => fun
  | [d1, d2, d3] => { results := [.lit (.bool false)], args := [d1, d2, d3] }
  | _ => none }
def CpuPictureWrongFalsely : Prop := cpuPictureRow.holds Tryz.pinned (OpenSpec.ofChange cpuPictureWrong)

/- THE SECOND FORM. 'bulk': how many values and letters a reading holds, each counted each time it is reached (what is shared counts as often as it is met; a slice's spare places count too). A statement '..UptoSaid' is the law's where the arguments, and the package variables that the reading takes, are together of bulk at most 1048576: NARROWER than '..Said'. Prove '..Said' where nothing that the law and all that it calls make is longer than what came in: it says more and counts as full. Else prove '..UptoSaid'. A law counts once. -/
mutual
def uptoBulk {H : Type} : DataW H → Nat
  | .lit (.string bytes) => bytes.length + 1
  | .lit _ => 1
  | .nil => 1
  | .ptr d => uptoBulk d + 1
  | .slice elems spare => uptoBulkAll elems + uptoBulkAll spare + 1
  | .agg parts => uptoBulkAll parts + 1
  | .iface _ d => uptoBulk d + 1
  | .map entries => uptoBulkEntries entries + 1
  | .held _ => 1
def uptoBulkAll {H : Type} : List (DataW H) → Nat
  | [] => 0
  | d :: r => uptoBulk d + uptoBulkAll r
def uptoBulkEntries {H : Type} : List (Lit × DataW H) → Nat
  | [] => 0
  | x :: r => uptoBulkEntry x + uptoBulkEntries r
def uptoBulkEntry {H : Type} : Lit × DataW H → Nat
  | (.string bytes, d) => bytes.length + uptoBulk d + 1
  | (_, d) => uptoBulk d + 1
 end
def uptoSmall : (H : Type) → List (DataW H) → Bool := fun _ ds => decide (uptoBulkAll ds ≤ 1048576)
def OpenSpec.upto (s : _root_.Go.ChangeSpec) : _root_.Go.OpenSpec := { _root_.Go.OpenSpec.ofChange s with cond := some uptoSmall }

/-- 'phosphorlaw25.CpuNobody', WHERE WHAT IT READS IS OF BULK AT MOST 1048576: true; the input reads as it did. -/
def cpuNobodyUptoRow : OpenClaim := { program := "ytoijhhbiknhlnaagreatdoor", sum := "c5465e3df9f5d98c000dd2568f0c9a619cc6c437ffa38aaf7581537cded547f3", func := "phosphor/phosphorlaw25.CpuNobody", spec := "cpuNobody", unfollowed := true, recurses := true, named := ["phosphor/region.portPlaces", "phosphor/card.classes", "phosphor/irq.vectors", "phosphor/regs.mayHave", "phosphor/cpu.videoPorts", "phosphor/block.names", "phosphor/block.paths"], apart := false, laid := [("phosphor/block.names", laid_phosphor_block_names), ("phosphor/block.paths", laid_phosphor_block_paths), ("phosphor/region.portPlaces", laid_phosphor_region_portPlaces), ("phosphor/regs.mayHave", laid_phosphor_regs_mayHave), ("phosphor/card.classes", laid_phosphor_card_classes), ("phosphor/irq.vectors", laid_phosphor_irq_vectors), ("phosphor/cpu.videoPorts", laid_phosphor_cpu_videoPorts)], narrowed := true }
def CpuNobodyUptoSaid : Prop := cpuNobodyUptoRow.holds Tryz.pinned (OpenSpec.upto cpuNobodySpec)

/-- 'phosphorlaw25.CpuSums', WHERE WHAT IT READS IS OF BULK AT MOST 1048576: true; the input reads as it did. -/
def cpuSumsUptoRow : OpenClaim := { program := "ytoijhhbiknhlnaagreatdoor", sum := "c5465e3df9f5d98c000dd2568f0c9a619cc6c437ffa38aaf7581537cded547f3", func := "phosphor/phosphorlaw25.CpuSums", spec := "cpuSums", inPlace := ["internal/reflectlite.ValueOf", "(internal/reflectlite.Value).Type", "(internal/reflectlite.Value).IsNil", "internal/reflectlite.TypeOf", "(internal/reflectlite.Value).Elem", "(internal/reflectlite.Value).Set"], unfollowed := true, recurses := true, named := ["phosphor/card.classes", "errors.errorType", "phosphor/region.portPlaces", "phosphor/irq.vectors", "phosphor/regs.mayHave", "phosphor/cpu.videoPorts", "phosphor/block.names", "phosphor/block.paths"], apart := false, laid := [("phosphor/block.names", laid_phosphor_block_names), ("phosphor/block.paths", laid_phosphor_block_paths), ("phosphor/region.portPlaces", laid_phosphor_region_portPlaces), ("phosphor/regs.mayHave", laid_phosphor_regs_mayHave), ("errors.errorType", laid_errors_errorType), ("phosphor/card.classes", laid_phosphor_card_classes), ("phosphor/irq.vectors", laid_phosphor_irq_vectors), ("phosphor/cpu.videoPorts", laid_phosphor_cpu_videoPorts)], narrowed := true }
def CpuSumsUptoSaid : Prop := cpuSumsUptoRow.holds Tryz.pinned (OpenSpec.upto cpuSumsSpec)

/-- 'phosphorlaw25.CpuCalls', WHERE WHAT IT READS IS OF BULK AT MOST 1048576: true; the input reads as it did. -/
def cpuCallsUptoRow : OpenClaim := { program := "ytoijhhbiknhlnaagreatdoor", sum := "c5465e3df9f5d98c000dd2568f0c9a619cc6c437ffa38aaf7581537cded547f3", func := "phosphor/phosphorlaw25.CpuCalls", spec := "cpuCalls", inPlace := ["internal/reflectlite.ValueOf", "(internal/reflectlite.Value).Type", "(internal/reflectlite.Value).IsNil", "internal/reflectlite.TypeOf", "(internal/reflectlite.Value).Elem", "(internal/reflectlite.Value).Set"], unfollowed := true, recurses := true, named := ["phosphor/card.classes", "errors.errorType", "phosphor/region.portPlaces", "phosphor/irq.vectors", "phosphor/regs.mayHave", "phosphor/cpu.videoPorts", "phosphor/block.names", "phosphor/block.paths"], apart := false, laid := [("phosphor/block.names", laid_phosphor_block_names), ("phosphor/block.paths", laid_phosphor_block_paths), ("phosphor/region.portPlaces", laid_phosphor_region_portPlaces), ("phosphor/regs.mayHave", laid_phosphor_regs_mayHave), ("errors.errorType", laid_errors_errorType), ("phosphor/card.classes", laid_phosphor_card_classes), ("phosphor/irq.vectors", laid_phosphor_irq_vectors), ("phosphor/cpu.videoPorts", laid_phosphor_cpu_videoPorts)], narrowed := true }
def CpuCallsUptoSaid : Prop := cpuCallsUptoRow.holds Tryz.pinned (OpenSpec.upto cpuCallsSpec)

/-- 'phosphorlaw25.CpuMoves', WHERE WHAT IT READS IS OF BULK AT MOST 1048576: true; the input reads as it did. -/
def cpuMovesUptoRow : OpenClaim := { program := "ytoijhhbiknhlnaagreatdoor", sum := "c5465e3df9f5d98c000dd2568f0c9a619cc6c437ffa38aaf7581537cded547f3", func := "phosphor/phosphorlaw25.CpuMoves", spec := "cpuMoves", inPlace := ["internal/reflectlite.ValueOf", "(internal/reflectlite.Value).Type", "(internal/reflectlite.Value).IsNil", "internal/reflectlite.TypeOf", "(internal/reflectlite.Value).Elem", "(internal/reflectlite.Value).Set"], unfollowed := true, recurses := true, named := ["phosphor/card.classes", "errors.errorType", "phosphor/region.portPlaces", "phosphor/irq.vectors", "phosphor/regs.mayHave", "phosphor/cpu.videoPorts", "phosphor/block.names", "phosphor/block.paths"], apart := false, laid := [("phosphor/block.names", laid_phosphor_block_names), ("phosphor/block.paths", laid_phosphor_block_paths), ("phosphor/region.portPlaces", laid_phosphor_region_portPlaces), ("phosphor/regs.mayHave", laid_phosphor_regs_mayHave), ("errors.errorType", laid_errors_errorType), ("phosphor/card.classes", laid_phosphor_card_classes), ("phosphor/irq.vectors", laid_phosphor_irq_vectors), ("phosphor/cpu.videoPorts", laid_phosphor_cpu_videoPorts)], narrowed := true }
def CpuMovesUptoSaid : Prop := cpuMovesUptoRow.holds Tryz.pinned (OpenSpec.upto cpuMovesSpec)

/-- 'phosphorlaw25.CpuTakes', WHERE WHAT IT READS IS OF BULK AT MOST 1048576: true; the input reads as it did. -/
def cpuTakesUptoRow : OpenClaim := { program := "ytoijhhbiknhlnaagreatdoor", sum := "c5465e3df9f5d98c000dd2568f0c9a619cc6c437ffa38aaf7581537cded547f3", func := "phosphor/phosphorlaw25.CpuTakes", spec := "cpuTakes", inPlace := ["internal/reflectlite.ValueOf", "(internal/reflectlite.Value).Type", "(internal/reflectlite.Value).IsNil", "internal/reflectlite.TypeOf", "(internal/reflectlite.Value).Elem", "(internal/reflectlite.Value).Set"], unfollowed := true, recurses := true, named := ["phosphor/card.classes", "errors.errorType", "phosphor/region.portPlaces", "phosphor/irq.vectors", "phosphor/regs.mayHave", "phosphor/cpu.videoPorts", "phosphor/block.names", "phosphor/block.paths"], apart := false, laid := [("phosphor/block.names", laid_phosphor_block_names), ("phosphor/block.paths", laid_phosphor_block_paths), ("phosphor/region.portPlaces", laid_phosphor_region_portPlaces), ("phosphor/regs.mayHave", laid_phosphor_regs_mayHave), ("errors.errorType", laid_errors_errorType), ("phosphor/card.classes", laid_phosphor_card_classes), ("phosphor/irq.vectors", laid_phosphor_irq_vectors), ("phosphor/cpu.videoPorts", laid_phosphor_cpu_videoPorts)], narrowed := true }
def CpuTakesUptoSaid : Prop := cpuTakesUptoRow.holds Tryz.pinned (OpenSpec.upto cpuTakesSpec)

/-- 'phosphorlaw25.CpuBranches', WHERE WHAT IT READS IS OF BULK AT MOST 1048576: true; the input reads as it did. -/
def cpuBranchesUptoRow : OpenClaim := { program := "ytoijhhbiknhlnaagreatdoor", sum := "c5465e3df9f5d98c000dd2568f0c9a619cc6c437ffa38aaf7581537cded547f3", func := "phosphor/phosphorlaw25.CpuBranches", spec := "cpuBranches", inPlace := ["internal/reflectlite.ValueOf", "(internal/reflectlite.Value).Type", "(internal/reflectlite.Value).IsNil", "internal/reflectlite.TypeOf", "(internal/reflectlite.Value).Elem", "(internal/reflectlite.Value).Set"], unfollowed := true, recurses := true, named := ["phosphor/card.classes", "errors.errorType", "phosphor/region.portPlaces", "phosphor/irq.vectors", "phosphor/regs.mayHave", "phosphor/cpu.videoPorts", "phosphor/block.names", "phosphor/block.paths"], apart := false, laid := [("phosphor/block.names", laid_phosphor_block_names), ("phosphor/block.paths", laid_phosphor_block_paths), ("phosphor/region.portPlaces", laid_phosphor_region_portPlaces), ("phosphor/regs.mayHave", laid_phosphor_regs_mayHave), ("errors.errorType", laid_errors_errorType), ("phosphor/card.classes", laid_phosphor_card_classes), ("phosphor/irq.vectors", laid_phosphor_irq_vectors), ("phosphor/cpu.videoPorts", laid_phosphor_cpu_videoPorts)], narrowed := true }
def CpuBranchesUptoSaid : Prop := cpuBranchesUptoRow.holds Tryz.pinned (OpenSpec.upto cpuBranchesSpec)

/-- 'phosphorlaw25.CpuBits', WHERE WHAT IT READS IS OF BULK AT MOST 1048576: true; the input reads as it did. -/
def cpuBitsUptoRow : OpenClaim := { program := "ytoijhhbiknhlnaagreatdoor", sum := "c5465e3df9f5d98c000dd2568f0c9a619cc6c437ffa38aaf7581537cded547f3", func := "phosphor/phosphorlaw25.CpuBits", spec := "cpuBits", inPlace := ["internal/reflectlite.ValueOf", "(internal/reflectlite.Value).Type", "(internal/reflectlite.Value).IsNil", "internal/reflectlite.TypeOf", "(internal/reflectlite.Value).Elem", "(internal/reflectlite.Value).Set"], unfollowed := true, recurses := true, named := ["phosphor/card.classes", "errors.errorType", "phosphor/region.portPlaces", "phosphor/irq.vectors", "phosphor/regs.mayHave", "phosphor/cpu.videoPorts", "phosphor/block.names", "phosphor/block.paths"], apart := false, laid := [("phosphor/block.names", laid_phosphor_block_names), ("phosphor/block.paths", laid_phosphor_block_paths), ("phosphor/region.portPlaces", laid_phosphor_region_portPlaces), ("phosphor/regs.mayHave", laid_phosphor_regs_mayHave), ("errors.errorType", laid_errors_errorType), ("phosphor/card.classes", laid_phosphor_card_classes), ("phosphor/irq.vectors", laid_phosphor_irq_vectors), ("phosphor/cpu.videoPorts", laid_phosphor_cpu_videoPorts)], narrowed := true }
def CpuBitsUptoSaid : Prop := cpuBitsUptoRow.holds Tryz.pinned (OpenSpec.upto cpuBitsSpec)

/-- 'phosphorlaw25.CpuCounts', WHERE WHAT IT READS IS OF BULK AT MOST 1048576: true; the input reads as it did. -/
def cpuCountsUptoRow : OpenClaim := { program := "ytoijhhbiknhlnaagreatdoor", sum := "c5465e3df9f5d98c000dd2568f0c9a619cc6c437ffa38aaf7581537cded547f3", func := "phosphor/phosphorlaw25.CpuCounts", spec := "cpuCounts", inPlace := ["internal/reflectlite.ValueOf", "(internal/reflectlite.Value).Type", "(internal/reflectlite.Value).IsNil", "internal/reflectlite.TypeOf", "(internal/reflectlite.Value).Elem", "(internal/reflectlite.Value).Set"], unfollowed := true, recurses := true, named := ["phosphor/card.classes", "errors.errorType", "phosphor/region.portPlaces", "phosphor/irq.vectors", "phosphor/regs.mayHave", "phosphor/cpu.videoPorts", "phosphor/block.names", "phosphor/block.paths"], apart := false, laid := [("phosphor/block.names", laid_phosphor_block_names), ("phosphor/block.paths", laid_phosphor_block_paths), ("phosphor/region.portPlaces", laid_phosphor_region_portPlaces), ("phosphor/regs.mayHave", laid_phosphor_regs_mayHave), ("errors.errorType", laid_errors_errorType), ("phosphor/card.classes", laid_phosphor_card_classes), ("phosphor/irq.vectors", laid_phosphor_irq_vectors), ("phosphor/cpu.videoPorts", laid_phosphor_cpu_videoPorts)], narrowed := true }
def CpuCountsUptoSaid : Prop := cpuCountsUptoRow.holds Tryz.pinned (OpenSpec.upto cpuCountsSpec)

/-- 'phosphorlaw25.CpuSpeeds', WHERE WHAT IT READS IS OF BULK AT MOST 1048576: true; the input reads as it did. -/
def cpuSpeedsUptoRow : OpenClaim := { program := "ytoijhhbiknhlnaagreatdoor", sum := "c5465e3df9f5d98c000dd2568f0c9a619cc6c437ffa38aaf7581537cded547f3", func := "phosphor/phosphorlaw25.CpuSpeeds", spec := "cpuSpeeds", inPlace := ["internal/reflectlite.ValueOf", "(internal/reflectlite.Value).Type", "(internal/reflectlite.Value).IsNil", "internal/reflectlite.TypeOf", "(internal/reflectlite.Value).Elem", "(internal/reflectlite.Value).Set"], unfollowed := true, recurses := true, named := ["phosphor/card.classes", "errors.errorType", "phosphor/region.portPlaces", "phosphor/irq.vectors", "phosphor/regs.mayHave", "phosphor/cpu.videoPorts", "phosphor/block.names", "phosphor/block.paths"], apart := false, laid := [("phosphor/block.names", laid_phosphor_block_names), ("phosphor/block.paths", laid_phosphor_block_paths), ("phosphor/region.portPlaces", laid_phosphor_region_portPlaces), ("phosphor/regs.mayHave", laid_phosphor_regs_mayHave), ("errors.errorType", laid_errors_errorType), ("phosphor/card.classes", laid_phosphor_card_classes), ("phosphor/irq.vectors", laid_phosphor_irq_vectors), ("phosphor/cpu.videoPorts", laid_phosphor_cpu_videoPorts)], narrowed := true }
def CpuSpeedsUptoSaid : Prop := cpuSpeedsUptoRow.holds Tryz.pinned (OpenSpec.upto cpuSpeedsSpec)

/-- 'phosphorlaw25.CpuPicture', WHERE WHAT IT READS IS OF BULK AT MOST 1048576: true; the input reads as it did. -/
def cpuPictureUptoRow : OpenClaim := { program := "ytoijhhbiknhlnaagreatdoor", sum := "c5465e3df9f5d98c000dd2568f0c9a619cc6c437ffa38aaf7581537cded547f3", func := "phosphor/phosphorlaw25.CpuPicture", spec := "cpuPicture", inPlace := ["internal/reflectlite.ValueOf", "(internal/reflectlite.Value).Type", "(internal/reflectlite.Value).IsNil", "internal/reflectlite.TypeOf", "(internal/reflectlite.Value).Elem", "(internal/reflectlite.Value).Set"], unfollowed := true, recurses := true, named := ["phosphor/card.classes", "errors.errorType", "phosphor/region.portPlaces", "phosphor/irq.vectors", "phosphor/regs.mayHave", "phosphor/cpu.videoPorts", "phosphor/block.names", "phosphor/block.paths"], apart := false, laid := [("phosphor/block.names", laid_phosphor_block_names), ("phosphor/block.paths", laid_phosphor_block_paths), ("phosphor/region.portPlaces", laid_phosphor_region_portPlaces), ("phosphor/regs.mayHave", laid_phosphor_regs_mayHave), ("errors.errorType", laid_errors_errorType), ("phosphor/card.classes", laid_phosphor_card_classes), ("phosphor/irq.vectors", laid_phosphor_irq_vectors), ("phosphor/cpu.videoPorts", laid_phosphor_cpu_videoPorts)], narrowed := true }
def CpuPictureUptoSaid : Prop := cpuPictureUptoRow.holds Tryz.pinned (OpenSpec.upto cpuPictureSpec)

end Rows
end Go.Proofs.YtoijhhbiknhlnaaGreatDoor
