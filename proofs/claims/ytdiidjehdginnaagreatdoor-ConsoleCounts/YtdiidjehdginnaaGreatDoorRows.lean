/-
  NARROWER THAN 'FOR EVERY INPUT', by the rows' own cells (each row's printed sentence says how): ConsoleCounts: laid.
  DERIVED. THE GIVEN ROWS OF THIS SEAT. 1 by the template 'for every input the law returns true; each argument reads behind the call as it read before'; 0 by the template 'total and deterministic' (their statements: YtdiidjehdginnaaGreatDoorTotals.lean).
  GIVEN WITH THE SEED: the statements are not yours to turn. If you find one false, say at which input.
  Laid BY PROGRAM, IN A SANDBOX (cutbox-rows.mjs): the forced cells as the released guide's own fill.sh prints them over the translation b8ff9204c3c0ae83… (all of the seat's roots in one cut). By AI agents, Wed Nov 11 2026. No macro, syntax, notation, axiom, sorry.
-/
import Derived.Test.YtdiidjehdginnaaGreatDoorChecked
import GoSem.Claim
import GoSem.ClaimJoined
import GoSem.ClaimMapViews
import Derived.JoinedTies
import Derived.KernelRfl
namespace Go.Proofs.YtdiidjehdginnaaGreatDoor
/- THE CELL 'sum', in the pinned program and in every row, IS THE sha256 OF THE DUMP (.gsa) THAT YtdiidjehdginnaaGreatDoorProg.lean LOADS. Nothing in Lean hashes anything: it is a label: what it is worth is what the hold of that sum in a sandbox is worth. -/
noncomputable def Tryz.pinned : Pinned := { name := "ytdiidjehdginnaagreatdoor", sum := "b8ff9204c3c0ae83ba0bc3e2d84527291198930654309392e7635ed87c210492", checked := Tryz.checked }
namespace Rows
def none {H : Type} : Left H := { results := [], args := [] }

/- WHAT THE LISTED PACKAGE-LEVEL VARIABLES READ AS WHEN THE CALL BEGINS. Each datum BY PROGRAM (the guide's laid-datum.mjs) off the statement by which the dump's own 'gosem.cut.vars' lays the variable. In a bare row this is a premise. The card (YtdiidjehdginnaaGreatDoorCards.lean) ties it to the program's text. -/
def laid_phosphor_block_names {H : Type} : DataW H := .agg [.lit (.string [84, 73, 73]), .lit (.string [84, 68, 68]), .lit (.string [84, 73, 78]), .lit (.string [84, 73, 65]), .lit (.string [84, 65, 73])]
def laid_phosphor_block_paths {H : Type} : DataW H := .agg [.agg [.lit (.int .i64 0), .lit (.int .i64 0)], .agg [.lit (.int .i64 1), .lit (.int .i64 1)], .agg [.lit (.int .i64 0), .lit (.int .i64 2)], .agg [.lit (.int .i64 0), .lit (.int .i64 3)], .agg [.lit (.int .i64 3), .lit (.int .i64 0)]]
def laid_phosphor_region_portPlaces {H : Type} : DataW H := .agg [.lit (.int .i64 0), .lit (.int .i64 0), .lit (.int .i64 4), .lit (.int .i64 8), .lit (.int .i64 16), .lit (.int .i64 2), .lit (.int .i64 1), .lit (.int .i64 4)]
def laid_phosphor_regs_mayHave {H : Type} : DataW H := .agg [.lit (.int .i64 65535), .lit (.int .i64 65535), .lit (.int .i64 65535), .lit (.int .i64 0), .lit (.int .i64 0), .lit (.int .i64 8191), .lit (.int .i64 1023), .lit (.int .i64 1023), .lit (.int .i64 511), .lit (.int .i64 255), .lit (.int .i64 32543), .lit (.int .i64 32639), .lit (.int .i64 65311), .lit (.int .i64 511), .lit (.int .i64 255), .lit (.int .i64 31), .lit (.int .i64 65535), .lit (.int .i64 65535), .lit (.int .i64 65535), .lit (.int .i64 65535)]
def laid_phosphor_volume_levels {H : Type} : DataW H := .agg [.lit (.int .i64 1024), .lit (.int .i64 862), .lit (.int .i64 725), .lit (.int .i64 610), .lit (.int .i64 513), .lit (.int .i64 432), .lit (.int .i64 363), .lit (.int .i64 306), .lit (.int .i64 257), .lit (.int .i64 216), .lit (.int .i64 182), .lit (.int .i64 153), .lit (.int .i64 129), .lit (.int .i64 108), .lit (.int .i64 91), .lit (.int .i64 77), .lit (.int .i64 65), .lit (.int .i64 54), .lit (.int .i64 46), .lit (.int .i64 38), .lit (.int .i64 32), .lit (.int .i64 27), .lit (.int .i64 23), .lit (.int .i64 19), .lit (.int .i64 16), .lit (.int .i64 14), .lit (.int .i64 11), .lit (.int .i64 10), .lit (.int .i64 8), .lit (.int .i64 7), .lit (.int .i64 6), .lit (.int .i64 0)]
def laid_errors_errorType {H : Type} : DataW H := .iface "internal/reflectlite.rtype" (.agg [.ptr (.lit (.string [101, 114, 114, 111, 114]))])
def laid_phosphor_card_classes {H : Type} : DataW H := .agg [.agg [.lit (.int .i64 1), .lit (.int .i64 0)], .agg [.lit (.int .i64 2), .lit (.int .i64 0)], .agg [.lit (.int .i64 4), .lit (.int .i64 0)], .agg [.lit (.int .i64 8), .lit (.int .i64 0)], .agg [.lit (.int .i64 16), .lit (.int .i64 0)], .agg [.lit (.int .i64 32), .lit (.int .i64 0)], .agg [.lit (.int .i64 64), .lit (.int .i64 0)], .agg [.lit (.int .i64 128), .lit (.int .i64 0)], .agg [.lit (.int .i64 48), .lit (.int .i64 1)], .agg [.lit (.int .i64 96), .lit (.int .i64 1)], .agg [.lit (.int .i64 320), .lit (.int .i64 2)]]
def laid_phosphor_irq_vectors {H : Type} : DataW H := .agg [.agg [.lit (.int .i64 4), .lit (.int .i64 65530)], .agg [.lit (.int .i64 2), .lit (.int .i64 65528)], .agg [.lit (.int .i64 1), .lit (.int .i64 65526)]]
def laid_phosphor_cpu_videoPorts {H : Type} : DataW H := .agg [.lit (.int .i64 2088960), .lit (.int .i64 2088962), .lit (.int .i64 2088963)]
def laid_phosphor_sprites_heights {H : Type} : DataW H := .agg [.lit (.int .i64 16), .lit (.int .i64 32), .lit (.int .i64 64), .lit (.int .i64 64)]

/-- 'phosphorlaw26.ConsoleCounts': WHATEVER THE INPUT: true; the input reads as it did. -/
def consoleCountsSpec : ChangeSpec := { name := "consoleCounts", fn := fun _ => fun
  | [d1, d2] => { results := [.lit (.bool true)], args := [d1, d2] }
  | _ => none }
def consoleCountsRow : OpenClaim := { program := "ytdiidjehdginnaagreatdoor", sum := "b8ff9204c3c0ae83ba0bc3e2d84527291198930654309392e7635ed87c210492", func := "phosphor/phosphorlaw26.ConsoleCounts", spec := "consoleCounts", inPlace := ["internal/reflectlite.ValueOf", "(internal/reflectlite.Value).Type", "(internal/reflectlite.Value).IsNil", "internal/reflectlite.TypeOf", "(internal/reflectlite.Value).Elem", "(internal/reflectlite.Value).Set"], unfollowed := true, recurses := true, named := ["phosphor/card.classes", "errors.errorType", "phosphor/region.portPlaces", "phosphor/regs.mayHave", "phosphor/sprites.heights", "phosphor/irq.vectors", "phosphor/cpu.videoPorts", "phosphor/block.names", "phosphor/block.paths", "phosphor/volume.levels"], apart := false, laid := [("phosphor/block.names", laid_phosphor_block_names), ("phosphor/block.paths", laid_phosphor_block_paths), ("phosphor/region.portPlaces", laid_phosphor_region_portPlaces), ("phosphor/regs.mayHave", laid_phosphor_regs_mayHave), ("phosphor/volume.levels", laid_phosphor_volume_levels), ("errors.errorType", laid_errors_errorType), ("phosphor/card.classes", laid_phosphor_card_classes), ("phosphor/irq.vectors", laid_phosphor_irq_vectors), ("phosphor/cpu.videoPorts", laid_phosphor_cpu_videoPorts), ("phosphor/sprites.heights", laid_phosphor_sprites_heights)] }
def ConsoleCountsSaid : Prop := consoleCountsRow.holds Tryz.pinned (OpenSpec.ofChange consoleCountsSpec)

/-- ITS FALSE NEIGHBOUR: 'it returns false'. Refute it at one input. -/
def consoleCountsWrong : ChangeSpec := { name := "consoleCounts", fn := fun _ => fun
  | [d1, d2] => { results := [.lit (.bool false)], args := [d1, d2] }
  | _ => none }
def ConsoleCountsWrongFalsely : Prop := consoleCountsRow.holds Tryz.pinned (OpenSpec.ofChange consoleCountsWrong)

/- THE SECOND FORM. 'bulk': how many values and letters a reading holds, each counted each time it is reached (what is shared counts as often as it is met; a slice's spare places count too). A statement '..UptoSaid' is the law's where the arguments, and the package variables that the reading takes, are together of bulk at most 1048576: NARROWER than '..Said'. Prove '..Said' where nothing that the law and all that it calls make is longer than what came in: it says more and counts as full. Else prove '..UptoSaid'. A law counts once. -/
mutual
def uptoBulk {H : Type} : DataW H → Nat
  | .lit (.string bytes) => bytes.length + 1
  | .lit _ => 1
  | .nil => 1
  | .ptr d => uptoBulk d + 1
  | .slice elems spare => uptoBulkAll elems + uptoBulkAll spare + 1
  | .agg parts => uptoBulkAll parts + 1
  | .iface _ d => uptoBulk d + 1
  | .map entries => uptoBulkEntries entries + 1
  | .held _ => 1
def uptoBulkAll {H : Type} : List (DataW H) → Nat
  | [] => 0
  | d :: r => uptoBulk d + uptoBulkAll r
def uptoBulkEntries {H : Type} : List (Lit × DataW H) → Nat
  | [] => 0
  | x :: r => uptoBulkEntry x + uptoBulkEntries r
def uptoBulkEntry {H : Type} : Lit × DataW H → Nat
  | (.string bytes, d) => bytes.length + uptoBulk d + 1
  | (_, d) => uptoBulk d + 1
 end
def uptoSmall : (H : Type) → List (DataW H) → Bool := fun _ ds => decide (uptoBulkAll ds ≤ 1048576)
def OpenSpec.upto (s : _root_.Go.ChangeSpec) : _root_.Go.OpenSpec := { _root_.Go.OpenSpec.ofChange s with cond := some uptoSmall }

/-- 'phosphorlaw26.ConsoleCounts', WHERE WHAT IT READS IS OF BULK AT MOST 1048576: true; the input reads as it did. -/
def consoleCountsUptoRow : OpenClaim := { program := "ytdiidjehdginnaagreatdoor", sum := "b8ff9204c3c0ae83ba0bc3e2d84527291198930654309392e7635ed87c210492", func := "phosphor/phosphorlaw26.ConsoleCounts", spec := "consoleCounts", inPlace := ["internal/reflectlite.ValueOf", "(internal/reflectlite.Value).Type", "(internal/reflectlite.Value).IsNil", "internal/reflectlite.TypeOf", "(internal/reflectlite.Value).Elem", "(internal/reflectlite.Value).Set"], unfollowed := true, recurses := true, named := ["phosphor/card.classes", "errors.errorType", "phosphor/region.portPlaces", "phosphor/regs.mayHave", "phosphor/sprites.heights", "phosphor/irq.vectors", "phosphor/cpu.videoPorts", "phosphor/block.names", "phosphor/block.paths", "phosphor/volume.levels"], apart := false, laid := [("phosphor/block.names", laid_phosphor_block_names), ("phosphor/block.paths", laid_phosphor_block_paths), ("phosphor/region.portPlaces", laid_phosphor_region_portPlaces), ("phosphor/regs.mayHave", laid_phosphor_regs_mayHave), ("phosphor/volume.levels", laid_phosphor_volume_levels), ("errors.errorType", laid_errors_errorType), ("phosphor/card.classes", laid_phosphor_card_classes), ("phosphor/irq.vectors", laid_phosphor_irq_vectors), ("phosphor/cpu.videoPorts", laid_phosphor_cpu_videoPorts), ("phosphor/sprites.heights", laid_phosphor_sprites_heights)], narrowed := true }
def ConsoleCountsUptoSaid : Prop := consoleCountsUptoRow.holds Tryz.pinned (OpenSpec.upto consoleCountsSpec)

end Rows
end Go.Proofs.YtdiidjehdginnaaGreatDoor
