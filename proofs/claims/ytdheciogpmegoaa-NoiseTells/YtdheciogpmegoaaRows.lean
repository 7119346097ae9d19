/-
  No cell of these rows narrows 'for every input' (looked for: loops, veiled, ifaces, maps, wideKeys, modest, calm, conditions, laid).
  DERIVED. THE GIVEN ROWS OF THIS SEAT. 4 by the template 'for every input the law returns true; each argument reads behind the call as it read before'; 0 by the template 'total and deterministic' (their statements: YtdheciogpmegoaaTotals.lean).
  GIVEN WITH THE SEED: the statements are not yours to turn. If you find one false, say at which input.
  Laid BY PROGRAM, IN A SANDBOX (cutbox-rows.mjs): the forced cells as the released guide's own fill.sh prints them over the translation 23ba82ef50867a72… (all of the seat's roots in one cut). By AI agents, Wed Nov 11 2026. No macro, syntax, notation, axiom, sorry.
-/
import Derived.Test.YtdheciogpmegoaaChecked
import GoSem.Claim
import GoSem.ClaimJoined
import GoSem.ClaimMapViews
import Derived.JoinedTies
import Derived.KernelRfl
namespace Go.Proofs.Ytdheciogpmegoaa
/- THE CELL 'sum', in the pinned program and in every row, IS THE sha256 OF THE DUMP (.gsa) THAT YtdheciogpmegoaaProg.lean LOADS. Nothing in Lean hashes anything: it is a label: what it is worth is what the hold of that sum in a sandbox is worth. -/
noncomputable def Try.pinned : Pinned := { name := "ytdheciogpmegoaa", sum := "23ba82ef50867a7269847ba978191b3b29f3cf5fbddc168c66d743cd5d9ac4c4", checked := Try.checked }
namespace Rows
def none {H : Type} : Left H := { results := [], args := [] }

/-- 'phosphorlaw21.NoiseTells': WHATEVER THE INPUT: true; the input reads as it did. -/
def noiseTellsSpec : ChangeSpec := { name := "noiseTells", fn := fun _ => fun
  | [d1, d2, d3] => { results := [.lit (.bool true)], args := [d1, d2, d3] }
  | _ => none }
def noiseTellsRow : OpenClaim := { program := "ytdheciogpmegoaa", sum := "23ba82ef50867a7269847ba978191b3b29f3cf5fbddc168c66d743cd5d9ac4c4", func := "phosphor/phosphorlaw21.NoiseTells", spec := "noiseTells", apart := false }
def NoiseTellsSaid : Prop := noiseTellsRow.holds Try.pinned (OpenSpec.ofChange noiseTellsSpec)

/-- ITS FALSE NEIGHBOUR: 'it returns false'. Refute it at one input. -/
def noiseTellsWrong : ChangeSpec := { name := "noiseTells", fn := fun _ => fun
  | [d1, d2, d3] => { results := [.lit (.bool false)], args := [d1, d2, d3] }
  | _ => none }
def NoiseTellsWrongFalsely : Prop := noiseTellsRow.holds Try.pinned (OpenSpec.ofChange noiseTellsWrong)

/-- 'phosphorlaw21.NoiseParts': WHATEVER THE INPUT: true; the input reads as it did. -/
def noisePartsSpec : ChangeSpec := { name := "noiseParts", fn := fun _ => fun
  | [d1, d2, d3] => { results := [.lit (.bool true)], args := [d1, d2, d3] }
  | _ => none }
def noisePartsRow : OpenClaim := { program := "ytdheciogpmegoaa", sum := "23ba82ef50867a7269847ba978191b3b29f3cf5fbddc168c66d743cd5d9ac4c4", func := "phosphor/phosphorlaw21.NoiseParts", spec := "noiseParts", apart := false }
def NoisePartsSaid : Prop := noisePartsRow.holds Try.pinned (OpenSpec.ofChange noisePartsSpec)

/-- ITS FALSE NEIGHBOUR: 'it returns false'. Refute it at one input. -/
def noisePartsWrong : ChangeSpec := { name := "noiseParts", fn := fun _ => fun
  | [d1, d2, d3] => { results := [.lit (.bool false)], args := [d1, d2, d3] }
  | _ => none }
def NoisePartsWrongFalsely : Prop := noisePartsRow.holds Try.pinned (OpenSpec.ofChange noisePartsWrong)

/-- 'phosphorlaw21.NoiseApart': WHATEVER THE INPUT: true; the input reads as it did. -/
def noiseApartSpec : ChangeSpec := { name := "noiseApart", fn := fun _ => fun
  | [d1, d2] => { results := [.lit (.bool true)], args := [d1, d2] }
  | _ => none }
def noiseApartRow : OpenClaim := { program := "ytdheciogpmegoaa", sum := "23ba82ef50867a7269847ba978191b3b29f3cf5fbddc168c66d743cd5d9ac4c4", func := "phosphor/phosphorlaw21.NoiseApart", spec := "noiseApart", apart := false }
def NoiseApartSaid : Prop := noiseApartRow.holds Try.pinned (OpenSpec.ofChange noiseApartSpec)

/-- ITS FALSE NEIGHBOUR: 'it returns false'. Refute it at one input. -/
def noiseApartWrong : ChangeSpec := { name := "noiseApart", fn := fun _ => fun
  | [d1, d2] => { results := [.lit (.bool false)], args := [d1, d2] }
  | _ => none }
def NoiseApartWrongFalsely : Prop := noiseApartRow.holds Try.pinned (OpenSpec.ofChange noiseApartWrong)

/-- 'phosphorlaw21.NoisePeriods': WHATEVER THE INPUT: true; the input reads as it did. -/
def noisePeriodsSpec : ChangeSpec := { name := "noisePeriods", fn := fun _ => fun
  | [d] => { results := [.lit (.bool true)], args := [d] }
  | _ => none }
def noisePeriodsRow : OpenClaim := { program := "ytdheciogpmegoaa", sum := "23ba82ef50867a7269847ba978191b3b29f3cf5fbddc168c66d743cd5d9ac4c4", func := "phosphor/phosphorlaw21.NoisePeriods", spec := "noisePeriods", apart := false }
def NoisePeriodsSaid : Prop := noisePeriodsRow.holds Try.pinned (OpenSpec.ofChange noisePeriodsSpec)

/-- ITS FALSE NEIGHBOUR: 'it returns false'. Refute it at one input. -/
def noisePeriodsWrong : ChangeSpec := { name := "noisePeriods", fn := fun _ => fun
  | [d] => { results := [.lit (.bool false)], args := [d] }
  | _ => none }
def NoisePeriodsWrongFalsely : Prop := noisePeriodsRow.holds Try.pinned (OpenSpec.ofChange noisePeriodsWrong)

/- THE SECOND FORM. 'bulk': how many values and letters a reading holds, each counted each time it is reached (what is shared counts as often as it is met; a slice's spare places count too). A statement '..UptoSaid' is the law's where the arguments, and the package variables that the reading takes, are together of bulk at most 1048576: NARROWER than '..Said'. Prove '..Said' where nothing that the law and all that it calls make is longer than what came in: it says more and counts as full. Else prove '..UptoSaid'. A law counts once. -/
mutual
def uptoBulk {H : Type} : DataW H → Nat
  | .lit (.string bytes) => bytes.length + 1
  | .lit _ => 1
  | .nil => 1
  | .ptr d => uptoBulk d + 1
  | .slice elems spare => uptoBulkAll elems + uptoBulkAll spare + 1
  | .agg parts => uptoBulkAll parts + 1
  | .iface _ d => uptoBulk d + 1
  | .map entries => uptoBulkEntries entries + 1
  | .held _ => 1
def uptoBulkAll {H : Type} : List (DataW H) → Nat
  | [] => 0
  | d :: r => uptoBulk d + uptoBulkAll r
def uptoBulkEntries {H : Type} : List (Lit × DataW H) → Nat
  | [] => 0
  | x :: r => uptoBulkEntry x + uptoBulkEntries r
def uptoBulkEntry {H : Type} : Lit × DataW H → Nat
  | (.string bytes, d) => bytes.length + uptoBulk d + 1
  | (_, d) => uptoBulk d + 1
 end
def uptoSmall : (H : Type) → List (DataW H) → Bool := fun _ ds => decide (uptoBulkAll ds ≤ 1048576)
def OpenSpec.upto (s : _root_.Go.ChangeSpec) : _root_.Go.OpenSpec := { _root_.Go.OpenSpec.ofChange s with cond := some uptoSmall }

/-- 'phosphorlaw21.NoiseTells', WHERE WHAT IT READS IS OF BULK AT MOST 1048576: true; the input reads as it did. -/
def noiseTellsUptoRow : OpenClaim := { program := "ytdheciogpmegoaa", sum := "23ba82ef50867a7269847ba978191b3b29f3cf5fbddc168c66d743cd5d9ac4c4", func := "phosphor/phosphorlaw21.NoiseTells", spec := "noiseTells", apart := false, narrowed := true }
def NoiseTellsUptoSaid : Prop := noiseTellsUptoRow.holds Try.pinned (OpenSpec.upto noiseTellsSpec)

/-- 'phosphorlaw21.NoiseParts', WHERE WHAT IT READS IS OF BULK AT MOST 1048576: true; the input reads as it did. -/
def noisePartsUptoRow : OpenClaim := { program := "ytdheciogpmegoaa", sum := "23ba82ef50867a7269847ba978191b3b29f3cf5fbddc168c66d743cd5d9ac4c4", func := "phosphor/phosphorlaw21.NoiseParts", spec := "noiseParts", apart := false, narrowed := true }
def NoisePartsUptoSaid : Prop := noisePartsUptoRow.holds Try.pinned (OpenSpec.upto noisePartsSpec)

/-- 'phosphorlaw21.NoiseApart', WHERE WHAT IT READS IS OF BULK AT MOST 1048576: true; the input reads as it did. -/
def noiseApartUptoRow : OpenClaim := { program := "ytdheciogpmegoaa", sum := "23ba82ef50867a7269847ba978191b3b29f3cf5fbddc168c66d743cd5d9ac4c4", func := "phosphor/phosphorlaw21.NoiseApart", spec := "noiseApart", apart := false, narrowed := true }
def NoiseApartUptoSaid : Prop := noiseApartUptoRow.holds Try.pinned (OpenSpec.upto noiseApartSpec)

/-- 'phosphorlaw21.NoisePeriods', WHERE WHAT IT READS IS OF BULK AT MOST 1048576: true; the input reads as it did. -/
def noisePeriodsUptoRow : OpenClaim := { program := "ytdheciogpmegoaa", sum := "23ba82ef50867a7269847ba978191b3b29f3cf5fbddc168c66d743cd5d9ac4c4", func := "phosphor/phosphorlaw21.NoisePeriods", spec := "noisePeriods", apart := false, narrowed := true }
def NoisePeriodsUptoSaid : Prop := noisePeriodsUptoRow.holds Try.pinned (OpenSpec.upto noisePeriodsSpec)

end Rows
end Go.Proofs.Ytdheciogpmegoaa
