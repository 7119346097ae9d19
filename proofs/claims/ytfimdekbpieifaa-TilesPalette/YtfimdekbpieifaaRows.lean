/-
  No cell of these rows narrows 'for every input' (looked for: loops, veiled, ifaces, maps, wideKeys, modest, calm, conditions, laid).
  DERIVED. THE GIVEN ROWS OF THIS SEAT. 5 by the template 'for every input the law returns true; each argument reads behind the call as it read before'; 0 by the template 'total and deterministic' (their statements: YtfimdekbpieifaaTotals.lean).
  GIVEN WITH THE SEED: the statements are not yours to turn. If you find one false, say at which input.
  Laid BY PROGRAM, IN A SANDBOX (cutbox-rows.mjs): the forced cells as the released guide's own fill.sh prints them over the translation 685830175697fb7e… (all of the seat's roots in one cut). By AI agents, Wed Nov 11 2026. No macro, syntax, notation, axiom, sorry.
-/
import Derived.Test.YtfimdekbpieifaaChecked
import GoSem.Claim
import GoSem.ClaimJoined
import GoSem.ClaimMapViews
import Derived.JoinedTies
import Derived.KernelRfl
namespace Go.Proofs.Ytfimdekbpieifaa
/- THE CELL 'sum', in the pinned program and in every row, IS THE sha256 OF THE DUMP (.gsa) THAT YtfimdekbpieifaaProg.lean LOADS. Nothing in Lean hashes anything: it is a label: what it is worth is what the hold of that sum in a sandbox is worth. -/
noncomputable def Try.pinned : Pinned := { name := "ytfimdekbpieifaa", sum := "685830175697fb7ea00103d044cb14f398a1cd77bb788030fbcbb2af2b930a3e", checked := Try.checked }
namespace Rows
def none {H : Type} : Left H := { results := [], args := [] }

/-- 'phosphorlaw17.TilesPixel': WHATEVER THE INPUT: true; the input reads as it did. -/
def tilesPixelSpec : ChangeSpec := { name := "tilesPixel", fn := fun _ => fun
  | [d1, d2, d3] => { results := [.lit (.bool true)], args := [d1, d2, d3] }
  | _ => none }
def tilesPixelRow : OpenClaim := { program := "ytfimdekbpieifaa", sum := "685830175697fb7ea00103d044cb14f398a1cd77bb788030fbcbb2af2b930a3e", func := "phosphor/phosphorlaw17.TilesPixel", spec := "tilesPixel", apart := false }
def TilesPixelSaid : Prop := tilesPixelRow.holds Try.pinned (OpenSpec.ofChange tilesPixelSpec)

/-- ITS FALSE NEIGHBOUR: 'it returns false'. Refute it at one input. -/
def tilesPixelWrong : ChangeSpec := { name := "tilesPixel", fn := fun _ => fun
  | [d1, d2, d3] => { results := [.lit (.bool false)], args := [d1, d2, d3] }
  | _ => none }
def TilesPixelWrongFalsely : Prop := tilesPixelRow.holds Try.pinned (OpenSpec.ofChange tilesPixelWrong)

/-- 'phosphorlaw17.TilesLine': WHATEVER THE INPUT: true; the input reads as it did. -/
def tilesLineSpec : ChangeSpec := { name := "tilesLine", fn := fun _ => fun
  | [d1, d2, d3] => { results := [.lit (.bool true)], args := [d1, d2, d3] }
  | _ => none }
def tilesLineRow : OpenClaim := { program := "ytfimdekbpieifaa", sum := "685830175697fb7ea00103d044cb14f398a1cd77bb788030fbcbb2af2b930a3e", func := "phosphor/phosphorlaw17.TilesLine", spec := "tilesLine", apart := false }
def TilesLineSaid : Prop := tilesLineRow.holds Try.pinned (OpenSpec.ofChange tilesLineSpec)

/-- ITS FALSE NEIGHBOUR: 'it returns false'. Refute it at one input. -/
def tilesLineWrong : ChangeSpec := { name := "tilesLine", fn := fun _ => fun
  | [d1, d2, d3] => { results := [.lit (.bool false)], args := [d1, d2, d3] }
  | _ => none }
def TilesLineWrongFalsely : Prop := tilesLineRow.holds Try.pinned (OpenSpec.ofChange tilesLineWrong)

/-- 'phosphorlaw17.TilesRound': WHATEVER THE INPUT: true; the input reads as it did. -/
def tilesRoundSpec : ChangeSpec := { name := "tilesRound", fn := fun _ => fun
  | [d1, d2, d3] => { results := [.lit (.bool true)], args := [d1, d2, d3] }
  | _ => none }
def tilesRoundRow : OpenClaim := { program := "ytfimdekbpieifaa", sum := "685830175697fb7ea00103d044cb14f398a1cd77bb788030fbcbb2af2b930a3e", func := "phosphor/phosphorlaw17.TilesRound", spec := "tilesRound", apart := false }
def TilesRoundSaid : Prop := tilesRoundRow.holds Try.pinned (OpenSpec.ofChange tilesRoundSpec)

/-- ITS FALSE NEIGHBOUR: 'it returns false'. Refute it at one input. -/
def tilesRoundWrong : ChangeSpec := { name := "tilesRound", fn := fun _ => fun
  | [d1, d2, d3] => { results := [.lit (.bool false)], args := [d1, d2, d3] }
  | _ => none }
def TilesRoundWrongFalsely : Prop := tilesRoundRow.holds Try.pinned (OpenSpec.ofChange tilesRoundWrong)

/-- 'phosphorlaw17.TilesPalette': WHATEVER THE INPUT: true; the input reads as it did. -/
def tilesPaletteSpec : ChangeSpec := { name := "tilesPalette", fn := fun _ => fun
  | [d1, d2, d3] => { results := [.lit (.bool true)], args := [d1, d2, d3] }
  | _ => none }
def tilesPaletteRow : OpenClaim := { program := "ytfimdekbpieifaa", sum := "685830175697fb7ea00103d044cb14f398a1cd77bb788030fbcbb2af2b930a3e", func := "phosphor/phosphorlaw17.TilesPalette", spec := "tilesPalette", apart := false }
def TilesPaletteSaid : Prop := tilesPaletteRow.holds Try.pinned (OpenSpec.ofChange tilesPaletteSpec)

/-- ITS FALSE NEIGHBOUR: 'it returns false'. Refute it at one input. -/
def tilesPaletteWrong : ChangeSpec := { name := "tilesPalette", fn := fun _ => fun
  | [d1, d2, d3] => { results := [.lit (.bool false)], args := [d1, d2, d3] }
  | _ => none }
def TilesPaletteWrongFalsely : Prop := tilesPaletteRow.holds Try.pinned (OpenSpec.ofChange tilesPaletteWrong)

/-- 'phosphorlaw17.TilesEmpty': WHATEVER THE INPUT: true; the input reads as it did. -/
def tilesEmptySpec : ChangeSpec := { name := "tilesEmpty", fn := fun _ => fun
  | [d1, d2, d3] => { results := [.lit (.bool true)], args := [d1, d2, d3] }
  | _ => none }
def tilesEmptyRow : OpenClaim := { program := "ytfimdekbpieifaa", sum := "685830175697fb7ea00103d044cb14f398a1cd77bb788030fbcbb2af2b930a3e", func := "phosphor/phosphorlaw17.TilesEmpty", spec := "tilesEmpty", apart := false }
def TilesEmptySaid : Prop := tilesEmptyRow.holds Try.pinned (OpenSpec.ofChange tilesEmptySpec)

/-- ITS FALSE NEIGHBOUR: 'it returns false'. Refute it at one input. -/
def tilesEmptyWrong : ChangeSpec := { name := "tilesEmpty", fn := fun _ => fun
  | [d1, d2, d3] => { results := [.lit (.bool false)], args := [d1, d2, d3] }
  | _ => none }
def TilesEmptyWrongFalsely : Prop := tilesEmptyRow.holds Try.pinned (OpenSpec.ofChange tilesEmptyWrong)

/- THE SECOND FORM. 'bulk': how many values and letters a reading holds, each counted each time it is reached (what is shared counts as often as it is met; a slice's spare places count too). A statement '..UptoSaid' is the law's where the arguments, and the package variables that the reading takes, are together of bulk at most 1048576: NARROWER than '..Said'. Prove '..Said' where nothing that the law and all that it calls make is longer than what came in: it says more and counts as full. Else prove '..UptoSaid'. A law counts once. -/
mutual
def uptoBulk {H : Type} : DataW H → Nat
  | .lit (.string bytes) => bytes.length + 1
  | .lit _ => 1
  | .nil => 1
  | .ptr d => uptoBulk d + 1
  | .slice elems spare => uptoBulkAll elems + uptoBulkAll spare + 1
  | .agg parts => uptoBulkAll parts + 1
  | .iface _ d => uptoBulk d + 1
  | .map entries => uptoBulkEntries entries + 1
  | .held _ => 1
def uptoBulkAll {H : Type} : List (DataW H) → Nat
  | [] => 0
  | d :: r => uptoBulk d + uptoBulkAll r
def uptoBulkEntries {H : Type} : List (Lit × DataW H) → Nat
  | [] => 0
  | x :: r => uptoBulkEntry x + uptoBulkEntries r
def uptoBulkEntry {H : Type} : Lit × DataW H → Nat
  | (.string bytes, d) => bytes.length + uptoBulk d + 1
  | (_, d) => uptoBulk d + 1
 end
def uptoSmall : (H : Type) → List (DataW H) → Bool := fun _ ds => decide (uptoBulkAll ds ≤ 1048576)
def OpenSpec.upto (s : _root_.Go.ChangeSpec) : _root_.Go.OpenSpec := { _root_.Go.OpenSpec.ofChange s with cond := some uptoSmall }

/-- 'phosphorlaw17.TilesPixel', WHERE WHAT IT READS IS OF BULK AT MOST 1048576: true; the input reads as it did. -/
def tilesPixelUptoRow : OpenClaim := { program := "ytfimdekbpieifaa", sum := "685830175697fb7ea00103d044cb14f398a1cd77bb788030fbcbb2af2b930a3e", func := "phosphor/phosphorlaw17.TilesPixel", spec := "tilesPixel", apart := false, narrowed := true }
def TilesPixelUptoSaid : Prop := tilesPixelUptoRow.holds Try.pinned (OpenSpec.upto tilesPixelSpec)

/-- 'phosphorlaw17.TilesLine', WHERE WHAT IT READS IS OF BULK AT MOST 1048576: true; the input reads as it did. -/
def tilesLineUptoRow : OpenClaim := { program := "ytfimdekbpieifaa", sum := "685830175697fb7ea00103d044cb14f398a1cd77bb788030fbcbb2af2b930a3e", func := "phosphor/phosphorlaw17.TilesLine", spec := "tilesLine", apart := false, narrowed := true }
def TilesLineUptoSaid : Prop := tilesLineUptoRow.holds Try.pinned (OpenSpec.upto tilesLineSpec)

/-- 'phosphorlaw17.TilesRound', WHERE WHAT IT READS IS OF BULK AT MOST 1048576: true; the input reads as it did. -/
def tilesRoundUptoRow : OpenClaim := { program := "ytfimdekbpieifaa", sum := "685830175697fb7ea00103d044cb14f398a1cd77bb788030fbcbb2af2b930a3e", func := "phosphor/phosphorlaw17.TilesRound", spec := "tilesRound", apart := false, narrowed := true }
def TilesRoundUptoSaid : Prop := tilesRoundUptoRow.holds Try.pinned (OpenSpec.upto tilesRoundSpec)

/-- 'phosphorlaw17.TilesPalette', WHERE WHAT IT READS IS OF BULK AT MOST 1048576: true; the input reads as it did. -/
def tilesPaletteUptoRow : OpenClaim := { program := "ytfimdekbpieifaa", sum := "685830175697fb7ea00103d044cb14f398a1cd77bb788030fbcbb2af2b930a3e", func := "phosphor/phosphorlaw17.TilesPalette", spec := "tilesPalette", apart := false, narrowed := true }
def TilesPaletteUptoSaid : Prop := tilesPaletteUptoRow.holds Try.pinned (OpenSpec.upto tilesPaletteSpec)

/-- 'phosphorlaw17.TilesEmpty', WHERE WHAT IT READS IS OF BULK AT MOST 1048576: true; the input reads as it did. -/
def tilesEmptyUptoRow : OpenClaim := { program := "ytfimdekbpieifaa", sum := "685830175697fb7ea00103d044cb14f398a1cd77bb788030fbcbb2af2b930a3e", func := "phosphor/phosphorlaw17.TilesEmpty", spec := "tilesEmpty", apart := false, narrowed := true }
def TilesEmptyUptoSaid : Prop := tilesEmptyUptoRow.holds Try.pinned (OpenSpec.upto tilesEmptySpec)

end Rows
end Go.Proofs.Ytfimdekbpieifaa
