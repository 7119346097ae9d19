/- Small helpers of the laws of layer 18: pictures in variables, tables of four words. No word of the program is in it but its types. -/
import Derived.Test.YtnhjhmfiapjenaaDoorLaw18
import Derived.Test.YtnhjhmfiapjenaaDoorLine18
import Derived.Test.YtnhjhmfiapjenaaDoorRuns18
namespace Go.Proofs.YtnhjhmfiapjenaaDoor
open Go.RowKit
set_option linter.unusedVariables false

/-- Block b holds a picture: its colours in block c, and whether they are in front in block f. -/
def HasP (w : World) (b c f N : Nat) : Prop := w.heap[b]? = some (.cells #[.slice (some ⟨c, 0, none⟩) N N, .slice (some ⟨f, 0, none⟩) N N] 58 (0, 0))
theorem HasP.lt {w : World} {b c f N : Nat} (h : HasP w b c f N) : b < w.heap.size := lt_of_block h
theorem HasP.next {w : World} {b c f N : Nat} (h : HasP w b c f N) {w' : World} (k : Below w.heap.size w w') : HasP w' b c f N := (k.block b (lt_of_block h)).trans h
theorem HasP.c0 {w : World} {b c f N : Nat} (h : HasP w b c f N) : w.cell? ⟨b, 0, none⟩ = some (.slice (some ⟨c, 0, none⟩) N N) := (cell_of_row w b 0 _ _ _ h).trans rfl
theorem HasP.c1 {w : World} {b c f N : Nat} (h : HasP w b c f N) : w.cell? ⟨b, 1, none⟩ = some (.slice (some ⟨f, 0, none⟩) N N) := (cell_of_row w b 1 _ _ _ h).trans rfl
/-- A table of four words. -/
def fourT (a0 a1 a2 a3 : Int) (j : Nat) : Int := if j = 0 then a0 else if j = 1 then a1 else if j = 2 then a2 else if j = 3 then a3 else 0
theorem built_4 (a0 a1 a2 a3 : Int) (w : World) : (Instr.build 30 #[(0, .int .i64 a0), (1, .int .i64 a1), (2, .int .i64 a2), (3, .int .i64 a3)]).run Tryd.prog w = .ok (.agg (tabL (fourT a0 a1 a2 a3)).toArray) w := by kernel_rfl
theorem fourT_on (a0 a1 a2 a3 y : Int) (hy : 0 ≤ y) (k : Nat) (hk : 1 ≤ k) : onT (fourT a0 a1 a2 a3) y k = false :=
  on_zero _ y k hy (by unfold fourT; rw [if_neg (by omega), if_neg (by omega), if_neg (by omega), if_neg (by omega)]) (by unfold fourT; rw [if_neg (by omega), if_neg (by omega), if_neg (by omega), if_neg (by omega)])
theorem fourT_run (g : Int → Int) (a0 a1 a2 a3 y : Int) (hy : 0 ≤ y) : runT g (fourT a0 a1 a2 a3) y 64 = runT g (fourT a0 a1 a2 a3) y 1 := runT_alone g _ y (fun k hk => fourT_on a0 a1 a2 a3 y hy k hk) 63
end Go.Proofs.YtnhjhmfiapjenaaDoor
