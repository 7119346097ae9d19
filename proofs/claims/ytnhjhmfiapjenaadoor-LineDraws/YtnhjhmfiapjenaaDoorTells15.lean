/- Package regs: the contracts of pair, Far, On, Map, Raster. -/
import Derived.Test.YtnhjhmfiapjenaaDoorRow15
namespace Go.Proofs.YtnhjhmfiapjenaaDoor.R15
open Go.RowKit
set_option linter.unusedVariables false

/-- A world under a name. -/
theorem named_calls {P : Program} {f : FuncId} {args : Array Value} {w : World} {Q : Ending → World → Prop} (h : ∀ u, u = w → Calls P f args u Q) : Calls P f args w Q := h w rfl
theorem named_code {P : Program} {c : Code} {Q : Exit → Act → World → Prop} {a : Act} {w : World} (h : ∀ u, u = w → Code.wp P c Q a u) : Code.wp P c Q a w := h w rfl
/-- Two bits, as a number. -/
def pairOf (n k : Int) : Nat := (bitOf n k + 2 * bitOf n (k + 1)).toNat
theorem pairOf_lt (n k : Int) : pairOf n k < 4 := by
  have h1 := bitOf_01 n k
  have h2 := bitOf_01 n (k + 1)
  unfold pairOf
  omega
theorem pairOf_is (n k : Int) : bitOf n k + 2 * bitOf n (k + 1) = (pairOf n k : Int) := by
  have h1 := bitOf_01 n k
  have h2 := bitOf_01 n (k + 1)
  unfold pairOf
  omega
theorem pair_any (n k : Int) (h0 : 0 ≤ k) (h1 : k < 15) (p : Nat) (hp : pairOf n k = p) (w : World) : Calls Tryd.prog 28 #[.int .i64 n, .int .i64 k] w fun e w' => e = .returned (.int .i64 (p : Int)) ∧ w' = w := by
  have b1 := bitOf_01 n k
  have b2 := bitOf_01 n (k + 1)
  have HP := hide (show bitOf n k + 2 * bitOf n (k + 1) = (p : Int) by rw [← hp]; exact pairOf_is n k)
  clear hp
  go_enter Tryd.func28, Tryd.ntmps28
  go_wp2_with (first | (go_at_call 29; refine (bit_any _ _ _).mono ?_; rintro e w' ⟨rfl, hw⟩; subst w'))
  go_ret
  exact ⟨ret_int HP.out, rfl⟩

def farL : List Int := [1, 32, 64, 128]
def wideL : List Int := [32, 64, 128, 128]
def highL : List Int := [32, 64]
def farOf (p : Nat) : Int := farL.getD p 0
def wideOf (p : Nat) : Int := wideL.getD p 0
def highOf2 (p : Nat) : Int := highL.getD p 0
theorem four_at (L : List Int) (hL : L.length = 4) (p : Nat) (hp : p < 4) : ((L.map (Value.int .i64)).toArray)[p]? = some (.int .i64 (L.getD p 0)) := by
  simp [List.getD, List.getElem?_eq_getElem (show p < L.length by omega)]
theorem two_at (L : List Int) (hL : L.length = 2) (p : Nat) (hp : p < 2) : ((L.map (Value.int .i64)).toArray)[p]? = some (.int .i64 (L.getD p 0)) := by
  simp [List.getD, List.getElem?_eq_getElem (show p < L.length by omega)]
theorem on_any (s : Int) (f : Nat → Int) (k : Int) (w : World) : Calls Tryd.prog 21 #[.agg (rowG s f), .int .i64 k] w fun e w' => e = .returned (.bool (bitOf (f 5) k == 1)) ∧ Below w.heap.size w w' := by
  have c5 : (w.alloc (.cells (rowG s f) 39)).cell? ⟨w.heap.size, 6, none⟩ = some (.int .i64 (f 5)) := (hasG_new 39 w s f).at 5 (by decide)
  have B := hide ((Below.refl _ w).alloc (Nat.le_refl _) (.cells (rowG s f) 39))
  go_enter Tryd.func21, Tryd.ntmps21
  go_wp2_with (first | (go_at_call 29; refine (bit_any _ _ _).mono ?_; rintro e w' ⟨rfl, hw⟩; subst w'))
  go_ret
  exact ⟨rfl, B.out⟩
/-- Is the line the one that is told? -/
def rasOf (t l : Int) : Bool := decide (64 ≤ t ∧ l = t - 64)
theorem map_any (s : Int) (f : Nat → Int) (p q : Nat) (hp : pairOf (f 9) 4 = p) (hq : bitOf (f 9) 6 = (q : Int)) (w : World) : Calls Tryd.prog 12 #[.agg (rowG s f)] w fun e w' => e = .returned (.tuple #[.int .i64 (wideOf p), .int .i64 (highOf2 q)]) ∧ Below w.heap.size w w' := by
  have CP := hide (pair_any (f 9) 4 (by decide) (by decide) p hp)
  have CB := hide (bit_any (f 9) 6)
  rw [hq] at CB
  have hp4 : p < 4 := by rw [← hp]; exact pairOf_lt _ _
  have hq2 : q < 2 := by have := bitOf_01 (f 9) 6; omega
  clear hp hq
  have V := (((hasG_new 39 w s f).alloc (.cells #[.int .i64 32, .int .i64 64, .int .i64 128, .int .i64 128] 78)).alloc (.cells #[.int .i64 32, .int .i64 64] 79))
  have c9 : (((w.alloc (.cells (rowG s f) 39)).alloc (.cells #[.int .i64 32, .int .i64 64, .int .i64 128, .int .i64 128] 78)).alloc (.cells #[.int .i64 32, .int .i64 64] 79)).cell? ⟨w.heap.size, 10, none⟩ = some (.int .i64 (f 9)) := V.at 9 (by decide)
  have B := hide ((((Below.refl _ w).alloc (Nat.le_refl _) (.cells (rowG s f) 39)).alloc (by simp) (.cells #[.int .i64 32, .int .i64 64, .int .i64 128, .int .i64 128] 78)).alloc (by simp; omega) (.cells #[.int .i64 32, .int .i64 64] 79))
  have Z4 := hide ((((Below.refl _ _).alloc (Nat.le_refl _) (.cells #[.int .i64 32, .int .i64 64] 79)).block (w.heap.size + 1) (by simp)).trans (heap_alloc2_new w (.cells (rowG s f) 39) (.cells #[.int .i64 32, .int .i64 64, .int .i64 128, .int .i64 128] 78)))
  have Z2 := hide (heap_alloc2_new (w.alloc (.cells (rowG s f) 39)) (.cells #[.int .i64 32, .int .i64 64, .int .i64 128, .int .i64 128] 78) (.cells #[.int .i64 32, .int .i64 64] 79))
  clear V
  go_enter Tryd.func12, Tryd.ntmps12
  go_wp2_with fail
  refine named_code fun wr hwr => ?_
  rw [← hwr] at B Z4 Z2 c9
  clear hwr
  have k4 := kept_cell ((cell_of_row _ (w.heap.size + 1) p _ _ _ Z4.out).trans (four_at wideL rfl p hp4)) (lt_of_block Z4.out)
  have z2 : wr.heap[w.heap.size + 2]? = some (.cells #[.int .i64 32, .int .i64 64] 79) := by
    have h := Z2.out
    simp at h
    exact h
  have k2 := kept_cell ((cell_of_row _ (w.heap.size + 2) q _ _ _ z2).trans (two_at highL rfl q hq2)) (lt_of_block z2)
  generalize hx : wideL.getD p 0 = x at k4
  generalize hy : highL.getD q 0 = y at k2
  have HX := hide (show wideOf p = x from hx)
  have HY := hide (show highOf2 q = y from hy)
  clear hx hy Z4 Z2 z2 c9
  haveI := kept_some wr
  refine wp_region_kept (by kernel_rfl) (by kernel_rfl) ?_
  repeat (go_big_quiet_step ((first | (go_at_call 28; exact kept_same (CP.out _)) | (go_at_call 29; exact kept_same (CB.out _)))))
  refine wpQuiet_nil ?_
  rintro _ ⟨wk, rfl⟩
  clear k4 k2
  go_wp2_with fail
  go_ret2
  exact ⟨ret_two HX.out.symm HY.out.symm, bnext B.out wk.below⟩
end Go.Proofs.YtnhjhmfiapjenaaDoor.R15
