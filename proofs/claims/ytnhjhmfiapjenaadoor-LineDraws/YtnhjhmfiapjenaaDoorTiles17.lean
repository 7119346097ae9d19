/- Package tiles: the contracts of isMap, onMap, colourOf, row and Pixel, over words that are told (of video memory that a call made, or of nil). -/
import Derived.Test.YtnhjhmfiapjenaaDoorPlain17
import Derived.Test.YtnhjhmfiapjenaaDoorGenA
namespace Go.Proofs.YtnhjhmfiapjenaaDoor.T17
open Go.RowKit
set_option linter.unusedVariables false

/-- Block b holds a view. -/
def HasV (w : World) (b : Nat) (W H X Y : Int) : Prop := w.heap[b]? = some (.cells #[.int .i64 W, .int .i64 H, .int .i64 X, .int .i64 Y] 55 (0, 0))
theorem HasV.lt {w : World} {b : Nat} {W H X Y : Int} (h : HasV w b W H X Y) : b < w.heap.size := lt_of_block h
theorem HasV.next {w : World} {b : Nat} {W H X Y : Int} (h : HasV w b W H X Y) {w' : World} (k : Below w.heap.size w w') : HasV w' b W H X Y := (k.block b (lt_of_block h)).trans h
theorem HasV.c0 {w : World} {b : Nat} {W H X Y : Int} (h : HasV w b W H X Y) : w.cell? ⟨b, 0, none⟩ = some (.int .i64 W) := (cell_of_row w b 0 _ _ _ h).trans rfl
theorem HasV.c1 {w : World} {b : Nat} {W H X Y : Int} (h : HasV w b W H X Y) : w.cell? ⟨b, 1, none⟩ = some (.int .i64 H) := (cell_of_row w b 1 _ _ _ h).trans rfl
theorem HasV.c2 {w : World} {b : Nat} {W H X Y : Int} (h : HasV w b W H X Y) : w.cell? ⟨b, 2, none⟩ = some (.int .i64 X) := (cell_of_row w b 2 _ _ _ h).trans rfl
theorem HasV.c3 {w : World} {b : Nat} {W H X Y : Int} (h : HasV w b W H X Y) : w.cell? ⟨b, 3, none⟩ = some (.int .i64 Y) := (cell_of_row w b 3 _ _ _ h).trans rfl
theorem HasV.frozen {w : World} {b : Nat} {W H X Y : Int} (h : HasV w b W H X Y) (j : Nat) : w.frozen? ⟨b, j, none⟩ = false := frozen_of_row w b j _ _ h
theorem isMap_any (W H X Y : Int) (w : World) : Calls Tryd.prog 31 #[.agg #[.int .i64 W, .int .i64 H, .int .i64 X, .int .i64 Y]] w fun e w' => e = .returned (.bool (okMap W H)) ∧ Below w.heap.size w w' := by
  have HO := hide (show okMap W H = ((W == 32 || W == 64 || W == 128) && (H == 32 || H == 64)) from rfl)
  generalize okMap W H = ok at HO ⊢
  obtain ⟨b1, h1⟩ : ∃ b, (W == 32) = b := ⟨_, rfl⟩
  obtain ⟨b2, h2⟩ : ∃ b, (W == 64) = b := ⟨_, rfl⟩
  obtain ⟨b3, h3⟩ : ∃ b, (W == 128) = b := ⟨_, rfl⟩
  obtain ⟨b4, h4⟩ : ∃ b, (H == 32) = b := ⟨_, rfl⟩
  obtain ⟨b5, h5⟩ : ∃ b, (H == 64) = b := ⟨_, rfl⟩
  rw [h1, h2, h3, h4, h5] at HO
  have BA := hide ((Below.refl _ w).alloc (Nat.le_refl _) (.cells #[.int .i64 W, .int .i64 H, .int .i64 X, .int .i64 Y] 55))
  cases b1 <;> cases b2 <;> cases b3 <;> cases b4 <;> cases b5
  all_goals
    go_enter Tryd.func31, Tryd.ntmps31
    go_wp2
    go_ret
    exact ⟨ret_bool HO.out.symm, BA.out⟩
theorem onMap_any (W H X Y x y p q : Int) (hW : 0 < W) (hW1 : W ≤ 128) (hH : 0 < H) (hH1 : H ≤ 64) (hp : onOf X x W = p) (hq : onOf Y y H = q) (w : World) : Calls Tryd.prog 32 #[.agg #[.int .i64 W, .int .i64 H, .int .i64 X, .int .i64 Y], .int .i64 x, .int .i64 y] w fun e w' => e = .returned (.tuple #[.int .i64 p, .int .i64 q]) ∧ Below w.heap.size w w' := by
  unfold onOf at hp hq
  have e1 : Int.tmod (X % 65536 + x % 65536) (8 * W) = p := by rw [Int.tmod_eq_emod_of_nonneg (by omega)]; exact hp
  have e2 : Int.tmod (Y % 65536 + y % 65536) (8 * H) = q := by rw [Int.tmod_eq_emod_of_nonneg (by omega)]; exact hq
  clear hp hq
  go_enter Tryd.func32, Tryd.ntmps32
  go_wp2_with fail
  refine under_name fun wa hwa => ?_
  have b0 : HasV wa w.heap.size W H X Y := by rw [hwa]; exact heap_alloc_new _ _
  have BA := hide (show Below w.heap.size w wa by rw [hwa]; exact (Below.refl _ w).alloc (Nat.le_refl _) _)
  clear hwa
  obtain ⟨z, hz⟩ : ∃ z, w.heap.size = z := ⟨_, rfl⟩
  rw [hz] at b0 ⊢
  clear hz
  have B0 := hide b0
  clear b0
  have k0 := kept_cell B0.out.c0 B0.out.lt
  have k2 := kept_cell B0.out.c2 B0.out.lt
  haveI := kept_some wa
  refine wp_region_kept (by kernel_rfl) (by kernel_rfl) ?_
  repeat (go_big_quiet_step ((first | (go_at_call 39; exact kept_same (word_any _ _)))))
  refine wpQuiet_nil ?_
  rintro _ ⟨wk, rfl⟩
  clear k0 k2
  obtain ⟨w1, hw1⟩ : ∃ w1, w1 = wk.val := ⟨_, rfl⟩
  rw [← hw1]
  have KB : Below wa.heap.size wa w1 := by rw [hw1]; exact wk.below
  clear hw1 wk
  have B1 := hide (B0.out.next KB)
  have BB := hide (bnext BA.out KB)
  clear KB B0 BA
  go_wp2_with fail
  have k1 := kept_cell B1.out.c1 B1.out.lt
  have k3 := kept_cell B1.out.c3 B1.out.lt
  haveI := kept_some w1
  refine wp_region_kept (by kernel_rfl) (by kernel_rfl) ?_
  repeat (go_big_quiet_step ((first | (go_at_call 39; exact kept_same (word_any _ _)))))
  refine wpQuiet_nil ?_
  rintro _ ⟨wj, rfl⟩
  clear k1 k3
  go_wp2
  go_ret2
  exact ⟨rfl, bnext BB.out wj.below⟩
theorem colour_any (a b k x : Int) (h0 : 0 ≤ k) (h1 : k < 8) (hx : colorOf a b k = x) (w : World) : Calls Tryd.prog 52 #[.int .i64 a, .int .i64 b, .int .i64 k] w fun e w' => e = .returned (.int .i64 x) ∧ w' = w := by
  unfold colorOf at hx
  have b1 := bitOf_01 a k
  have b2 := bitOf_01 a (k + 8)
  have b3 := bitOf_01 b k
  have b4 := bitOf_01 b (k + 8)
  have HX := hide hx
  clear hx
  go_enter Tryd.func52, Tryd.ntmps52
  go_wp2_with (first | (go_at_call 29; refine (bit_any _ _ _).mono ?_; rintro e w' ⟨rfl, hw⟩; subst w'))
  go_ret
  exact ⟨ret_int HX.out, rfl⟩
end Go.Proofs.YtnhjhmfiapjenaaDoor.T17
