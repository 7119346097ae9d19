/- What the laws of layer 14 share: the geometry of any setup, its bounds, a block that holds one, and how many lines are shown. -/
import Derived.Test.YtakacojablpfoaaOf14
namespace Go.Proofs.Ytakacojablpfoaa
open Go.RowKit
set_option linter.unusedVariables false

theorem quo_dot (a : Int) : 341 ≤ 1365 / inB 2 4 a ∧ 1365 / inB 2 4 a ≤ 682 ∧ (1365 / inB 2 4 a) * inB 2 4 a ≤ 1365 := by
  have h := inB_le 2 4 a (by decide)
  have : inB 2 4 a = 2 ∨ inB 2 4 a = 3 ∨ inB 2 4 a = 4 := by omega
  rcases this with h | h | h <;> rw [h] <;> decide
theorem lin_le (b : Int) : 262 ≤ linOf b ∧ linOf b ≤ 263 := inB_le 262 263 b (by decide)
theorem most_le (a : Int) : 341 ≤ mostOf a ∧ mostOf a ≤ 512 := by
  have h := quo_dot a
  unfold mostOf
  omega
theorem top_le (b d : Int) : 3 ≤ topOf b d ∧ topOf b d ≤ linOf b := by
  have h := lin_le b
  have k := aboveOf_le d
  unfold topOf inB
  omega
theorem bot_le (b d f : Int) : topOf b d ≤ botOf b d f ∧ botOf b d f ≤ linOf b := by
  have h := lin_le b
  have k := top_le b d
  have i := heightOf_le f
  unfold botOf inB
  omega
theorem blk_le (b d f : Int) : 0 ≤ blkOf b d f ∧ blkOf b d f < linOf b := by
  have h := lin_le b
  have k := top_le b d
  have i := bot_le b d f
  unfold blkOf
  omega
theorem wide_le (a c : Int) : 8 ≤ wideOf a c ∧ wideOf a c ≤ 512 ∧ wideOf a c ≤ 1365 / inB 2 4 a := by
  have h := quo_dot a
  have k := widthOf_le c
  have m : mostOf a = min 512 (1365 / inB 2 4 a) := rfl
  unfold wideOf
  generalize mostOf a = u at *
  generalize widthOf c = o at *
  generalize 1365 / inB 2 4 a = q at *
  unfold inB
  omega
theorem wide_fits (a c : Int) : wideOf a c * inB 2 4 a ≤ 1365 := by
  have h := quo_dot a
  have k := wide_le a c
  have i := inB_le 2 4 a (by decide)
  have j : wideOf a c * inB 2 4 a ≤ (1365 / inB 2 4 a) * inB 2 4 a := Int.mul_le_mul_of_nonneg_right k.2.2 (by omega)
  omega

theorem of_any (a b c d f g : Int) (w : World) : Calls Try.prog 8 #[.agg #[.int .i64 a, .int .i64 b, .int .i64 c, .int .i64 d, .int .i64 f, .int .i64 g]] w fun e w' =>
      e = .returned (.agg #[.int .i64 (wideOf a c), .int .i64 (topOf b d), .int .i64 (botOf b d f), .int .i64 (blkOf b d f), .int .i64 (linOf b)]) ∧ Below w.heap.size w w' := by
  have h1 := quo_dot a
  have h2 := inB_le 2 4 a (by decide)
  have h3 := lin_le b
  have h4 := top_le b d
  have h5 := bot_le b d f
  have h6 := heightOf_le f
  have em : 1365 / inB 2 4 a < 512 ∧ 1365 / inB 2 4 a = mostOf a ∨ 512 ≤ 1365 / inB 2 4 a ∧ 512 = mostOf a := by unfold mostOf; omega
  have ek : botOf b d f < linOf b ∧ botOf b d f = blkOf b d f ∨ linOf b ≤ botOf b d f ∧ linOf b - 1 = blkOf b d f := by unfold blkOf; omega
  exact of_walk a b c d f g w (inB 2 4 a) (linOf b) (1365 / inB 2 4 a) (mostOf a) (aboveOf d) (topOf b d) (botOf b d f) (heightOf f) (widthOf c) (wideOf a c) (blkOf b d f) rfl rfl (Int.tdiv_eq_ediv_of_nonneg (by decide)) em rfl rfl rfl rfl rfl rfl ek
    h2.1 h2.2 h1.1 h1.2.1 h3.1 h3.2 (by omega) (by omega) h6.1 h6.2 (by omega) (by omega)
/-- The geometry of any setup, in letters. -/
theorem geo_of (a b c d f g : Int) : ∃ x t v k l : Int, (∀ w, Calls Try.prog 8 #[.agg #[.int .i64 a, .int .i64 b, .int .i64 c, .int .i64 d, .int .i64 f, .int .i64 g]] w fun e w' => e = .returned (.agg #[.int .i64 x, .int .i64 t, .int .i64 v, .int .i64 k, .int .i64 l]) ∧ Below w.heap.size w w') ∧
    8 ≤ x ∧ x ≤ 512 ∧ x * inB 2 4 a ≤ 1365 ∧ 262 ≤ l ∧ l ≤ 263 ∧ 3 ≤ t ∧ t ≤ v ∧ v ≤ l ∧ 0 ≤ k ∧ k < l :=
  ⟨_, _, _, _, _, of_any a b c d f g, (wide_le a c).1, (wide_le a c).2.1, wide_fits a c, (lin_le b).1, (lin_le b).2, (top_le b d).1, (bot_le b d f).1, (bot_le b d f).2, (blk_le b d f).1, (blk_le b d f).2⟩

/-- The line of the picture; below 0: none. -/
def shownOf (t v n : Int) : Int := if t ≤ n ∧ n < v then n - t else -1
theorem shown_any (x t v k l n : Int) (w : World) (t0 : 0 ≤ t) (v1 : v ≤ 1000) : Calls Try.prog 12 #[.agg #[.int .i64 x, .int .i64 t, .int .i64 v, .int .i64 k, .int .i64 l], .int .i64 n] w fun e w' => e = .returned (.int .i64 (shownOf t v n)) ∧ Below w.heap.size w w' := by
  unfold shownOf
  split
  · next h => exact shown_yes x t v k l n w h.1 h.2 t0 v1
  · next h => exact shown_no x t v k l n w (by omega)
/-- How many lines ahead of line j are shown. -/
def cntTo (t v j : Int) : Int := max 0 (min j v - t)
theorem cnt_in {t v j : Int} (h0 : t ≤ j) (h1 : j < v) : shownOf t v j = j - t ∧ cntTo t v j = j - t ∧ cntTo t v (j + 1) = j - t + 1 := by
  unfold shownOf cntTo
  rw [if_pos ⟨h0, h1⟩]
  omega
theorem cnt_out {t v j : Int} (h : j < t ∨ v ≤ j) (tv : t ≤ v) : shownOf t v j = -1 ∧ cntTo t v (j + 1) = cntTo t v j := by
  unfold shownOf cntTo
  rw [if_neg (by omega)]
  omega
theorem cnt_end {t v j : Int} (h : v ≤ j) (tv : t ≤ v) : cntTo t v j = v - t := by
  unfold cntTo
  omega
theorem cnt_low {t v j : Int} (h : j ≤ t) (tv : t ≤ v) : cntTo t v j = 0 := by
  unfold cntTo
  omega
theorem cnt_le {t v j : Int} (tv : t ≤ v) : 0 ≤ cntTo t v j ∧ cntTo t v j ≤ v - t := by
  unfold cntTo
  omega

/-- Block b holds a geometry. -/
def HasG (w : World) (b : Nat) (x t v k l : Int) : Prop := w.heap[b]? = some (.cells #[.int .i64 x, .int .i64 t, .int .i64 v, .int .i64 k, .int .i64 l] 25 (0, 0))
theorem HasG.next {w w' : World} {b : Nat} {x t v k l : Int} (h : HasG w b x t v k l) (q : Below w.heap.size w w') : HasG w' b x t v k l := (q.block b (lt_of_block h)).trans h
theorem HasG.alloc {w : World} {b : Nat} {x t v k l : Int} (h : HasG w b x t v k l) (o : Obj) : HasG (w.alloc o) b x t v k l := h.next ((Below.refl _ w).alloc (Nat.le_refl _) _)
theorem hasG_new (w : World) (x t v k l : Int) : HasG (w.alloc (.cells #[.int .i64 x, .int .i64 t, .int .i64 v, .int .i64 k, .int .i64 l] 25)) w.heap.size x t v k l := heap_alloc_new _ _
theorem HasG.lt {w : World} {b : Nat} {x t v k l : Int} (h : HasG w b x t v k l) : b < w.heap.size := lt_of_block h
theorem HasG.c0 {w : World} {b : Nat} {x t v k l : Int} (h : HasG w b x t v k l) : w.cell? ⟨b, 0, none⟩ = some (.int .i64 x) := (cell_of_row w b 0 _ _ _ h).trans rfl
theorem HasG.c1 {w : World} {b : Nat} {x t v k l : Int} (h : HasG w b x t v k l) : w.cell? ⟨b, 1, none⟩ = some (.int .i64 t) := (cell_of_row w b 1 _ _ _ h).trans rfl
theorem HasG.c2 {w : World} {b : Nat} {x t v k l : Int} (h : HasG w b x t v k l) : w.cell? ⟨b, 2, none⟩ = some (.int .i64 v) := (cell_of_row w b 2 _ _ _ h).trans rfl
theorem HasG.c3 {w : World} {b : Nat} {x t v k l : Int} (h : HasG w b x t v k l) : w.cell? ⟨b, 3, none⟩ = some (.int .i64 k) := (cell_of_row w b 3 _ _ _ h).trans rfl
theorem HasG.c4 {w : World} {b : Nat} {x t v k l : Int} (h : HasG w b x t v k l) : w.cell? ⟨b, 4, none⟩ = some (.int .i64 l) := (cell_of_row w b 4 _ _ _ h).trans rfl
end Go.Proofs.Ytakacojablpfoaa
