/- What the document says of the background's pixels: plain numbers, the words as a function of their places. No word of the program is in it. -/
import Derived.Test.YtnhjhmfiapjenaaDoorLines
namespace Go.Proofs.YtnhjhmfiapjenaaDoor.T17
open Go.RowKit
set_option linter.unusedVariables false

/-- Whether there are maps of that width and height. -/
def okMap (W H : Int) : Bool := (W == 32 || W == 64 || W == 128) && (H == 32 || H == 64)
/-- Where on the map a pixel lies. -/
def onOf (A x W : Int) : Int := (A % 65536 + x % 65536) % (8 * W)
def colorOf (a b k : Int) : Int := bitOf a k + 2 * bitOf a (k + 8) + 4 * bitOf b k + 8 * bitOf b (k + 8)
def pixC (c a b k : Int) : Int := if colorOf a b k = 0 then 0 else c / 4096 * 16 + colorOf a b k
def cellG (g : Int → Int) (W p q : Int) : Int := g (q / 8 * W + p / 8)
/-- Where a cell's words lie, in the row that is as high as q. -/
def lieOf (c q : Int) : Int := c % 4096 * 16 + q % 8
/-- The j-th pixel of the row, as high as q, of the cell that holds p. -/
def pixG (g : Int → Int) (W p q : Int) (j : Int) : Int := pixC (cellG g W p q) (g (lieOf (cellG g W p q) q)) (g (lieOf (cellG g W p q) q + 8)) (7 - j)
def pixelG (g : Int → Int) (W H X Y x y : Int) : Int := if okMap W H = true then pixG g W (onOf X x W) (onOf Y y H) (onOf X x W % 8) else 0
theorem okMap_iff (W H : Int) : okMap W H = true ↔ (W = 32 ∨ W = 64 ∨ W = 128) ∧ (H = 32 ∨ H = 64) := by
  unfold okMap
  simp only [Bool.and_eq_true, Bool.or_eq_true, beq_iff_eq, or_assoc]
theorem colorOf_le (a b k : Int) : 0 ≤ colorOf a b k ∧ colorOf a b k ≤ 15 := by
  unfold colorOf
  have h1 := bitOf_01 a k
  have h2 := bitOf_01 a (k + 8)
  have h3 := bitOf_01 b k
  have h4 := bitOf_01 b (k + 8)
  omega
theorem pixC_le (c a b k : Int) (h0 : 0 ≤ c) (h1 : c < 65536) : 0 ≤ pixC c a b k ∧ pixC c a b k < 256 := by
  have h := colorOf_le a b k
  unfold pixC
  split <;> omega
theorem pixelG_le (g : Int → Int) (hg : Words g) (W H X Y x y : Int) : 0 ≤ pixelG g W H X Y x y ∧ pixelG g W H X Y x y < 256 := by
  unfold pixelG
  split
  · exact pixC_le _ _ _ _ (hg _).1 (hg _).2
  · omega
theorem pixC_low (c a b k : Int) (h0 : 0 ≤ c) (h1 : c < 65536) : pixC c a b k % 16 = colorOf a b k := by
  have h := colorOf_le a b k
  unfold pixC
  split <;> omega
theorem pixelG_low (g : Int → Int) (hg : Words g) (W H X Y x y : Int) : pixelG g W H X Y x y = 0 ∨ pixelG g W H X Y x y % 16 ≠ 0 := by
  unfold pixelG
  split
  · have h := pixC_low (cellG g W (onOf X x W) (onOf Y y H)) (g (lieOf (cellG g W (onOf X x W) (onOf Y y H)) (onOf Y y H))) (g (lieOf (cellG g W (onOf X x W) (onOf Y y H)) (onOf Y y H) + 8)) (7 - onOf X x W % 8) (hg _).1 (hg _).2
    unfold pixG
    rw [h]
    unfold pixC
    split
    · exact .inl rfl
    · rename_i k
      exact .inr k
  · exact .inl rfl
theorem onOf_le (A x W : Int) (hW : 0 < W) : 0 ≤ onOf A x W ∧ onOf A x W < 8 * W := by
  unfold onOf
  exact ⟨Int.emod_nonneg _ (by omega), Int.emod_lt_of_pos _ (by omega)⟩
/-- Within a cell's row a pixel more is a pixel more on the map. -/
theorem onOf_more (A x t W : Int) (hW : W = 32 ∨ W = 64 ∨ W = 128) (hx0 : 0 ≤ x) (ht : 0 ≤ t) (hx1 : x + t < 65536) (h : onOf A x W % 8 + t < 8) : onOf A (x + t) W = onOf A x W + t := by
  unfold onOf at *
  rw [show (x + t) % 65536 = x + t by omega, show x % 65536 = x by omega] at *
  rcases hW with rfl | rfl | rfl <;> omega
theorem pixG_same (g : Int → Int) (W p q t j : Int) (hp : 0 ≤ p) (ht : 0 ≤ t) (h : p % 8 + t < 8) : pixG g W (p + t) q j = pixG g W p q j := by
  unfold pixG cellG
  rw [show (p + t) / 8 = p / 8 by omega]
theorem pixelG_more (g : Int → Int) (W H X Y x y t : Int) (hm : okMap W H = true) (hx0 : 0 ≤ x) (ht : 0 ≤ t) (hx1 : x + t < 65536) (h : onOf X x W % 8 + t < 8) : pixelG g W H X Y (x + t) y = pixG g W (onOf X x W) (onOf Y y H) (onOf X x W % 8 + t) := by
  have hW := ((okMap_iff W H).1 hm).1
  have hb := onOf_le X x W (by omega)
  unfold pixelG
  rw [if_pos hm, onOf_more X x t W hW hx0 ht hx1 h, pixG_same g W _ _ t _ hb.1 ht h, show (onOf X x W + t) % 8 = onOf X x W % 8 + t by omega]
/-- With words that are none all pixels are 0. -/
theorem pixelG_none (W H X Y x y : Int) : pixelG (fun _ => 0) W H X Y x y = 0 := by
  unfold pixelG
  split
  · unfold pixG pixC
    have e (k) : bitOf 0 k = 0 := by unfold bitOf; split <;> simp
    have h : ∀ k, colorOf 0 0 k = 0 := by intro k; unfold colorOf; rw [e, e]; rfl
    rw [h, if_pos rfl]
  · rfl
end Go.Proofs.YtnhjhmfiapjenaaDoor.T17
