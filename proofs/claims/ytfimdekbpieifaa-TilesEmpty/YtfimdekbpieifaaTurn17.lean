/- The map goes round: plain numbers. No word of the program is in it. -/
import Derived.Test.YtfimdekbpieifaaPlain17
namespace Go.Proofs.Ytfimdekbpieifaa
open Go.RowKit
set_option linter.unusedVariables false
theorem onOf_moved (X j W : Int) (h0 : 0 ≤ X) (h1 : X < 65535) (j0 : 0 ≤ j) (j1 : j < 65535) : onOf (X + 1) j W = onOf X (j + 1) W := by
  unfold onOf
  rw [show (X + 1) % 65536 = X + 1 by omega, show j % 65536 = j by omega, show X % 65536 = X by omega, show (j + 1) % 65536 = j + 1 by omega, show X + 1 + j = X + (j + 1) by omega]
theorem onOf_round (X x W : Int) (x0 : 0 ≤ x) (W0 : 0 ≤ W) (hs : x + 8 * W < 65536) : onOf X (x + 8 * W) W = onOf X x W := by
  unfold onOf
  rw [show (x + 8 * W) % 65536 = x + 8 * W by omega, show x % 65536 = x by omega, show X % 65536 + (x + 8 * W) = X % 65536 + x + 8 * W by omega, Int.add_emod_right]
theorem pixelG_moved (g : Int → Int) (W H X Y j y : Int) (h0 : 0 ≤ X) (h1 : X < 65535) (j0 : 0 ≤ j) (j1 : j < 65535) : pixelG g W H (X + 1) Y j y = pixelG g W H X Y (j + 1) y := by
  unfold pixelG
  rw [onOf_moved X j W h0 h1 j0 j1]
theorem pixelG_roundX (g : Int → Int) (W H X Y x y : Int) (x0 : 0 ≤ x) (W0 : 0 ≤ W) (hs : x + 8 * W < 65536) : pixelG g W H X Y (x + 8 * W) y = pixelG g W H X Y x y := by
  unfold pixelG
  rw [onOf_round X x W x0 W0 hs]
theorem pixelG_roundY (g : Int → Int) (W H X Y x y : Int) (y0 : 0 ≤ y) (H0 : 0 ≤ H) (hs : y + 8 * H < 65536) : pixelG g W H X Y x (y + 8 * H) = pixelG g W H X Y x y := by
  unfold pixelG
  rw [onOf_round Y y H y0 H0 hs]
theorem shl_32 (s : Int) (h0 : 0 ≤ s) (h1 : s < 3) : ∃ W, wrap64 (32 * 2 ^ s.toNat) = W ∧ (W = 32 ∨ W = 64 ∨ W = 128) ∧ (s < 2 → W = 32 ∨ W = 64) := by
  rcases (show s = 0 ∨ s = 1 ∨ s = 2 by omega) with rfl | rfl | rfl
  · exact ⟨32, by decide +kernel, .inl rfl, fun _ => .inl rfl⟩
  · exact ⟨64, by decide +kernel, .inr (.inl rfl), fun _ => .inr rfl⟩
  · exact ⟨128, by decide +kernel, .inr (.inr rfl), fun h => absurd h (by omega)⟩
theorem HasRow.at {w : World} {g : Nat} {F : Int → Int} {N : Nat} (h : HasRow w g (lineOf F N)) (j : Nat) (hj : j < N) : w.cell? ⟨g, j, none⟩ = some (.int .i64 (F j)) := by
  rw [cell_of_row w g j _ _ _ h, List.getElem?_toArray]
  exact lineOf_at F N j hj
end Go.Proofs.Ytfimdekbpieifaa
