/- What package vce's functions must be seen to return, each as a sentence of its own: the laws' walks lean on these alone. -/
import Derived.Test.YtnhjhmfiapjenaaDoorMade12
namespace Go.Proofs.YtnhjhmfiapjenaaDoor.V12
open Go.RowKit
set_option linter.unusedVariables false

theorem and_511 (n : Int) : bits .and .i64 n 511 = n % 512 := and_mask 9 (by decide) n
def ColourDoes : Prop := ∀ (c a : Int) (f : Nat → Int) (k : Int) (w : World), Calls Tryd.prog 22 #[.agg (rowV c a f), .int .i64 k] w fun e w' => e = .returned (.int .i64 (colOf (f (k % 512).toNat % 512) (bitOf c 7 == 1))) ∧ Below w.heap.size w w'
theorem grey_73 (x : Int) : (colOf x true).tmod 73 = 0 := by
  show ((x / 64 * 4 + x / 8 % 8 * 2 + x % 8) / 7 * 73).tmod 73 = 0
  exact Int.mul_tmod_left _ _
theorem grey_le (x : Int) (h0 : 0 ≤ x) (h1 : x < 512) : 0 ≤ colOf x true ∧ colOf x true ≤ 511 := by
  show 0 ≤ (x / 64 * 4 + x / 8 % 8 * 2 + x % 8) / 7 * 73 ∧ (x / 64 * 4 + x / 8 % 8 * 2 + x % 8) / 7 * 73 ≤ 511
  omega
theorem grey_mono (x y : Int) (h1 : x / 64 ≤ y / 64) (h2 : x / 8 % 8 ≤ y / 8 % 8) (h3 : x % 8 ≤ y % 8) : colOf x true ≤ colOf y true := by
  show (x / 64 * 4 + x / 8 % 8 * 2 + x % 8) / 7 * 73 ≤ (y / 64 * 4 + y / 8 % 8 * 2 + y % 8) / 7 * 73
  omega
end Go.Proofs.YtnhjhmfiapjenaaDoor.V12
