/- What the laws of layer 4 ask of the contracts' answers. -/
import Derived.Test.YthelklkfcllddaaGreatDoorTopCardsJ18
namespace Go.Proofs.YthelklkfcllddaaGreatDoor.B4
set_option maxRecDepth 20000
open C3
open Go.RowKit
set_option linter.unusedVariables false
theorem page_in {n : Int} (hn : known n = true) (l : Int) (p : Nat) (hp : p < 128) : 0 ≤ pageOf n l p ∧ pageOf n l p < n := by
  have hk := kind_cases hn
  have h0 := known_le hn
  unfold pageOf
  rw [if_pos ⟨hn, by omega⟩]
  generalize kindOf n = k at *
  have lo : 0 < lowSize k n ∧ lowSize k n ≤ n := by unfold lowSize; split; omega; split <;> omega
  have up : 0 < upSize k n ∧ 0 ≤ upFirst k n l ∧ upFirst k n l + upSize k n ≤ n := by
    unfold upSize upFirst; split; omega; split <;> omega
  generalize lowSize k n = s at *
  generalize upSize k n = t at *
  generalize upFirst k n l = f at *
  have m0 := Int.emod_nonneg (p : Int) (show s ≠ 0 by omega)
  have m1 := Int.emod_lt_of_pos (p : Int) lo.1
  have m2 := Int.emod_nonneg (p : Int) (show t ≠ 0 by omega)
  have m3 := Int.emod_lt_of_pos (p : Int) up.1
  split
  · omega
  · rw [if_pos (by omega)]; omega
end Go.Proofs.YthelklkfcllddaaGreatDoor.B4
