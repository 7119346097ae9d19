/- Package psg: what is written stays such as may be, and changes its own channel alone: on plain numbers. -/
import Derived.Test.YtcpilhbinkamiaaWrite22
namespace Go.Proofs.Ytcpilhbinkamiaa
open Go.RowKit
set_option linter.unusedVariables false

def loC (m : Nat) : Int := if m = 38 then 1 else 0
def hiC (m : Nat) : Int := if m = 0 then 4095 else if m < 4 then 255 else if m < 37 then 31 else if m = 37 then 16777215 else if m = 38 then 262143 else 31
theorem okC_all {c : Nat → Int} : okC c ↔ ∀ m, m < 40 → loC m ≤ c m ∧ c m ≤ hiC m := by
  constructor
  · rintro ⟨h0, h1, h2, h3, h4, h5, h6, h7, h8⟩ m hm
    rcases (show m = 0 ∨ m = 1 ∨ m = 2 ∨ m = 3 ∨ (4 ≤ m ∧ m < 36) ∨ m = 36 ∨ m = 37 ∨ m = 38 ∨ m = 39 by omega) with rfl | rfl | rfl | rfl | h | rfl | rfl | rfl | rfl
    · exact h0
    · exact h1
    · exact h2
    · exact h3
    · have k := h8 (m - 4) (by omega)
      rw [show 4 + (m - 4) = m by omega] at k
      unfold loC hiC
      rw [if_neg (by omega), if_neg (by omega), if_neg (by omega), if_pos (by omega)]
      exact k
    · exact h4
    · exact h5
    · exact h6
    · exact h7
  · intro h
    refine ⟨h 0 (by decide), h 1 (by decide), h 2 (by decide), h 3 (by decide), h 36 (by decide), h 37 (by decide), h 38 (by decide), h 39 (by decide), fun i hi => ?_⟩
    have k := h (4 + i) (by omega)
    unfold loC hiC at k
    rw [if_neg (by omega), if_neg (by omega), if_neg (by omega), if_pos (by omega)] at k
    exact k
theorem ch_put (f : Nat → Int) (k m : Nat) (v : Int) (k' j : Nat) (hm : m < 40) (hj : j < 40) : ch (up f (4 + k * 40 + m) v) k' j = if k' = k ∧ j = m then v else ch f k' j := by
  unfold ch up
  by_cases h : k' = k ∧ j = m
  · rw [if_pos h, if_pos (by omega)]
  · rw [if_neg h, if_neg (by omega)]
theorem put_ok {f : Nat → Int} (h : okP f) (k m : Nat) (v : Int) (hm : m < 40) (hv : loC m ≤ v ∧ v ≤ hiC m) : okP (up f (4 + k * 40 + m) v) := by
  obtain ⟨h0, h1, h2, h3, h4⟩ := h
  unfold okP
  rw [up_other _ _ 0 _ (by omega), up_other _ _ 1 _ (by omega), up_other _ _ 2 _ (by omega), up_other _ _ 3 _ (by omega)]
  refine ⟨h0, h1, h2, h3, fun k' hk' => okC_all.2 fun j hj => ?_⟩
  rw [ch_put _ _ _ _ _ _ hm hj]
  split
  · rename_i e
    rw [e.2]
    exact hv
  · exact okC_all.1 (h4 k' hk') j hj
theorem ch_head (f : Nat → Int) (i : Nat) (v : Int) (hi : i < 4) (k j : Nat) : ch (up f i v) k j = ch f k j := by
  unfold ch
  exact up_other _ _ _ _ (by omega)
theorem head_ok {f : Nat → Int} (h : okP f) (i : Nat) (v : Int) (hi : i < 4) (hv : 0 ≤ v ∧ v ≤ 255) (h7 : i = 0 → v ≤ 7) : okP (up f i v) := by
  obtain ⟨h0, h1, h2, h3, h4⟩ := h
  unfold okP
  refine ⟨?_, ?_, ?_, ?_, fun k hk => okC_all.2 fun j hj => ?_⟩
  · unfold up
    split
    · exact ⟨hv.1, h7 (by omega)⟩
    · exact h0
  · unfold up
    split
    · exact hv
    · exact h1
  · unfold up
    split
    · exact hv
    · exact h2
  · unfold up
    split
    · exact hv
    · exact h3
  · rw [ch_head _ _ _ hi]
    exact okC_all.1 (h4 k hk) j hj
theorem chW_ok {f : Nat → Int} (h : okP f) {k : Nat} (hk : k < 6) (at_ b : Int) (hb : 0 ≤ b ∧ b ≤ 255) : okP (chW f k at_ b) := by
  obtain ⟨x0, x1, x2, x3, x4, x5, x6, x7, x8⟩ := okP_at h hk
  unfold chW
  split
  · exact put_ok h k 0 _ (by decide) (by unfold loC hiC; simp; omega)
  · split
    · exact put_ok h k 0 _ (by decide) (by unfold loC hiC; simp; omega)
    · split
      · split
        · exact put_ok (put_ok h k 1 _ (by decide) (by unfold loC hiC; simp; omega)) k 36 _ (by decide) (by unfold loC hiC; simp)
        · exact put_ok h k 1 _ (by decide) (by unfold loC hiC; simp; omega)
      · split
        · exact put_ok h k 2 _ (by decide) (by unfold loC hiC; simp; omega)
        · split
          · unfold takeF
            split
            · exact put_ok h k 39 _ (by decide) (by unfold loC hiC; simp; omega)
            · refine put_ok (put_ok h k (4 + (ch f k 36).toNat) _ (by omega) ?_) k 36 _ (by decide) (by unfold loC hiC; simp; omega)
              unfold loC hiC
              rw [if_neg (by omega), if_neg (by omega), if_neg (by omega), if_pos (by omega)]
              omega
          · split
            · split
              · exact put_ok h k 3 _ (by decide) (by unfold loC hiC; simp; omega)
              · exact h
            · exact h
theorem wr_ok {f : Nat → Int} (h : okP f) (at_ b : Int) : okP (wrF f at_ b) := by
  have h0 := h.1
  unfold wrF
  split
  · exact head_ok h 0 _ (by decide) (by omega) (by omega)
  · split
    · exact head_ok h 1 _ (by decide) (by omega) (by omega)
    · split
      · exact head_ok h 2 _ (by decide) (by omega) (by omega)
      · split
        · exact head_ok h 3 _ (by decide) (by omega) (by omega)
        · split
          · exact chW_ok h (by omega) _ _ (by omega)
          · exact h
/-- A channel's write changes no number of another one, and none of the first four. -/
theorem chW_other (f : Nat → Int) (k : Nat) (at_ b : Int) (h36 : 0 ≤ ch f k 36 ∧ ch f k 36 ≤ 31) (i : Nat) (hi : i < 4 + k * 40 ∨ 4 + k * 40 + 40 ≤ i) : chW f k at_ b i = f i := by
  unfold chW takeF
  (repeat' split) <;> first | rfl | exact up_other _ _ _ _ (by omega) | rw [up_other _ _ _ _ (by omega), up_other _ _ _ _ (by omega)]
theorem chW_none (f : Nat → Int) (k : Nat) (at_ b : Int) (h : at_ < 2 ∨ 7 < at_) : chW f k at_ b = f := by
  unfold chW
  rw [if_neg (by omega), if_neg (by omega), if_neg (by omega), if_neg (by omega), if_neg (by omega), if_neg (by omega)]
theorem wr_chan {f : Nat → Int} (ok : okP f) (at_ b : Int) (k j : Nat) (hj : j < 40) (h : (k : Int) ≠ f 0 ∨ at_ < 2 ∨ 7 < at_) : wrF f at_ b (4 + k * 40 + j) = f (4 + k * 40 + j) := by
  have h0 := ok.1
  unfold wrF
  split
  · exact up_other _ _ _ _ (by omega)
  · split
    · exact up_other _ _ _ _ (by omega)
    · split
      · exact up_other _ _ _ _ (by omega)
      · split
        · exact up_other _ _ _ _ (by omega)
        · split
          · rename_i hs
            rcases h with h | h
            · exact chW_other f _ at_ _ (okP_at ok (by omega)).2.2.2.2.1 _ (by omega)
            · rw [chW_none f _ at_ _ h]
          · rfl
theorem wr_main {f : Nat → Int} (ok : okP f) (at_ b : Int) (h : ¬ at_ = 1) : wrF f at_ b 1 = f 1 := by
  have h0 := ok.1
  unfold wrF
  by_cases e0 : at_ = 0
  · rw [if_pos e0]; exact up_other _ _ _ _ (by omega)
  by_cases e8 : at_ = 8
  · rw [if_neg e0, if_neg h, if_pos e8]; exact up_other _ _ _ _ (by omega)
  by_cases e9 : at_ = 9
  · rw [if_neg e0, if_neg h, if_neg e8, if_pos e9]; exact up_other _ _ _ _ (by omega)
  rw [if_neg e0, if_neg h, if_neg e8, if_neg e9]
  by_cases hs : f 0 < 6
  · rw [if_pos hs]
    exact chW_other f _ at_ _ (okP_at ok (by omega)).2.2.2.2.1 _ (by omega)
  · rw [if_neg hs]
theorem wr_sel (f : Nat → Int) (b : Int) : wrF f 0 b 0 = b % 8 := by
  rw [wr0_is]
  exact up_same _ _ _
end Go.Proofs.Ytcpilhbinkamiaa
