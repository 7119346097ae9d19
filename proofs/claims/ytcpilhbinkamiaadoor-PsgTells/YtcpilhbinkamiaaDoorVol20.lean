/- Package volume: the table of the levels, what holds of it, and the contracts of Level and Gain. -/
import Derived.Test.YtcpilhbinkamiaaDoorRows
import Derived.Test.YtcpilhbinkamiaaDoorPlain
import Derived.Test.YtcpilhbinkamiaaDoorKit
namespace Go.Proofs.YtcpilhbinkamiaaDoor
open Go.RowKit
set_option linter.unusedVariables false

/-- The table of the levels. -/
def levelL : List Int := [1024, 862, 725, 610, 513, 432, 363, 306, 257, 216, 182, 153, 129, 108, 91, 77, 65, 54, 46, 38, 32, 27, 23, 19, 16, 14, 11, 10, 8, 7, 6, 0]
def levelAt (k : Nat) : Int := levelL[k]?.getD 0
/-- How loud an attenuation is: held within 0 and 31, then by the table. -/
def clip (n : Int) : Nat := if n < 0 then 0 else if 31 < n then 31 else n.toNat
def levelOf (n : Int) : Int := levelAt (clip n)
def gainOf (v b m : Int) : Int := levelOf (31 - v % 32 + 2 * (15 - b % 16) + 2 * (15 - m % 16))

theorem clip_lt (n : Int) : clip n < 32 := by unfold clip; (repeat' split) <;> omega
theorem clip_le {m n : Int} (h : m ≤ n) : clip m ≤ clip n := by unfold clip; split <;> split <;> (try split) <;> (try split) <;> omega
theorem levelAt_down : ∀ a b : Fin 32, a.val ≤ b.val → levelAt b.val ≤ levelAt a.val := by decide +kernel
theorem levelAt_in : ∀ a : Fin 32, 0 ≤ levelAt a.val ∧ levelAt a.val ≤ 1024 := by decide +kernel
theorem levelAt_half : ∀ a : Fin 27, -2 ≤ levelAt a.val - 2 * levelAt (a.val + 4) ∧ levelAt a.val - 2 * levelAt (a.val + 4) ≤ 2 := by decide +kernel
theorem level_down {m n : Int} (h : m ≤ n) : levelOf n ≤ levelOf m := levelAt_down ⟨_, clip_lt m⟩ ⟨_, clip_lt n⟩ (clip_le h)
theorem level_in (n : Int) : 0 ≤ levelOf n ∧ levelOf n ≤ 1024 := levelAt_in ⟨_, clip_lt n⟩
theorem level_end {n : Int} (h : 31 ≤ n) : levelOf n = 0 := by
  have e : clip n = 31 := by unfold clip; (repeat' split) <;> omega
  unfold levelOf
  rw [e]
  decide
theorem level_half {n : Int} (h0 : 0 ≤ n) (h1 : n < 27) : -2 ≤ levelOf n - 2 * levelOf (n + 4) ∧ levelOf n - 2 * levelOf (n + 4) ≤ 2 := by
  have e1 : clip n = n.toNat := by unfold clip; (repeat' split) <;> omega
  have e2 : clip (n + 4) = n.toNat + 4 := by unfold clip; (repeat' split) <;> omega
  unfold levelOf
  rw [e1, e2]
  exact levelAt_half ⟨n.toNat, by omega⟩

/-- The table as its cells lie. -/
def levelCells : Array Value := (levelL.map (Value.int .i64)).toArray
def HasLevels (w : World) : Prop := ∃ t fr, w.heap[0]? = some (.cells levelCells t fr)
theorem HasLevels.pos {w : World} (h : HasLevels w) : 0 < w.heap.size := by
  obtain ⟨t, fr, e⟩ := h
  exact lt_of_block e
theorem HasLevels.next {w w' : World} (h : HasLevels w) (b : Below w.heap.size w w') : HasLevels w' := by
  have k := h.pos
  obtain ⟨t, fr, e⟩ := h
  exact ⟨t, fr, (b.block 0 k).trans e⟩
theorem level_cell : ∀ k : Fin 32, levelL[k.val]? = some (levelAt k.val) := by decide +kernel
theorem HasLevels.at {w : World} (h : HasLevels w) (k : Nat) (hk : k < 32) : w.cell? ⟨0, k, none⟩ = some (.int .i64 (levelAt k)) := by
  obtain ⟨t, fr, e⟩ := h
  rw [cell_of_row w 0 k _ _ _ e]
  have := level_cell ⟨k, hk⟩
  simp only at this
  simp [levelCells, this]

theorem and_31 (n : Int) : bits .and .i64 n 31 = n % 32 := and_mask 5 (by decide) n

theorem level_any (n : Int) (w : World) (hL : HasLevels w) : Calls Tryd.prog 31 #[.int .i64 n] w fun e w' => e = .returned (.int .i64 (levelOf n)) ∧ w' = w := by
  by_cases h0 : n ≤ 0
  · have c := hL.at 0 (by decide)
    have e : levelOf n = levelAt 0 := by unfold levelOf clip; (repeat' split) <;> first | rfl | omega | (congr 1; omega)
    rw [e]
    clear e
    go_enter Tryd.func31, Tryd.ntmps31
    go_wp2
    all_goals (go_ret; exact ⟨rfl, rfl⟩)
  · by_cases h1 : 31 < n
    · have c := hL.at 31 (by decide)
      have e : levelOf n = levelAt 31 := by unfold levelOf clip; (repeat' split) <;> first | rfl | omega | (congr 1; omega)
      rw [e]
      clear e
      go_enter Tryd.func31, Tryd.ntmps31
      go_wp2
      all_goals (go_ret; exact ⟨rfl, rfl⟩)
    · have c := hL.at n.toNat (by omega)
      have e : levelOf n = levelAt n.toNat := by unfold levelOf clip; (repeat' split) <;> first | rfl | omega | (congr 1; omega)
      rw [e]
      clear e
      go_enter Tryd.func31, Tryd.ntmps31
      go_wp2
      all_goals (go_ret; exact ⟨rfl, rfl⟩)

theorem gain_any (v b m : Int) (w : World) (hL : HasLevels w) : Calls Tryd.prog 15 #[.int .i64 v, .int .i64 b, .int .i64 m] w fun e w' => e = .returned (.int .i64 (gainOf v b m)) ∧ w' = w := by
  have e1 := and_31 v
  have e2 := and_15 b
  have e3 := and_15 m
  have v0 : 0 ≤ v % 32 ∧ v % 32 < 32 := by omega
  have b0 : 0 ≤ b % 16 ∧ b % 16 < 16 := by omega
  have m0 : 0 ≤ m % 16 ∧ m % 16 < 16 := by omega
  obtain ⟨x, hx⟩ : ∃ x, x = gainOf v b m := ⟨_, rfl⟩
  rw [← hx]
  unfold gainOf at hx
  generalize v % 32 = V at *
  generalize b % 16 = B at *
  generalize m % 16 = M at *
  have HX := hide hx
  have HL := hide hL
  clear hx hL
  go_enter Tryd.func15, Tryd.ntmps15
  go_wp2_with (go_at_call 31; refine (level_any _ _ HL.out).mono ?_; rintro e w' ⟨rfl, rfl⟩)
  go_ret
  exact ⟨ret_int HX.out.symm, rfl⟩
end Go.Proofs.YtcpilhbinkamiaaDoor
