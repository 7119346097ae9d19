/- What the document says of sprites: plain numbers, the words of the memory as a function g of their places, those of the table as a function T. No word of the program is in it. -/
import Derived.Test.YtnhjhmfiapjenaaDoorLines
namespace Go.Proofs.YtnhjhmfiapjenaaDoor
open Go.RowKit
set_option linter.unusedVariables false

/-- A row of values, by their places. -/
def valsOf (h : Nat → Value) (N : Nat) : List Value := (List.range N).map h
theorem valsOf_length (h : Nat → Value) (N : Nat) : (valsOf h N).length = N := by simp [valsOf]
theorem valsOf_at (h : Nat → Value) (N j : Nat) (k : j < N) : (valsOf h N)[j]? = some (h j) := by simp [valsOf, k]
theorem valsOf_ext {h k : Nat → Value} {N : Nat} (e : ∀ j, j < N → h j = k j) : valsOf h N = valsOf k N :=
  ext_at (valsOf_length _ _) (valsOf_length _ _) fun j hj => by rw [valsOf_at _ _ _ hj, valsOf_at _ _ _ hj, e j hj]
theorem valsOf_set (h : Nat → Value) (N x : Nat) (v : Value) : (valsOf h N).set x v = valsOf (fun j => if j = x then v else h j) N :=
  ext_at (by rw [List.length_set, valsOf_length]) (valsOf_length _ _) fun j hj => by
    rw [List.getElem?_set, valsOf_length, valsOf_at _ _ _ hj, valsOf_at _ _ _ hj]
    by_cases e : x = j
    · subst e
      rw [if_pos rfl, if_pos hj, if_pos rfl]
    · rw [if_neg e, if_neg (by omega)]
theorem valsOf_one {h : Nat → Value} (N : Nat) (e : ∀ j, (h j).oneCell' = true) : ∀ v ∈ valsOf h N, v.oneCell' = true := by
  intro v hv
  obtain ⟨j, _, rfl⟩ := List.mem_map.1 hv
  exact e j
theorem valsOf_zeros (N : Nat) : zerosL N = valsOf (fun _ => .int .i64 0) N :=
  ext_at (zerosL_length _) (valsOf_length _ _) fun j hj => by rw [zerosL_at _ _ hj, valsOf_at _ _ _ hj]
theorem valsOf_false (N : Nat) : (List.replicate N false).map Value.bool = valsOf (fun _ => .bool false) N :=
  ext_at (by simp) (valsOf_length _ _) fun j hj => by rw [valsOf_at _ _ _ hj]; simp [hj]
theorem valsOf_size (h : Nat → Value) (N : Nat) : (valsOf h N).toArray.size = N := by rw [List.size_toArray, valsOf_length]

/-- A sprite's parts, of its four words. -/
def sprY (a : Int) : Int := a % 1024 - 64
def sprX (b : Int) : Int := b % 1024 - 32
def sprW (d : Int) : Int := if bitOf d 8 = 1 then 32 else 16
def sprH (d : Int) : Int := if d / 4096 % 4 = 0 then 16 else if d / 4096 % 4 = 1 then 32 else 64
def cutW (W c : Int) : Int := if W = 32 then c / 2 * 2 else c
def cutH (H c : Int) : Int := if H = 32 then c - c / 2 % 2 * 2 else if H = 64 then c - c / 2 % 4 * 2 else c
def sprC (c W H : Int) : Int := cutH H (cutW W (c / 2 % 1024))
def sprP (d : Int) : Int := d % 16
def sprB (d k : Int) : Bool := bitOf d k == 1
theorem sprW_is (d : Int) : sprW d = 16 ∨ sprW d = 32 := by unfold sprW; split <;> omega
theorem sprH_is (d : Int) : sprH d = 16 ∨ sprH d = 32 ∨ sprH d = 64 := by
  unfold sprH
  split
  · exact .inl rfl
  · split <;> omega
theorem sprY_le (a : Int) : -64 ≤ sprY a ∧ sprY a < 960 := by unfold sprY; omega
theorem sprX_le (a : Int) : -32 ≤ sprX a ∧ sprX a < 992 := by unfold sprX; omega
theorem sprP_le (a : Int) : 0 ≤ sprP a ∧ sprP a < 16 := by unfold sprP; omega
theorem cutW_le (W c : Int) (h0 : 0 ≤ c) (h1 : c < 1024) : 0 ≤ cutW W c ∧ cutW W c < 1024 := by unfold cutW; split <;> omega
theorem cutH_le (H c : Int) (h0 : 0 ≤ c) (h1 : c < 1024) : 0 ≤ cutH H c ∧ cutH H c < 1024 := by
  unfold cutH
  split
  · omega
  · split <;> omega
theorem sprC_le (c W H : Int) : 0 ≤ sprC c W H ∧ sprC c W H < 1024 := by
  have h := cutW_le W (c / 2 % 1024) (by omega) (by omega)
  exact cutH_le H _ h.1 h.2

theorem bic_all : ∀ c : Fin 1024, bits .andNot .i64 (c.val : Int) 0 = (c.val : Int) ∧ bits .andNot .i64 (c.val : Int) 1 = (c.val : Int) / 2 * 2 ∧ bits .andNot .i64 (c.val : Int) 2 = cutH 32 (c.val : Int) ∧ bits .andNot .i64 (c.val : Int) 3 = cutH 32 ((c.val : Int) / 2 * 2) ∧ bits .andNot .i64 (c.val : Int) 6 = cutH 64 (c.val : Int) ∧ bits .andNot .i64 (c.val : Int) 7 = cutH 64 ((c.val : Int) / 2 * 2) := by decide +kernel
theorem bic_own (c W H : Int) (h0 : 0 ≤ c) (h1 : c < 1024) (hW : W = 16 ∨ W = 32) (hH : H = 16 ∨ H = 32 ∨ H = 64) : bits .andNot .i64 c (W / 16 - 1 + (H / 16 - 1) * 2) = cutH H (cutW W c) := by
  have k := bic_all ⟨c.toNat, by omega⟩
  simp only [Int.toNat_of_nonneg h0] at k
  obtain ⟨k0, k1, k2, k3, k6, k7⟩ := k
  rcases hW with rfl | rfl <;> rcases hH with rfl | rfl | rfl
  · exact k0
  · exact k2
  · exact k6
  · exact k1
  · exact k3
  · exact k7

/-- The first p planes of a sprite's pixel: the bits k of the words 16 apart. -/
def dotTo (g : Int → Int) (a k : Int) : Nat → Int
  | 0 => 0
  | p + 1 => dotTo g a k p + bitOf (g (a + 16 * (p : Int))) k * 2 ^ p
theorem dotTo_le (g : Int → Int) (a k : Int) : ∀ p, 0 ≤ dotTo g a k p ∧ dotTo g a k p < 2 ^ p
  | 0 => ⟨Int.le_refl 0, show (0 : Int) < 1 by decide⟩
  | p + 1 => by
    have h := dotTo_le g a k p
    have b := bitOf_01 (g (a + 16 * (p : Int))) k
    have e : (2 : Int) ^ (p + 1) = 2 * 2 ^ p := by rw [Int.pow_succ, Int.mul_comm]
    unfold dotTo
    rw [e]
    rcases (show bitOf (g (a + 16 * (p : Int))) k = 0 ∨ bitOf (g (a + 16 * (p : Int))) k = 1 by omega) with q | q <;> rw [q] <;> omega
def lieS (C r q : Int) : Int := 64 * (C + r / 16 * 2 + q / 16) + r % 16
/-- The first p planes of the pixel in row r and column q of a sprite. -/
def colS (g : Int → Int) (C r q : Int) (p : Nat) : Int := dotTo g (lieS C r q) (15 - q % 16) p
theorem colS_le (g : Int → Int) (C r q : Int) (p : Nat) (hp : p ≤ 4) : 0 ≤ colS g C r q p ∧ colS g C r q p < 16 := by
  have h := dotTo_le g (lieS C r q) (15 - q % 16) p
  have e : (2 : Int) ^ p ≤ 16 := by rcases (show p = 0 ∨ p = 1 ∨ p = 2 ∨ p = 3 ∨ p = 4 by omega) with rfl | rfl | rfl | rfl | rfl <;> decide
  unfold colS
  omega
def downS (H : Int) (fy : Bool) (d : Int) : Int := if fy = true then H - 1 - d else d
def overS (W : Int) (fx : Bool) (i : Int) : Int := if fx = true then W - 1 - i else i
def pixS (g : Int → Int) (C W H : Int) (fx fy : Bool) (d i : Int) : Int := colS g C (downS H fy d) (overS W fx i) 4
theorem pixS_le (g : Int → Int) (C W H : Int) (fx fy : Bool) (d i : Int) : 0 ≤ pixS g C W H fx fy d i ∧ pixS g C W H fx fy d i < 16 := colS_le _ _ _ _ _ (Nat.le_refl 4)

/-- What is known of a place on the line: its colour, whether it is in front, whether the first sprite laid it, whether another one touched it there. -/
abbrev Pos : Type := Int × Bool × Bool × Bool
def layP (first : Bool) (P : Int) (fr : Bool) (p : Int) (v : Pos) : Pos :=
  if p = 0 then v else if v.1 = 0 then (P * 16 + p, fr, first, v.2.2.2) else if v.2.2.1 = true then (v.1, v.2.1, v.2.2.1, true) else v
def anyHit (N : Nat) (S : Nat → Pos) : Bool := (List.range N).any fun x => (S x).2.2.2
theorem anyHit_iff (N : Nat) (S : Nat → Pos) : anyHit N S = true ↔ ∃ x, x < N ∧ (S x).2.2.2 = true := by simp [anyHit]
theorem anyHit_ext {N : Nat} {S R : Nat → Pos} (h : ∀ x, x < N → (S x).2.2.2 = (R x).2.2.2) : anyHit N S = anyHit N R := by
  rw [Bool.eq_iff_iff, anyHit_iff, anyHit_iff]
  exact ⟨fun ⟨x, k, e⟩ => ⟨x, k, by rw [← h x k]; exact e⟩, fun ⟨x, k, e⟩ => ⟨x, k, by rw [h x k]; exact e⟩⟩
theorem anyHit_true {N : Nat} {S : Nat → Pos} (x : Nat) (h : x < N) (k : (S x).2.2.2 = true) : anyHit N S = true := (anyHit_iff N S).2 ⟨x, h, k⟩

/-- Sprite k of a table T at line y. -/
def onT (T : Nat → Int) (y : Int) (k : Nat) : Bool := decide (sprY (T (4 * k)) ≤ y) && decide (y < sprY (T (4 * k)) + sprH (T (4 * k + 3)))
def cellsT (T : Nat → Int) (k : Nat) : Int := sprW (T (4 * k + 3)) / 16
def dotT (g : Int → Int) (T : Nat → Int) (y : Int) (k : Nat) (i : Int) : Int :=
  pixS g (sprC (T (4 * k + 2)) (sprW (T (4 * k + 3))) (sprH (T (4 * k + 3)))) (sprW (T (4 * k + 3))) (sprH (T (4 * k + 3))) (sprB (T (4 * k + 3)) 11) (sprB (T (4 * k + 3)) 15) (y - sprY (T (4 * k))) i
/-- Behind the first i pixels of a sprite. -/
def partS (first : Bool) (P : Int) (fr : Bool) (F : Int → Int) (X : Int) (S : Nat → Pos) (i : Int) (x : Nat) : Pos :=
  if X ≤ x ∧ (x : Int) < X + i then layP first P fr (F ((x : Int) - X)) (S x) else S x
theorem partS_zero (first : Bool) (P : Int) (fr : Bool) (F : Int → Int) (X : Int) (S : Nat → Pos) : partS first P fr F X S 0 = S := by
  funext x
  unfold partS
  rw [if_neg (by omega)]
theorem partS_next (first : Bool) (P : Int) (fr : Bool) (F : Int → Int) (X : Int) (S : Nat → Pos) (i : Int) (hi : 0 ≤ i) (x : Nat) :
    partS first P fr F X S (i + 1) x = if (x : Int) = X + i then layP first P fr (F i) (partS first P fr F X S i x) else partS first P fr F X S i x := by
  unfold partS
  by_cases e : (x : Int) = X + i
  · rw [if_pos e, if_pos (by omega), if_neg (by omega), show (x : Int) - X = i by omega]
  · rw [if_neg e]
    by_cases k : X ≤ x ∧ (x : Int) < X + i
    · rw [if_pos k, if_pos (by omega)]
    · rw [if_neg k, if_neg (by omega)]
def stepT (g : Int → Int) (T : Nat → Int) (y : Int) (k : Nat) (S : Nat → Pos) : Nat → Pos :=
  partS (k == 0) (sprP (T (4 * k + 3))) (sprB (T (4 * k + 3)) 7) (dotT g T y k) (sprX (T (4 * k + 1))) S (sprW (T (4 * k + 3)))
/-- Behind the first k sprites: what is known of the places, how many cells were taken, whether there were too many. -/
abbrev Run : Type := (Nat → Pos) × Int × Bool
def runT (g : Int → Int) (T : Nat → Int) (y : Int) : Nat → Run
  | 0 => (fun _ => (0, false, false, false), 0, false)
  | k + 1 => if (runT g T y k).2.2 = true then runT g T y k else if onT T y k = true then (if 16 < (runT g T y k).2.1 + cellsT T k then ((runT g T y k).1, (runT g T y k).2.1, true) else (stepT g T y k (runT g T y k).1, (runT g T y k).2.1 + cellsT T k, false)) else runT g T y k
theorem runT_over (g : Int → Int) (T : Nat → Int) (y : Int) (k : Nat) (h : (runT g T y k).2.2 = true) : ∀ j, runT g T y (k + j) = runT g T y k
  | 0 => rfl
  | j + 1 => by
    have e := runT_over g T y k h j
    show (if (runT g T y (k + j)).2.2 = true then _ else _) = _
    rw [e, if_pos h]
    exact e
theorem runT_off (g : Int → Int) (T : Nat → Int) (y : Int) (k : Nat) (h : onT T y k = false) : runT g T y (k + 1) = runT g T y k := by
  show (if (runT g T y k).2.2 = true then _ else _) = _
  rw [h, if_neg (by decide : ¬ false = true)]
  split <;> rfl
theorem runT_many (g : Int → Int) (T : Nat → Int) (y : Int) (k : Nat) (h0 : (runT g T y k).2.2 = false) (h : onT T y k = true) (h1 : 16 < (runT g T y k).2.1 + cellsT T k) : runT g T y (k + 1) = ((runT g T y k).1, (runT g T y k).2.1, true) := by
  show (if (runT g T y k).2.2 = true then _ else _) = _
  rw [h0, if_neg (by decide : ¬ false = true), if_pos h, if_pos h1]
theorem runT_on (g : Int → Int) (T : Nat → Int) (y : Int) (k : Nat) (h0 : (runT g T y k).2.2 = false) (h : onT T y k = true) (h1 : ¬ 16 < (runT g T y k).2.1 + cellsT T k) : runT g T y (k + 1) = (stepT g T y k (runT g T y k).1, (runT g T y k).2.1 + cellsT T k, false) := by
  show (if (runT g T y k).2.2 = true then _ else _) = _
  rw [h0, if_neg (by decide : ¬ false = true), if_pos h, if_neg h1]
theorem cellsT_is (T : Nat → Int) (k : Nat) : cellsT T k = 1 ∨ cellsT T k = 2 := by
  unfold cellsT
  rcases sprW_is (T (4 * k + 3)) with h | h <;> rw [h] <;> omega
theorem runT_taken (g : Int → Int) (T : Nat → Int) (y : Int) : ∀ k, 0 ≤ (runT g T y k).2.1 ∧ (runT g T y k).2.1 ≤ 16
  | 0 => ⟨Int.le_refl 0, show (0 : Int) ≤ 16 by decide⟩
  | k + 1 => by
    have h := runT_taken g T y k
    have c := cellsT_is T k
    show 0 ≤ (if (runT g T y k).2.2 = true then _ else _ : Run).2.1 ∧ (if (runT g T y k).2.2 = true then _ else _ : Run).2.1 ≤ 16
    split
    · exact h
    · split
      · split
        · exact h
        · exact ⟨by show 0 ≤ _ + _; omega, by show _ + _ ≤ 16; omega⟩
      · exact h
/-- The words of a table, as they lie. -/
def tabL (T : Nat → Int) : List Value := valsOf (fun j => .int .i64 (T j)) 256
end Go.Proofs.YtnhjhmfiapjenaaDoor
