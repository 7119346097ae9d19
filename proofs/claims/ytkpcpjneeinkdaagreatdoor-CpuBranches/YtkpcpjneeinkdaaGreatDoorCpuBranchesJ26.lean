/- Texts put together. -/
import Derived.Test.YtkpcpjneeinkdaaGreatDoorCpuBranchesJ24
import Derived.Test.YtkpcpjneeinkdaaGreatDoorCpuBranchesJ15
import Derived.Test.YtkpcpjneeinkdaaGreatDoorCpuBranchesJ05
import Derived.Deep.CutRange
import Derived.Test.YtkpcpjneeinkdaaGreatDoorCpuBranchesJ25
import Derived.Test.YtkpcpjneeinkdaaGreatDoorCpuBranchesJ23
import Derived.Test.YtkpcpjneeinkdaaGreatDoorCpuBranchesJ02
import Derived.Test.YtkpcpjneeinkdaaGreatDoorCpuBranchesJ01
import Derived.Test.YtkpcpjneeinkdaaGreatDoorCpuBranchesJ06
namespace Go.Proofs.YtkpcpjneeinkdaaGreatDoor.L24
open Go.Proofs.YtkpcpjneeinkdaaGreatDoor.B4 Go.Proofs.YtkpcpjneeinkdaaGreatDoor.C3 Go.Proofs.YtkpcpjneeinkdaaGreatDoor.G6 Go.Proofs.YtkpcpjneeinkdaaGreatDoor.I11 Go.Proofs.YtkpcpjneeinkdaaGreatDoor.J23 Go.Proofs.YtkpcpjneeinkdaaGreatDoor.M5 Go.Proofs.YtkpcpjneeinkdaaGreatDoor.P22 Go.Proofs.YtkpcpjneeinkdaaGreatDoor.R15 Go.Proofs.YtkpcpjneeinkdaaGreatDoor.T10 Go.Proofs.YtkpcpjneeinkdaaGreatDoor.V12 Go.Proofs.YtkpcpjneeinkdaaGreatDoor.W13
open Go.RowKit
set_option linter.unusedVariables false
def GZ : Nat → (Nat → Int) → Prop
  | 0, g => (0 ≤ g 0 ∧ g 0 < 32) ∧ ∀ i, i < 20 → 0 ≤ g (i + 1) ∧ g (i + 1) < 65536
  | 3, g => 0 ≤ g 0 ∧ g 0 < 128
  | 8, g => ∀ j, 0 ≤ g j ∧ g j < 256
  | 10, g => (0 ≤ g 1 ∧ g 1 < 512) ∧ ∀ j, 0 ≤ g (j + 2) ∧ g (j + 2) < 512
  | 11, g => P22.okP g
  | 12, g => okT (g 0) (g 1) (isB (g 2)) (g 3) = true
  | 13, g => ((0 ≤ g 0 ∧ g 0 < 8) ∧ 0 ≤ g 1 ∧ g 1 < 8) ∧ g = twoV (g 0) (g 1)
  | 16, g => 0 ≤ g 0 ∧ g 0 < 256
  | 17, g => (0 ≤ g 0 ∧ g 0 ≤ 8388608) ∧ g = oneV (g 0)
  | 18, g => ∀ j, 0 ≤ g j ∧ g j < 65536
  | 19, g => (0 ≤ g 0 ∧ g 0 < 65536) ∧ (0 ≤ g 1 ∧ g 1 < 65536) ∧ (1 ≤ g 2 ∧ g 2 < 65536) ∧ (0 ≤ g 3 ∧ g 3 < 256) ∧ (0 ≤ g 4 ∧ g 4 < 65536)
  | 20, g => (∀ k, k < 5 → 0 ≤ g k ∧ g k < 256) ∧ 0 ≤ g 5 ∧ g 5 < 65536
  | _, _ => True
theorem good_of {Z : Nat → Nat → Int} (h : ∀ k, GZ k (Z k)) : GoodZ Z :=
  ⟨(h 0).1, (h 0).2, h 3, h 8, (h 10).1, (h 10).2, h 11, h 12, (h 13).1, h 16, (h 17).1, h 18, (h 19).1, (h 19).2.1, (h 19).2.2.1, (h 19).2.2.2.1, (h 19).2.2.2.2, (h 13).2, (h 17).2⟩
theorem good_up {Z : Nat → Nat → Int} (h : ∀ k, GZ k (Z k)) (i : Nat) (g : Nat → Int) (hg : GZ i g) : ∀ k, GZ k (upZ Z i g k) := fun k => by
  unfold upZ
  split
  · rename_i e; rw [e]; exact hg
  · exact h k
theorem adv_ok (g : Nat → Int) (t : Int) (h : okT (g 0) (g 1) (isB (g 2)) (g 3) = true) : okT (advG g t 0) (advG g t 1) (isB (advG g t 2)) (advG g t 3) = true := by
  show okT (g 0) (cT (g 0) (g 1) (isB (g 2)) (g 3) t) (isB (g 2)) (pT (g 0) (g 1) (isB (g 2)) (g 3) t) = true
  have h0 := okT_true h
  generalize isB (g 2) = o at *
  unfold cT pT
  by_cases hg : goT (g 0) (g 1) o (g 3) t = true
  · rw [if_pos hg, if_pos hg]
    unfold goT at hg
    simp only [Bool.and_eq_true, decide_eq_true_eq] at hg
    obtain ⟨⟨rfl, h1⟩, h2, h3⟩ := hg
    have p1 : g 3 ≤ 3071 := h0.2.2.2.2.2
    have k := rnd_is (g 0) (g 1) ((t + g 3) / 3072) h0.1 h0.2.2.1
    have l := is_le h0.2.1 h0.2.2.2.1 (s := (t + g 3) / 3072) (by omega) k
    unfold okT T10.preOf
    simp
    have := k.2.1
    omega
  · rw [if_neg hg, if_neg hg]
    exact h
theorem mT_in (m k : Int) (h : 0 ≤ m ∧ m < 8) : mT m k = m := by unfold mT; split <;> omega
theorem lT_in (l k : Int) (h : 0 ≤ l ∧ l < 8) : 0 ≤ lT l k ∧ lT l k < 8 := by
  unfold lT
  split
  · exact or3_in l 4
  · exact h
theorem good_set {Z : Nat → Nat → Int} (h : ∀ k, GZ k (Z k)) : ∀ k, GZ k (setZ Z k) := by
  have h13 := (h 13).1
  refine good_up (good_up (good_up h 12 _ (adv_ok _ _ (h 12))) 13 _ ⟨⟨?_, ?_⟩, rfl⟩) 17 _ ⟨by decide, rfl⟩
  · show 0 ≤ mT (Z 13 0) _ ∧ mT (Z 13 0) _ < 8
    rw [mT_in _ _ h13.1]
    exact h13.1
  · exact lT_in _ _ h13.2
end Go.Proofs.YtkpcpjneeinkdaaGreatDoor.L24
namespace Go.Proofs.YtkpcpjneeinkdaaGreatDoor.L24
open Go.Proofs.YtkpcpjneeinkdaaGreatDoor.B4 Go.Proofs.YtkpcpjneeinkdaaGreatDoor.C3 Go.Proofs.YtkpcpjneeinkdaaGreatDoor.G6 Go.Proofs.YtkpcpjneeinkdaaGreatDoor.I11 Go.Proofs.YtkpcpjneeinkdaaGreatDoor.J23 Go.Proofs.YtkpcpjneeinkdaaGreatDoor.M5 Go.Proofs.YtkpcpjneeinkdaaGreatDoor.P22 Go.Proofs.YtkpcpjneeinkdaaGreatDoor.R15 Go.Proofs.YtkpcpjneeinkdaaGreatDoor.T10 Go.Proofs.YtkpcpjneeinkdaaGreatDoor.V12 Go.Proofs.YtkpcpjneeinkdaaGreatDoor.W13
open Go.RowKit
set_option linter.unusedVariables false
theorem kindW_cases (p : Int) : (0 ≤ p ∧ p < 1048576 ∧ kindW p = 0) ∨ (2031616 ≤ p ∧ p < 2064384 ∧ kindW p = 1) ∨ kindW p = 2 ∨ kindW p = 3 ∨ kindW p = 4 ∨ kindW p = 5 ∨ kindW p = 6 ∨ kindW p = 7 ∨ kindW p = 8 := by
  unfold kindW
  split
  · omega
  split
  · omega
  split
  · omega
  split
  · omega
  · omega
theorem at_irq {p : Int} (hk : kindW p = 7) : 0 ≤ atW p ∧ atW p < 4 := by
  unfold atW
  rw [hk]
  simp
  omega
theorem word_in {f : Nat → Int} (h : ∀ j, 0 ≤ f j ∧ f j < 65536) (n : Int) : 0 ≤ wordAt f n ∧ wordAt f n < 65536 := by
  unfold wordAt
  split
  · exact h _
  · omega
theorem bic_in (l n : Int) : 0 ≤ bic3 l n ∧ bic3 l n < 8 := bic3_in l n
theorem good_hold {Z : Nat → Nat → Int} (h : ∀ k, GZ k (Z k)) (x : Int) (x0 : 0 ≤ x) (x1 : x < 256) : ∀ k, GZ k (holdZ Z x k) := good_up h 16 _ ⟨x0, x1⟩
theorem good_look {Z : Nat → Nat → Int} (h : ∀ k, GZ k (Z k)) : ∀ k, GZ k (lookZ Z k) := good_up (good_up h 3 _ ⟨by decide, by decide⟩) 13 _ ⟨⟨⟨by show 0 ≤ Z 13 0 % 8; omega, by show Z 13 0 % 8 < 8; omega⟩, bic_in _ _⟩, rfl⟩
theorem good_next {Z : Nat → Nat → Int} (h : ∀ k, GZ k (Z k)) : ∀ k, GZ k (nextZ Z k) := by
  have h19 := h 19
  refine good_up h 19 _ ⟨h19.1, ⟨?_, ?_⟩, h19.2.2.1, h19.2.2.2.1, word_in (h 18) _⟩
  · show 0 ≤ (Z 19 1 + Z 19 2) % 65536
    omega
  · show (Z 19 1 + Z 19 2) % 65536 < 65536
    omega
theorem good_vceN {Z : Nat → Nat → Int} (h : ∀ k, GZ k (Z k)) (a : Int) : ∀ k, GZ k (upZ Z 10 (vceN (Z 10) a) k) := by
  have h10 := h 10
  refine good_up h 10 _ ?_
  unfold vceN
  split
  · refine ⟨⟨?_, ?_⟩, fun j => h10.2 j⟩
    · show 0 ≤ (Z 10 1 + 1) % 512
      omega
    · show (Z 10 1 + 1) % 512 < 512
      omega
  · exact h10
theorem set_set {Z : Nat → Nat → Int} : setZ (setZ Z) = setZ Z := setZ_flat _ rfl rfl
end Go.Proofs.YtkpcpjneeinkdaaGreatDoor.L24
namespace Go.Proofs.YtkpcpjneeinkdaaGreatDoor.D24
open Go.RowKit
set_option linter.unusedVariables false
def ylens : List Nat := [1, 1, 1, 1, 8, 21, 1, 256, 1, 1, 1, 514, 244, 4, 1, 1, 4, 10, 1]
def IsY (L : List (Nat × (Nat → Value))) : Prop := L.map Prod.fst = ylens
theorem IsY.off {L : List (Nat × (Nat → Value))} (h : IsY L) (k : Nat) {a : Nat} (ha : (ylens.take k).sum = a) : soff L k = a := off_of h k ha
theorem IsY.set {L : List (Nat × (Nat → Value))} (h : IsY L) {k n : Nat} {f : Nat → Value} (hk : L[k]? = some (n, f)) (f' : Nat → Value) : IsY (L.set k (n, f')) := lens_set h hk f'
end Go.Proofs.YtkpcpjneeinkdaaGreatDoor.D24
namespace Go.Proofs.YtkpcpjneeinkdaaGreatDoor.D24
open Go.Proofs.YtkpcpjneeinkdaaGreatDoor.W13
open Go.RowKit
set_option linter.unusedVariables false
def HasY (w : World) (b c d r : Nat) (L : List (Nat × (Nat → Value))) (f : Nat → Int) (wr rd st lo bu : Int) (ram : Nat → Int) : Prop :=
  HasF 141 w b 1072 (segs L) ∧ HasR w c d f wr rd st lo bu ∧ HasF 3 w r 8192 (iv ram) ∧ IsY L ∧ L[6]? = some (1, fun _ => .pointer (some ⟨c, 0, none⟩)) ∧ L[3]? = some (1, fun _ => .slice (some ⟨r, 0, none⟩) 8192 8192) ∧ (b ≠ c ∧ b ≠ d ∧ b ≠ r ∧ c ≠ r ∧ d ≠ r)
theorem HasY.next {w : World} {b c d r : Nat} {L : List (Nat × (Nat → Value))} {f : Nat → Int} {wr rd st lo bu : Int} {ram : Nat → Int} (h : HasY w b c d r L f wr rd st lo bu ram) {w' : World} (k : Below w.heap.size w w') : HasY w' b c d r L f wr rd st lo bu ram := ⟨h.1.next k, h.2.1.next k, h.2.2.1.next k, h.2.2.2⟩
theorem HasY.row {w : World} {b c d r : Nat} {L : List (Nat × (Nat → Value))} {f : Nat → Int} {wr rd st lo bu : Int} {ram : Nat → Int} (h : HasY w b c d r L f wr rd st lo bu ram) {w' : World} {L' : List (Nat × (Nat → Value))} (k : But b w w') (h' : HasF 141 w' b 1072 (segs L')) (y : IsY L') (y6 : L'[6]? = L[6]?) (y3 : L'[3]? = L[3]?) : HasY w' b c d r L' f wr rd st lo bu ram :=
  ⟨h', ⟨k.obj h.2.1.1 (fun e => h.2.2.2.2.2.2.1 e.symm), k.obj h.2.1.2.1 (fun e => h.2.2.2.2.2.2.2.1 e.symm), h.2.1.2.2⟩, k.keep h.2.2.1 (fun e => h.2.2.2.2.2.2.2.2.1 e.symm), y, y6.trans h.2.2.2.2.1, y3.trans h.2.2.2.2.2.1, h.2.2.2.2.2.2⟩
theorem HasY.vram {w : World} {b c d r : Nat} {L : List (Nat × (Nat → Value))} {f : Nat → Int} {wr rd st lo bu : Int} {ram : Nat → Int} (h : HasY w b c d r L f wr rd st lo bu ram) {w' : World} {f' : Nat → Int} {wr' rd' st' lo' bu' : Int} (k : Only2 c d w w') (h' : HasR w' c d f' wr' rd' st' lo' bu') : HasY w' b c d r L f' wr' rd' st' lo' bu' ram :=
  ⟨k.obj h.1 h.2.2.2.2.2.2.1 h.2.2.2.2.2.2.2.1, h', k.obj h.2.2.1 (fun e => h.2.2.2.2.2.2.2.2.2.1 e.symm) (fun e => h.2.2.2.2.2.2.2.2.2.2 e.symm), h.2.2.2⟩
end Go.Proofs.YtkpcpjneeinkdaaGreatDoor.D24
