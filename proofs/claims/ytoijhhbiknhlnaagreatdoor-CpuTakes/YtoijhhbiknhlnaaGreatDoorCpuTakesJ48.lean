/- The law's maker of a program: its machine, and its processor. -/
import Derived.Test.YtoijhhbiknhlnaaGreatDoorCpuTakesJ47
namespace Go.Proofs.YtoijhhbiknhlnaaGreatDoor.L25
set_option maxRecDepth 20000
open B4 C3 D24 G6 I11 J23 L24 M5 P22 R15 T10 V12 W13
open Go.RowKit
set_option linter.unusedVariables false
def putM (C D : Nat → Int) (n m : Nat) : Nat → Int := fun j => if j < m then D j else if 1024 ≤ j ∧ j < 1024 + n then C (j - 1024) else 0
def putZ (C D : Nat → Int) (n m : Nat) : Nat → Nat → Int := upZ (Z0 (keyF 0 0 0 0 0) 5) 8 (putM C D n m)
def SlB (w : World) (sp : Option Addr) (len : Nat) (C : Nat → Int) : Prop := len ≤ 9223372036854775807 ∧ ∀ i, i < len → ∃ q o, sp = some ⟨q, o, none⟩ ∧ w.cell? ⟨q, o + i, none⟩ = some (.int .u8 (C i)) ∧ q < w.heap.size ∧ 0 ≤ C i ∧ C i < 256
theorem up_bv (f : Nat → Int) (i : Nat) (x : Int) : updC (bv f) i (.int .u8 x) = bv (up f i x) := funext fun j => by
  unfold updC bv up
  split <;> rfl
theorem p_ram {w : World} {b v c d : Nat} {bs : List Int} {Z : Nat → Nat → Int} (h : HasP w b v c d bs Z) (a : Nat) (ha : a < 8192) (x : Int) : HasP (w.setCell ⟨b, 283 + a, none⟩ (.int .u8 x)) b v c d bs (upZ Z 8 (up (Z 8) a x)) ∧ But b w (w.setCell ⟨b, 283 + a, none⟩ (.int .u8 x)) ∧ w.cell? ⟨b, 283 + a, none⟩ = some (.int .u8 (Z 8 a)) ∧ w.frozen? ⟨b, 283 + a, none⟩ = false := by
  have kb := (But.refl b w).set (283 + a) (.int .u8 x)
  have q1 := h.1.put 8 rfl a ha (a := 283 + a) (by rw [h.isB.off 8 (a := 283) rfl]) (.int .u8 x)
  rw [up_bv] at q1
  have q3 := HasX.lay h kb 8 (s' := bv (up (Z 8) a x)) rfl q1 (by decide) (by decide)
  exact ⟨q3, kb, h.1.get 8 rfl a ha (a := 283 + a) (by rw [h.isB.off 8 (a := 283) rfl]) (by omega), h.1.frozen _⟩
theorem upZ_twice (Z : Nat → Nat → Int) (k : Nat) (f g : Nat → Int) : upZ (upZ Z k f) k g = upZ Z k g := funext fun i => by
  unfold upZ
  split <;> rfl
theorem putZ_code (C D : Nat → Int) (n : Nat) : upZ (putZ C D n 0) 8 (up (putZ C D n 0 8) (1024 + n) (C n)) = putZ C D (n + 1) 0 := by
  unfold putZ
  rw [upZ_twice, upZ_same]
  congr 1
  funext j
  unfold up putM
  rw [if_neg (Nat.not_lt_zero j), if_neg (Nat.not_lt_zero j)]
  by_cases e : j = 1024 + n
  · rw [if_pos e, if_pos (by omega), e, Nat.add_sub_cancel_left]
  · rw [if_neg e]
    by_cases e2 : 1024 ≤ j ∧ j < 1024 + n
    · rw [if_pos e2, if_pos (by omega)]
    · rw [if_neg e2, if_neg (by omega)]
theorem putZ_zero (C D : Nat → Int) (n m : Nat) : upZ (putZ C D n m) 8 (up (putZ C D n m 8) m (D m)) = putZ C D n (m + 1) := by
  unfold putZ
  rw [upZ_twice, upZ_same]
  congr 1
  funext j
  unfold up putM
  by_cases e : j = m
  · rw [if_pos e, if_pos (by omega), e]
  · rw [if_neg e]
    by_cases e2 : j < m
    · rw [if_pos e2, if_pos (by omega)]
    · rw [if_neg e2, if_neg (show ¬ j < m + 1 by omega)]
theorem putZ_none (C D : Nat → Int) : putZ C D 0 0 = Z0 (keyF 0 0 0 0 0) 5 := by
  have e : putM C D 0 0 = Z0 (keyF 0 0 0 0 0) 5 8 := funext fun j => by
    unfold putM
    rw [if_neg (Nat.not_lt_zero j), if_neg (by omega)]
    rfl
  unfold putZ
  rw [e, upZ_id]
end Go.Proofs.YtoijhhbiknhlnaaGreatDoor.L25
