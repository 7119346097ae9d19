/- Texts put together. -/
import Derived.Test.YtnoggfnidaifkaaGreatDoorConsoleNobodyJ24
import Derived.Test.YtnoggfnidaifkaaGreatDoorConsoleNobodyJ10
import Derived.Test.YtnoggfnidaifkaaGreatDoorConsoleNobodyJ05
import Derived.Deep.CutRange
import Derived.Test.YtnoggfnidaifkaaGreatDoorConsoleNobodyJ25
import Derived.Test.YtnoggfnidaifkaaGreatDoorConsoleNobodyJ23
import Derived.Test.YtnoggfnidaifkaaGreatDoorConsoleNobodyJ14
namespace Go.Proofs.YtnoggfnidaifkaaGreatDoor.L24
set_option maxRecDepth 20000
open B4 C3 G6 I11 J23 M5 P22 R15 T10 V12 W13
open Go.RowKit
set_option linter.unusedVariables false
def GZ : Nat → (Nat → Int) → Prop
  | 0, g => (0 ≤ g 0 ∧ g 0 < 32) ∧ ∀ i, i < 20 → 0 ≤ g (i + 1) ∧ g (i + 1) < 65536
  | 3, g => 0 ≤ g 0 ∧ g 0 < 128
  | 8, g => ∀ j, 0 ≤ g j ∧ g j < 256
  | 10, g => (0 ≤ g 1 ∧ g 1 < 512) ∧ ∀ j, 0 ≤ g (j + 2) ∧ g (j + 2) < 512
  | 11, g => P22.okP g
  | 12, g => okT (g 0) (g 1) (isB (g 2)) (g 3) = true
  | 13, g => ((0 ≤ g 0 ∧ g 0 < 8) ∧ 0 ≤ g 1 ∧ g 1 < 8) ∧ g = twoV (g 0) (g 1)
  | 16, g => 0 ≤ g 0 ∧ g 0 < 256
  | 17, g => (0 ≤ g 0 ∧ g 0 ≤ 8388608) ∧ g = oneV (g 0)
  | 18, g => ∀ j, 0 ≤ g j ∧ g j < 65536
  | 19, g => (0 ≤ g 0 ∧ g 0 < 65536) ∧ (0 ≤ g 1 ∧ g 1 < 65536) ∧ (1 ≤ g 2 ∧ g 2 < 65536) ∧ (0 ≤ g 3 ∧ g 3 < 256) ∧ (0 ≤ g 4 ∧ g 4 < 65536)
  | 20, g => (∀ k, k < 5 → 0 ≤ g k ∧ g k < 256) ∧ 0 ≤ g 5 ∧ g 5 < 65536
  | _, _ => True
theorem good_of {Z : Nat → Nat → Int} (h : ∀ k, GZ k (Z k)) : GoodZ Z :=
  ⟨(h 0).1, (h 0).2, h 3, h 8, (h 10).1, (h 10).2, h 11, h 12, (h 13).1, h 16, (h 17).1, h 18, (h 19).1, (h 19).2.1, (h 19).2.2.1, (h 19).2.2.2.1, (h 19).2.2.2.2, (h 13).2, (h 17).2⟩
theorem good_up {Z : Nat → Nat → Int} (h : ∀ k, GZ k (Z k)) (i : Nat) (g : Nat → Int) (hg : GZ i g) : ∀ k, GZ k (upZ Z i g k) := fun k => by
  unfold upZ
  split
  · rename_i e; rw [e]; exact hg
  · exact h k
theorem adv_ok (g : Nat → Int) (t : Int) (h : okT (g 0) (g 1) (isB (g 2)) (g 3) = true) : okT (advG g t 0) (advG g t 1) (isB (advG g t 2)) (advG g t 3) = true := by
  show okT (g 0) (cT (g 0) (g 1) (isB (g 2)) (g 3) t) (isB (g 2)) (pT (g 0) (g 1) (isB (g 2)) (g 3) t) = true
  have h0 := okT_true h
  generalize isB (g 2) = o at *
  unfold cT pT
  by_cases hg : goT (g 0) (g 1) o (g 3) t = true
  · rw [if_pos hg, if_pos hg]
    unfold goT at hg
    simp only [Bool.and_eq_true, decide_eq_true_eq] at hg
    obtain ⟨⟨rfl, h1⟩, h2, h3⟩ := hg
    have p1 : g 3 ≤ 3071 := h0.2.2.2.2.2
    have k := rnd_is (g 0) (g 1) ((t + g 3) / 3072) h0.1 h0.2.2.1
    have l := is_le h0.2.1 h0.2.2.2.1 (s := (t + g 3) / 3072) (by omega) k
    unfold okT T10.preOf
    simp
    have := k.2.1
    omega
  · rw [if_neg hg, if_neg hg]
    exact h
theorem mT_in (m k : Int) (h : 0 ≤ m ∧ m < 8) : mT m k = m := by unfold mT; split <;> omega
theorem lT_in (l k : Int) (h : 0 ≤ l ∧ l < 8) : 0 ≤ lT l k ∧ lT l k < 8 := by
  unfold lT
  split
  · exact or3_in l 4
  · exact h
theorem good_set {Z : Nat → Nat → Int} (h : ∀ k, GZ k (Z k)) : ∀ k, GZ k (setZ Z k) := by
  have h13 := (h 13).1
  refine good_up (good_up (good_up h 12 _ (adv_ok _ _ (h 12))) 13 _ ⟨⟨?_, ?_⟩, rfl⟩) 17 _ ⟨by decide, rfl⟩
  · show 0 ≤ mT (Z 13 0) _ ∧ mT (Z 13 0) _ < 8
    rw [mT_in _ _ h13.1]
    exact h13.1
  · exact lT_in _ _ h13.2
end Go.Proofs.YtnoggfnidaifkaaGreatDoor.L24
namespace Go.Proofs.YtnoggfnidaifkaaGreatDoor.L24
set_option maxRecDepth 20000
open B4 C3 G6 I11 J23 M5 P22 R15 T10 V12 W13
open Go.RowKit
set_option linter.unusedVariables false
theorem kindW_cases (p : Int) : (0 ≤ p ∧ p < 1048576 ∧ kindW p = 0) ∨ (2031616 ≤ p ∧ p < 2064384 ∧ kindW p = 1) ∨ kindW p = 2 ∨ kindW p = 3 ∨ kindW p = 4 ∨ kindW p = 5 ∨ kindW p = 6 ∨ kindW p = 7 ∨ kindW p = 8 := by
  unfold kindW
  split
  · omega
  split
  · omega
  split
  · omega
  split
  · omega
  · omega
theorem at_irq {p : Int} (hk : kindW p = 7) : 0 ≤ atW p ∧ atW p < 4 := by
  unfold atW
  rw [hk]
  simp
  omega
theorem word_in {f : Nat → Int} (h : ∀ j, 0 ≤ f j ∧ f j < 65536) (n : Int) : 0 ≤ wordAt f n ∧ wordAt f n < 65536 := by
  unfold wordAt
  split
  · exact h _
  · omega
theorem bic_in (l n : Int) : 0 ≤ bic3 l n ∧ bic3 l n < 8 := bic3_in l n
theorem good_hold {Z : Nat → Nat → Int} (h : ∀ k, GZ k (Z k)) (x : Int) (x0 : 0 ≤ x) (x1 : x < 256) : ∀ k, GZ k (holdZ Z x k) := good_up h 16 _ ⟨x0, x1⟩
theorem good_look {Z : Nat → Nat → Int} (h : ∀ k, GZ k (Z k)) : ∀ k, GZ k (lookZ Z k) := good_up (good_up h 3 _ ⟨by decide, by decide⟩) 13 _ ⟨⟨⟨by show 0 ≤ Z 13 0 % 8; omega, by show Z 13 0 % 8 < 8; omega⟩, bic_in _ _⟩, rfl⟩
theorem good_next {Z : Nat → Nat → Int} (h : ∀ k, GZ k (Z k)) : ∀ k, GZ k (nextZ Z k) := by
  have h19 := h 19
  refine good_up h 19 _ ⟨h19.1, ⟨?_, ?_⟩, h19.2.2.1, h19.2.2.2.1, word_in (h 18) _⟩
  · show 0 ≤ (Z 19 1 + Z 19 2) % 65536
    omega
  · show (Z 19 1 + Z 19 2) % 65536 < 65536
    omega
theorem good_vceN {Z : Nat → Nat → Int} (h : ∀ k, GZ k (Z k)) (a : Int) : ∀ k, GZ k (upZ Z 10 (vceN (Z 10) a) k) := by
  have h10 := h 10
  refine good_up h 10 _ ?_
  unfold vceN
  split
  · refine ⟨⟨?_, ?_⟩, fun j => h10.2 j⟩
    · show 0 ≤ (Z 10 1 + 1) % 512
      omega
    · show (Z 10 1 + 1) % 512 < 512
      omega
  · exact h10
end Go.Proofs.YtnoggfnidaifkaaGreatDoor.L24
namespace Go.Proofs.YtnoggfnidaifkaaGreatDoor.L25
set_option maxRecDepth 20000
open B4 C3 G6 I11 J23 L24 M5 P22 R15 T10 V12 W13
open Go.RowKit
set_option linter.unusedVariables false
def padR (Z : Nat → Nat → Int) : Int := J23.rdOf (isB (Z 14 0)) (isB (Z 14 2)) (Z 14 3) (fun n => Z 15 (2 * n)) (fun n => isB (Z 15 (2 * n + 1))) false
def rdV (bs : List Int) (Z : Nat → Nat → Int) (p : Int) : Int :=
  if kindW p = 0 then romB bs Z p else if kindW p = 1 then Z 8 (p % 8192).toNat
  else if kindW p = 2 then (if atW p = 0 then Z 3 0 else if atW p = 2 then Z 19 4 % 256 else if atW p = 3 then Z 19 4 / 256 % 256 else 0)
  else if kindW p = 3 then vceR (Z 10) (atW p) else if kindW p = 4 then Z 16 0
  else if kindW p = 5 then Z 16 0 / 128 * 128 + setZ Z 12 1 else if kindW p = 6 then padR Z
  else if kindW p = 7 then (if atW p < 2 then Z 16 0 else Z 16 0 / 8 * 8 + readOf (setZ Z 13 0) (setZ Z 13 1) (atW p)) else 255
def rdZ (Z : Nat → Nat → Int) (p : Int) : Nat → Nat → Int :=
  if kindW p = 2 then (if atW p = 0 then lookZ Z else if atW p = 3 then nextZ Z else Z)
  else if kindW p = 3 then upZ Z 10 (vceN (Z 10) (atW p))
  else if kindW p = 5 then holdZ (setZ Z) (Z 16 0 / 128 * 128 + setZ Z 12 1) else if kindW p = 6 then holdZ Z (padR Z)
  else if kindW p = 7 then (if atW p < 2 then Z else holdZ (setZ Z) (Z 16 0 / 8 * 8 + readOf (setZ Z 13 0) (setZ Z 13 1) (atW p))) else Z
theorem sim_rd0 {Z : Nat → Nat → Int} (h : ∀ k, GZ k (Z k)) (b v c d : Nat) (bs : List Int) (hn : known ((bs.length / 8192 : Nat) : Int) = true) (p : Int) : ∃ x Z', rdV bs Z p = x ∧ rdZ Z p = Z' ∧ (∀ k, GZ k (Z' k)) ∧ Z' 17 0 ≤ Z 17 0 ∧ (∀ w, HasP w b v c d bs Z → Calls Tryz.prog 58 #[.pointer (some ⟨b, 0, none⟩), .int .i64 p] w fun e w' => e = Ending.returned (.int .i64 x) ∧ HasP w' b v c d bs Z' ∧ OnlyE (EX b v) w w') := by
  have g := good_of h
  have hs := good_set h
  have l0 : (0 : Int) ≤ Z 17 0 := (h 17).1.1
  have h16 := h 16
  rcases kindW_cases p with ⟨p0, p1, hk⟩ | ⟨p0, p1, hk⟩ | hk | hk | hk | hk | hk | hk | hk
  · exact ⟨romB bs Z p, Z, by simp [rdV, hk], by simp [rdZ, hk], h, Int.le_refl _, fun w hP => p_rom hP g p hn p0 p1⟩
  · exact ⟨Z 8 (p % 8192).toNat, Z, by simp [rdV, hk], by simp [rdZ, hk], h, Int.le_refl _, fun w hP => p_ram hP g p p0 p1⟩
  · by_cases a0 : atW p = 0
    · exact ⟨Z 3 0, lookZ Z, by simp [rdV, hk, a0], by simp [rdZ, hk, a0], good_look h, Int.le_refl _, fun w hP => p_status hP g p hk a0⟩
    by_cases a2 : atW p = 2
    · exact ⟨Z 19 4 % 256, Z, by simp [rdV, hk, a2], by simp [rdZ, hk, a2], h, Int.le_refl _, fun w hP => p_low hP g p hk a2⟩
    by_cases a3 : atW p = 3
    · exact ⟨Z 19 4 / 256 % 256, nextZ Z, by simp [rdV, hk, a3], by simp [rdZ, hk, a3], good_next h, Int.le_refl _, fun w hP => p_high hP g p hk a3⟩
    · exact ⟨0, Z, by simp [rdV, hk, a0, a2, a3], by simp [rdZ, hk, a0, a3], h, Int.le_refl _, fun w hP => p_vdc_no hP g p hk a0 a2 a3⟩
  · exact ⟨vceR (Z 10) (atW p), upZ Z 10 (vceN (Z 10) (atW p)), by simp [rdV, hk], by simp [rdZ, hk], good_vceN h _, Int.le_refl _, fun w hP => p_vceR hP g p hk⟩
  · exact ⟨Z 16 0, Z, by simp [rdV, hk], by simp [rdZ, hk], h, Int.le_refl _, fun w hP => p_hold hP g p hk⟩
  · have o := okT_true (hs 12)
    exact ⟨Z 16 0 / 128 * 128 + setZ Z 12 1, holdZ (setZ Z) (Z 16 0 / 128 * 128 + setZ Z 12 1), by simp [rdV, hk], by simp [rdZ, hk], good_hold hs _ (by have := h16.1; omega) (by have := h16.2; omega), l0, fun w hP => p_timer hP g p hk o.2.2.1 (by omega)⟩
  · have r0 := J23.preOf_in (isB (Z 14 0)) (isB (Z 14 2)) (Z 14 3) (fun n => Z 15 (2 * n)) (fun n => isB (Z 15 (2 * n + 1)))
    exact ⟨padR Z, holdZ Z (padR Z), by simp [rdV, hk], by simp [rdZ, hk], good_hold h _ (by unfold padR J23.rdOf; simp; omega) (by unfold padR J23.rdOf; simp; omega), Int.le_refl _, fun w hP => p_pad hP g p hk⟩
  · by_cases ha : atW p < 2
    · exact ⟨Z 16 0, Z, by simp [rdV, hk, ha], by simp [rdZ, hk, ha], h, Int.le_refl _, fun w hP => p_irq0 hP g p hk ha⟩
    · have a4 := at_irq hk
      have hr : 0 ≤ readOf (setZ Z 13 0) (setZ Z 13 1) (atW p) ∧ readOf (setZ Z 13 0) (setZ Z 13 1) (atW p) < 8 := by
        unfold readOf
        split
        · omega
        · split <;> omega
      exact ⟨Z 16 0 / 8 * 8 + readOf (setZ Z 13 0) (setZ Z 13 1) (atW p), holdZ (setZ Z) (Z 16 0 / 8 * 8 + readOf (setZ Z 13 0) (setZ Z 13 1) (atW p)), by simp [rdV, hk, ha], by simp [rdZ, hk, ha], good_hold hs _ (by have := h16.1; omega) (by have := h16.2; omega), l0, fun w hP => p_irq hP g p hk (by omega)⟩
  · exact ⟨255, Z, by simp [rdV, hk], by simp [rdZ, hk], h, Int.le_refl _, fun w hP => p_open hP g p hk⟩
theorem sim_rd {Z : Nat → Nat → Int} (h : ∀ k, GZ k (Z k)) (b v c d : Nat) (bs : List Int) (hn : known ((bs.length / 8192 : Nat) : Int) = true) (p : Int) {x : Int} {Z' : Nat → Nat → Int} (hx : rdV bs Z p = x) (hz : rdZ Z p = Z') : (∀ k, GZ k (Z' k)) ∧ Z' 17 0 ≤ Z 17 0 ∧ (∀ w, HasP w b v c d bs Z → Calls Tryz.prog 58 #[.pointer (some ⟨b, 0, none⟩), .int .i64 p] w fun e w' => e = Ending.returned (.int .i64 x) ∧ HasP w' b v c d bs Z' ∧ OnlyE (EX b v) w w') := by
  obtain ⟨x1, Z1, e1, e2, k⟩ := sim_rd0 h b v c d bs hn p
  obtain rfl : x = x1 := hx.symm.trans e1
  obtain rfl : Z' = Z1 := hz.symm.trans e2
  exact k
end Go.Proofs.YtnoggfnidaifkaaGreatDoor.L25
namespace Go.Proofs.YtnoggfnidaifkaaGreatDoor.L25
set_option maxRecDepth 20000
open B4 C3 G6 I11 J23 L24 M5 P22 R15 T10 V12 W13
open Go.RowKit
set_option linter.unusedVariables false
theorem upZ_comm (Z : Nat → Nat → Int) (i k : Nat) (f g : Nat → Int) (h : i ≠ k) : upZ (upZ Z k g) i f = upZ (upZ Z i f) k g := funext fun j => by
  unfold upZ
  by_cases e1 : j = i
  · subst e1
    rw [if_pos rfl, if_neg h, if_pos rfl]
  · rw [if_neg e1, if_neg e1]
theorem up_out {k : Nat} (hk : 20 ≤ k) (Z : Nat → Nat → Int) (g : Nat → Int) (j : Nat) (hj : j < 20) : upZ Z k g j = Z j := upZ_other _ _ _ _ (by omega)
theorem setZ_out {k : Nat} (hk : 20 ≤ k) (Z : Nat → Nat → Int) (g : Nat → Int) : setZ (upZ Z k g) = upZ (setZ Z) k g := setZ_up _ _ _ (by omega)
theorem rdV_out {k : Nat} (hk : 20 ≤ k) (bs : List Int) (Z : Nat → Nat → Int) (g : Nat → Int) (p : Int) : rdV bs (upZ Z k g) p = rdV bs Z p := by
  have e := up_out hk Z g
  have s : ∀ j, j < 20 → setZ (upZ Z k g) j = setZ Z j := fun j hj => by rw [setZ_out hk]; exact up_out hk _ g j hj
  unfold rdV romB padR
  rw [e 3 (by decide), e 7 (by decide), e 8 (by decide), e 10 (by decide), e 14 (by decide), e 15 (by decide), e 16 (by decide), e 19 (by decide), s 12 (by decide), s 13 (by decide)]
theorem rdZ_out {k : Nat} (hk : 20 ≤ k) (Z : Nat → Nat → Int) (g : Nat → Int) (p : Int) : rdZ (upZ Z k g) p = upZ (rdZ Z p) k g := by
  have e := up_out hk Z g
  have s : ∀ j, j < 20 → setZ (upZ Z k g) j = setZ Z j := fun j hj => by rw [setZ_out hk]; exact up_out hk _ g j hj
  have ho : ∀ (Y : Nat → Nat → Int) (x : Int), holdZ (upZ Y k g) x = upZ (holdZ Y x) k g := fun Y x => upZ_comm _ _ _ _ _ (by omega)
  unfold rdZ
  rw [show padR (upZ Z k g) = padR Z by unfold padR; rw [e 14 (by decide), e 15 (by decide)], e 10 (by decide), e 16 (by decide), s 12 (by decide), s 13 (by decide), setZ_out hk]
  split
  · split
    · unfold lookZ
      rw [e 13 (by decide), upZ_comm _ 3 k _ _ (by omega), upZ_comm _ 13 k _ _ (by omega)]
    split
    · unfold nextZ
      rw [e 18 (by decide), e 19 (by decide), upZ_comm _ 19 k _ _ (by omega)]
    · rfl
  split
  · exact upZ_comm _ _ _ _ _ (by omega)
  split
  · exact ho _ _
  split
  · exact ho _ _
  split
  · split
    · rfl
    · exact ho _ _
  · rfl
theorem rdZ_keep {k : Nat} (hk : 20 ≤ k) (Z : Nat → Nat → Int) (p : Int) : rdZ Z p k = Z k := by
  have q := congrFun (rdZ_out hk Z (Z k) p) k
  rw [upZ_id, upZ_same] at q
  exact q
theorem rdV_in {Z : Nat → Nat → Int} (h : ∀ k, GZ k (Z k)) {bs : List Int} (hb : ∀ z, z ∈ bs → 0 ≤ z ∧ z < 256) (p : Int) : 0 ≤ rdV bs Z p ∧ rdV bs Z p < 256 := by
  have h16 := h 16
  have hs := good_set h
  unfold rdV
  split
  · unfold romB
    rw [List.getD_eq_getElem?_getD]
    cases e : bs[(pageOf ((bs.length / 8192 : Nat) : Int) (Z 7 0) (p / 8192) * 8192 + p % 8192).toNat]? with
    | none => exact ⟨by decide, by decide⟩
    | some z => exact hb z (List.mem_of_getElem? e)
  split
  · exact h 8 _
  split
  · have h3 := h 3
    have h19 := (h 19).2.2.2.2
    split
    · exact ⟨h3.1, by have := h3.2; omega⟩
    split
    · omega
    split
    · omega
    · exact ⟨by decide, by decide⟩
  split
  · have h10 := (h 10).2 (Z 10 1).toNat
    unfold vceR
    split
    · omega
    split
    · omega
    · exact ⟨by decide, by decide⟩
  split
  · exact h16
  split
  · have o := okT_true (hs 12)
    have := o.2.2.1
    have := h16.1
    have := h16.2
    omega
  split
  · have r0 := J23.preOf_in (isB (Z 14 0)) (isB (Z 14 2)) (Z 14 3) (fun n => Z 15 (2 * n)) (fun n => isB (Z 15 (2 * n + 1)))
    unfold padR J23.rdOf
    simp
    omega
  split
  · split
    · exact h16
    · have hr : 0 ≤ readOf (setZ Z 13 0) (setZ Z 13 1) (atW p) ∧ readOf (setZ Z 13 0) (setZ Z 13 1) (atW p) < 8 := by
        unfold readOf
        split
        · omega
        · split <;> omega
      have := h16.1
      have := h16.2
      omega
  · exact ⟨by decide, by decide⟩
def cyc (Z : Nat → Nat → Int) (n : Int) : Nat → Nat → Int := upZ Z 23 (oneV (wrap64 (Z 23 0 + n)))
def setR (Z : Nat → Nat → Int) (k : Nat) (x : Int) : Nat → Nat → Int := upZ Z 20 (up (Z 20) k x)
def phZ (Z : Nat → Nat → Int) (a : Int) : Int := physOf (Z 9) a
def slZ (Z : Nat → Nat → Int) (a : Int) : Int := slowK (kindW (phZ Z a))
def rV (bs : List Int) (Z : Nat → Nat → Int) (a : Int) : Int := rdV bs Z (phZ Z a)
def rS (Z : Nat → Nat → Int) (a : Int) : Nat → Nat → Int := rdZ (cyc Z (slZ Z a)) (phZ Z a)
theorem cyc_at (Z : Nat → Nat → Int) (n : Int) (j : Nat) (h : j ≠ 23) : cyc Z n j = Z j := upZ_other _ _ _ _ h
end Go.Proofs.YtnoggfnidaifkaaGreatDoor.L25
