/- What is read at a place of the bus, and written there, by states: the program's machine. -/
import Derived.Test.YtoijhhbiknhlnaaGreatDoorCpuTakesJ28
namespace Go.Proofs.YtoijhhbiknhlnaaGreatDoor.L25
set_option maxRecDepth 20000
open B4 C3 G6 I11 J23 L24 M5 P22 R15 T10 V12 W13
open Go.RowKit
set_option linter.unusedVariables false
def padR (Z : Nat → Nat → Int) : Int := J23.rdOf (isB (Z 14 0)) (isB (Z 14 2)) (Z 14 3) (fun n => Z 15 (2 * n)) (fun n => isB (Z 15 (2 * n + 1))) false
def rdV (bs : List Int) (Z : Nat → Nat → Int) (p : Int) : Int :=
  if kindW p = 0 then romB bs Z p else if kindW p = 1 then Z 8 (p % 8192).toNat
  else if kindW p = 2 then (if atW p = 0 then Z 3 0 else if atW p = 2 then Z 19 4 % 256 else if atW p = 3 then Z 19 4 / 256 % 256 else 0)
  else if kindW p = 3 then vceR (Z 10) (atW p) else if kindW p = 4 then Z 16 0
  else if kindW p = 5 then Z 16 0 / 128 * 128 + setZ Z 12 1 else if kindW p = 6 then padR Z
  else if kindW p = 7 then (if atW p < 2 then Z 16 0 else Z 16 0 / 8 * 8 + readOf (setZ Z 13 0) (setZ Z 13 1) (atW p)) else 255
def rdZ (Z : Nat → Nat → Int) (p : Int) : Nat → Nat → Int :=
  if kindW p = 2 then (if atW p = 0 then lookZ Z else if atW p = 3 then nextZ Z else Z)
  else if kindW p = 3 then upZ Z 10 (vceN (Z 10) (atW p))
  else if kindW p = 5 then holdZ (setZ Z) (Z 16 0 / 128 * 128 + setZ Z 12 1) else if kindW p = 6 then holdZ Z (padR Z)
  else if kindW p = 7 then (if atW p < 2 then Z else holdZ (setZ Z) (Z 16 0 / 8 * 8 + readOf (setZ Z 13 0) (setZ Z 13 1) (atW p))) else Z
def wrZ (Z : Nat → Nat → Int) (p y : Int) : Nat → Nat → Int :=
  if kindW p = 1 then upZ Z 8 (up (Z 8) (p % 8192).toNat y) else if kindW p = 2 then effZ (drawZ Z (atW p) y) (effW (Z 0) (atW p)) y
  else if kindW p = 3 then upZ Z 10 (vceW (Z 10) (atW p) y) else if kindW p = 4 then holdZ (upZ Z 11 (P22.wrF (Z 11) (atW p) y)) y
  else if kindW p = 5 then holdZ (upZ (setZ Z) 12 (timW (setZ Z 12) (atW p) y)) y else if kindW p = 6 then holdZ (upZ Z 14 (padW (Z 14) y)) y
  else if kindW p = 7 then holdZ (upZ (setZ Z) 13 (twoV (irqM (setZ Z 13 0) (setZ Z 13 1) (atW p) y) (irqL (setZ Z 13 0) (setZ Z 13 1) (atW p) y))) y else Z
theorem sim_rd0 {Z : Nat → Nat → Int} (h : ∀ k, GZ k (Z k)) (b v c d : Nat) (bs : List Int) (hn : known ((bs.length / 8192 : Nat) : Int) = true) (p : Int) : ∃ x Z', rdV bs Z p = x ∧ rdZ Z p = Z' ∧ (∀ k, GZ k (Z' k)) ∧ Z' 17 0 ≤ Z 17 0 ∧ (∀ w, HasP w b v c d bs Z → Calls Tryz.prog 28 #[.pointer (some ⟨b, 0, none⟩), .int .i64 p] w fun e w' => e = Ending.returned (.int .i64 x) ∧ HasP w' b v c d bs Z' ∧ OnlyE (EX b v) w w') := by
  have g := good_of h
  have hs := good_set h
  have l0 : (0 : Int) ≤ Z 17 0 := (h 17).1.1
  have h16 := h 16
  rcases kindW_cases p with ⟨p0, p1, hk⟩ | ⟨p0, p1, hk⟩ | hk | hk | hk | hk | hk | hk | hk
  · exact ⟨romB bs Z p, Z, by simp [rdV, hk], by simp [rdZ, hk], h, Int.le_refl _, fun w hP => p_rom hP g p hn p0 p1⟩
  · exact ⟨Z 8 (p % 8192).toNat, Z, by simp [rdV, hk], by simp [rdZ, hk], h, Int.le_refl _, fun w hP => p_ram hP g p p0 p1⟩
  · by_cases a0 : atW p = 0
    · exact ⟨Z 3 0, lookZ Z, by simp [rdV, hk, a0], by simp [rdZ, hk, a0], good_look h, Int.le_refl _, fun w hP => p_status hP g p hk a0⟩
    by_cases a2 : atW p = 2
    · exact ⟨Z 19 4 % 256, Z, by simp [rdV, hk, a2], by simp [rdZ, hk, a2], h, Int.le_refl _, fun w hP => p_low hP g p hk a2⟩
    by_cases a3 : atW p = 3
    · exact ⟨Z 19 4 / 256 % 256, nextZ Z, by simp [rdV, hk, a3], by simp [rdZ, hk, a3], good_next h, Int.le_refl _, fun w hP => p_high hP g p hk a3⟩
    · exact ⟨0, Z, by simp [rdV, hk, a0, a2, a3], by simp [rdZ, hk, a0, a3], h, Int.le_refl _, fun w hP => p_vdc_no hP g p hk a0 a2 a3⟩
  · exact ⟨vceR (Z 10) (atW p), upZ Z 10 (vceN (Z 10) (atW p)), by simp [rdV, hk], by simp [rdZ, hk], good_vceN h _, Int.le_refl _, fun w hP => p_vceR hP g p hk⟩
  · exact ⟨Z 16 0, Z, by simp [rdV, hk], by simp [rdZ, hk], h, Int.le_refl _, fun w hP => p_hold hP g p hk⟩
  · have o := okT_true (hs 12)
    exact ⟨Z 16 0 / 128 * 128 + setZ Z 12 1, holdZ (setZ Z) (Z 16 0 / 128 * 128 + setZ Z 12 1), by simp [rdV, hk], by simp [rdZ, hk], good_hold hs _ (by have := h16.1; omega) (by have := h16.2; omega), l0, fun w hP => p_timer hP g p hk o.2.2.1 (by omega)⟩
  · have r0 := J23.preOf_in (isB (Z 14 0)) (isB (Z 14 2)) (Z 14 3) (fun n => Z 15 (2 * n)) (fun n => isB (Z 15 (2 * n + 1)))
    exact ⟨padR Z, holdZ Z (padR Z), by simp [rdV, hk], by simp [rdZ, hk], good_hold h _ (by unfold padR J23.rdOf; simp; omega) (by unfold padR J23.rdOf; simp; omega), Int.le_refl _, fun w hP => p_pad hP g p hk⟩
  · by_cases ha : atW p < 2
    · exact ⟨Z 16 0, Z, by simp [rdV, hk, ha], by simp [rdZ, hk, ha], h, Int.le_refl _, fun w hP => p_irq0 hP g p hk ha⟩
    · have a4 := at_irq hk
      have hr : 0 ≤ readOf (setZ Z 13 0) (setZ Z 13 1) (atW p) ∧ readOf (setZ Z 13 0) (setZ Z 13 1) (atW p) < 8 := by
        unfold readOf
        split
        · omega
        · split <;> omega
      exact ⟨Z 16 0 / 8 * 8 + readOf (setZ Z 13 0) (setZ Z 13 1) (atW p), holdZ (setZ Z) (Z 16 0 / 8 * 8 + readOf (setZ Z 13 0) (setZ Z 13 1) (atW p)), by simp [rdV, hk, ha], by simp [rdZ, hk, ha], good_hold hs _ (by have := h16.1; omega) (by have := h16.2; omega), l0, fun w hP => p_irq hP g p hk (by omega)⟩
  · exact ⟨255, Z, by simp [rdV, hk], by simp [rdZ, hk], h, Int.le_refl _, fun w hP => p_open hP g p hk⟩
theorem eff_17 (Z : Nat → Nat → Int) (a y e : Int) : effZ (drawZ Z a y) e y 17 = Z 17 := by
  unfold effZ
  split
  · rfl
  split
  · rfl
  split
  · rfl
  split
  · rfl
  split
  · rfl
  split
  · rfl
  split <;> rfl
theorem sim_wr0 {Z : Nat → Nat → Int} (h : ∀ k, GZ k (Z k)) (b v c d : Nat) (bs : List Int) (hn : bs.length / 8192 ≠ 320) (p n y : Int) (hy : n % 256 = y) : ∃ Z', wrZ Z p y = Z' ∧ (∀ k, GZ k (Z' k)) ∧ Z' 17 0 ≤ Z 17 0 ∧ (∀ w, HasP w b v c d bs Z → Calls Tryz.prog 62 #[.pointer (some ⟨b, 0, none⟩), .int .i64 p, .int .i64 n] w fun e w' => e = Ending.returned (.tuple #[]) ∧ HasP w' b v c d bs Z' ∧ OnlyE (EX b v) w w') := by
  have g := good_of h
  have hs := good_set h
  have l0 : (0 : Int) ≤ Z 17 0 := (h 17).1.1
  have y0 : 0 ≤ y ∧ y < 256 := by omega
  rcases kindW_cases p with ⟨p0, p1, hk⟩ | ⟨p0, p1, hk⟩ | hk | hk | hk | hk | hk | hk | hk
  · exact ⟨Z, by simp [wrZ, hk], h, Int.le_refl _, fun w hP => pw_rom hP g p n y hy p0 p1 hn⟩
  · refine ⟨upZ Z 8 (up (Z 8) (p % 8192).toNat y), by simp [wrZ, hk], good_up h 8 _ (fun j => ?_), Int.le_refl _, fun w hP => pw_ram hP g p n y hy p0 p1⟩
    unfold up
    split
    · exact y0
    · exact h 8 j
  · have gd := (gW_good h (atW p) y).2
    exact ⟨effZ (drawZ Z (atW p) y) (effW (Z 0) (atW p)) y, by simp [wrZ, hk], good_eff (good_draw h _ _) _ y y0.1 y0.2, by rw [eff_17]; exact Int.le_refl _, fun w hP => pw_vdc hP g p n y hy hk gd⟩
  · exact ⟨upZ Z 10 (vceW (Z 10) (atW p) y), by simp [wrZ, hk], good_vceW h _ y y0.1 y0.2, Int.le_refl _, fun w hP => pw_vce hP g p n y hy hk⟩
  · exact ⟨holdZ (upZ Z 11 (P22.wrF (Z 11) (atW p) y)) y, by simp [wrZ, hk], good_hold (good_up h 11 _ (P22.wr_ok (h 11) _ _)) y y0.1 y0.2, Int.le_refl _, fun w hP => pw_psg hP g p n y hy hk⟩
  · exact ⟨holdZ (upZ (setZ Z) 12 (timW (setZ Z 12) (atW p) y)) y, by simp [wrZ, hk], good_hold (good_tim hs _ _) y y0.1 y0.2, l0, fun w hP => pw_timer hP g p n y hy hk⟩
  · exact ⟨holdZ (upZ Z 14 (padW (Z 14) y)) y, by simp [wrZ, hk], good_hold (good_up h 14 _ trivial) y y0.1 y0.2, Int.le_refl _, fun w hP => pw_pad hP g p n y hy hk⟩
  · exact ⟨holdZ (upZ (setZ Z) 13 (twoV (irqM (setZ Z 13 0) (setZ Z 13 1) (atW p) y) (irqL (setZ Z 13 0) (setZ Z 13 1) (atW p) y))) y, by simp [wrZ, hk], good_hold (good_irq hs _ _) y y0.1 y0.2, l0, fun w hP => pw_irq hP g p n y hy hk⟩
  · exact ⟨Z, by simp [wrZ, hk], h, Int.le_refl _, fun w hP => pw_open hP g p n y hy hk⟩
theorem sim_rd {Z : Nat → Nat → Int} (h : ∀ k, GZ k (Z k)) (b v c d : Nat) (bs : List Int) (hn : known ((bs.length / 8192 : Nat) : Int) = true) (p : Int) {x : Int} {Z' : Nat → Nat → Int} (hx : rdV bs Z p = x) (hz : rdZ Z p = Z') : (∀ k, GZ k (Z' k)) ∧ Z' 17 0 ≤ Z 17 0 ∧ (∀ w, HasP w b v c d bs Z → Calls Tryz.prog 28 #[.pointer (some ⟨b, 0, none⟩), .int .i64 p] w fun e w' => e = Ending.returned (.int .i64 x) ∧ HasP w' b v c d bs Z' ∧ OnlyE (EX b v) w w') := by
  obtain ⟨x1, Z1, e1, e2, k⟩ := sim_rd0 h b v c d bs hn p
  obtain rfl : x = x1 := hx.symm.trans e1
  obtain rfl : Z' = Z1 := hz.symm.trans e2
  exact k
theorem sim_wr {Z : Nat → Nat → Int} (h : ∀ k, GZ k (Z k)) (b v c d : Nat) (bs : List Int) (hn : bs.length / 8192 ≠ 320) (p n : Int) {Z' : Nat → Nat → Int} (hz : wrZ Z p (n % 256) = Z') : (∀ k, GZ k (Z' k)) ∧ Z' 17 0 ≤ Z 17 0 ∧ (∀ w, HasP w b v c d bs Z → Calls Tryz.prog 62 #[.pointer (some ⟨b, 0, none⟩), .int .i64 p, .int .i64 n] w fun e w' => e = Ending.returned (.tuple #[]) ∧ HasP w' b v c d bs Z' ∧ OnlyE (EX b v) w w') := by
  obtain ⟨Z1, e2, k⟩ := sim_wr0 h b v c d bs hn p n _ rfl
  obtain rfl : Z' = Z1 := hz.symm.trans e2
  exact k
end Go.Proofs.YtoijhhbiknhlnaaGreatDoor.L25
