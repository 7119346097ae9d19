/- Texts put together. -/
import Derived.Test.YtoijhhbiknhlnaaGreatDoorCpuTakesJ29
import Derived.Test.YtoijhhbiknhlnaaGreatDoorCpuTakesJ14
import Derived.Test.YtoijhhbiknhlnaaGreatDoorCpuTakesJ26
namespace Go.Proofs.YtoijhhbiknhlnaaGreatDoor.L25
set_option maxRecDepth 20000
open B4 C3 G6 I11 J23 L24 M5 P22 R15 T10 V12 W13
open Go.RowKit
set_option linter.unusedVariables false
theorem upZ_comm (Z : Nat → Nat → Int) (i k : Nat) (f g : Nat → Int) (h : i ≠ k) : upZ (upZ Z k g) i f = upZ (upZ Z i f) k g := funext fun j => by
  unfold upZ
  by_cases e1 : j = i
  · subst e1
    rw [if_pos rfl, if_neg h, if_pos rfl]
  · rw [if_neg e1, if_neg e1]
theorem upZ_upZ (Z : Nat → Nat → Int) (k : Nat) (f g : Nat → Int) : upZ (upZ Z k g) k f = upZ Z k f := funext fun j => by
  unfold upZ
  by_cases e1 : j = k
  · rw [if_pos e1, if_pos e1]
  · rw [if_neg e1, if_neg e1, if_neg e1]
theorem up_out {k : Nat} (hk : 20 ≤ k) (Z : Nat → Nat → Int) (g : Nat → Int) (j : Nat) (hj : j < 20) : upZ Z k g j = Z j := upZ_other _ _ _ _ (by omega)
theorem setZ_out {k : Nat} (hk : 20 ≤ k) (Z : Nat → Nat → Int) (g : Nat → Int) : setZ (upZ Z k g) = upZ (setZ Z) k g := setZ_up _ _ _ (by omega)
theorem rdV_out {k : Nat} (hk : 20 ≤ k) (bs : List Int) (Z : Nat → Nat → Int) (g : Nat → Int) (p : Int) : rdV bs (upZ Z k g) p = rdV bs Z p := by
  have e := up_out hk Z g
  have s : ∀ j, j < 20 → setZ (upZ Z k g) j = setZ Z j := fun j hj => by rw [setZ_out hk]; exact up_out hk _ g j hj
  unfold rdV romB padR
  rw [e 3 (by decide), e 7 (by decide), e 8 (by decide), e 10 (by decide), e 14 (by decide), e 15 (by decide), e 16 (by decide), e 19 (by decide), s 12 (by decide), s 13 (by decide)]
theorem rdZ_out {k : Nat} (hk : 20 ≤ k) (Z : Nat → Nat → Int) (g : Nat → Int) (p : Int) : rdZ (upZ Z k g) p = upZ (rdZ Z p) k g := by
  have e := up_out hk Z g
  have s : ∀ j, j < 20 → setZ (upZ Z k g) j = setZ Z j := fun j hj => by rw [setZ_out hk]; exact up_out hk _ g j hj
  have ho : ∀ (Y : Nat → Nat → Int) (x : Int), holdZ (upZ Y k g) x = upZ (holdZ Y x) k g := fun Y x => upZ_comm _ _ _ _ _ (by omega)
  unfold rdZ
  rw [show padR (upZ Z k g) = padR Z by unfold padR; rw [e 14 (by decide), e 15 (by decide)], e 10 (by decide), e 16 (by decide), s 12 (by decide), s 13 (by decide), setZ_out hk]
  split
  · split
    · unfold lookZ
      rw [e 13 (by decide), upZ_comm _ 3 k _ _ (by omega), upZ_comm _ 13 k _ _ (by omega)]
    split
    · unfold nextZ
      rw [e 18 (by decide), e 19 (by decide), upZ_comm _ 19 k _ _ (by omega)]
    · rfl
  split
  · exact upZ_comm _ _ _ _ _ (by omega)
  split
  · exact ho _ _
  split
  · exact ho _ _
  split
  · split
    · rfl
    · exact ho _ _
  · rfl
theorem wrZ_out {k : Nat} (hk : 20 ≤ k) (Z : Nat → Nat → Int) (g : Nat → Int) (p y : Int) : wrZ (upZ Z k g) p y = upZ (wrZ Z p y) k g := by
  have e := up_out hk Z g
  have s : ∀ j, j < 20 → setZ (upZ Z k g) j = setZ Z j := fun j hj => by rw [setZ_out hk]; exact up_out hk _ g j hj
  have ho : ∀ (Y : Nat → Nat → Int) (x : Int), holdZ (upZ Y k g) x = upZ (holdZ Y x) k g := fun Y x => upZ_comm _ _ _ _ _ (by omega)
  have te : ∀ (Y : Nat → Nat → Int) (n : Int) (m : Bool), tellZ (upZ Y k g) n m = upZ (tellZ Y n m) k g := fun Y n m => by
    unfold tellZ
    rw [up_out hk Y g 3 (by decide), up_out hk Y g 13 (by decide), upZ_comm _ 3 k _ _ (by omega), upZ_comm _ 13 k _ _ (by omega)]
  have dr : ∀ (a : Int), drawZ (upZ Z k g) a y = upZ (drawZ Z a y) k g := fun a => by
    unfold drawZ
    rw [e 0 (by decide), e 5 (by decide), upZ_comm _ 0 k _ _ (by omega), upZ_comm _ 5 k _ _ (by omega)]
  have ef : ∀ (Y : Nat → Nat → Int) (x : Int), effZ (upZ Y k g) x y = upZ (effZ Y x y) k g := fun Y x => by
    have f := up_out hk Y g
    unfold effZ
    rw [f 0 (by decide), f 18 (by decide), f 19 (by decide)]
    split
    · exact upZ_comm _ _ _ _ _ (by omega)
    split
    · exact upZ_comm _ _ _ _ _ (by omega)
    split
    · exact upZ_comm _ _ _ _ _ (by omega)
    split
    · rw [upZ_comm _ 18 k _ _ (by omega), upZ_comm _ 19 k _ _ (by omega)]
    split
    · exact upZ_comm _ _ _ _ _ (by omega)
    split
    · unfold moveZ moveA
      rw [f 0 (by decide), f 18 (by decide), upZ_comm _ 18 k _ _ (by omega), upZ_comm _ 0 k _ _ (by omega), te]
    split
    · exact upZ_comm _ _ _ _ _ (by omega)
    · rfl
  unfold wrZ
  rw [e 8 (by decide), e 0 (by decide), e 10 (by decide), e 11 (by decide), e 14 (by decide), s 12 (by decide), s 13 (by decide), setZ_out hk, dr, ef]
  split
  · exact upZ_comm _ _ _ _ _ (by omega)
  split
  · rfl
  split
  · exact upZ_comm _ _ _ _ _ (by omega)
  split
  · rw [upZ_comm _ 11 k _ _ (by omega), ho]
  split
  · rw [upZ_comm _ 12 k _ _ (by omega), ho]
  split
  · rw [upZ_comm _ 14 k _ _ (by omega), ho]
  split
  · rw [upZ_comm _ 13 k _ _ (by omega), ho]
  · rfl
theorem rdZ_keep {k : Nat} (hk : 20 ≤ k) (Z : Nat → Nat → Int) (p : Int) : rdZ Z p k = Z k := by
  have q := congrFun (rdZ_out hk Z (Z k) p) k
  rw [upZ_id, upZ_same] at q
  exact q
theorem wrZ_keep {k : Nat} (hk : 20 ≤ k) (Z : Nat → Nat → Int) (p y : Int) : wrZ Z p y k = Z k := by
  have q := congrFun (wrZ_out hk Z (Z k) p y) k
  rw [upZ_id, upZ_same] at q
  exact q
theorem rdZ_low {k : Nat} (hk : k = 7 ∨ k = 8 ∨ k = 9) (Z : Nat → Nat → Int) (p : Int) : rdZ Z p k = Z k := by
  have q : ∀ (Y : Nat → Nat → Int) (j : Nat) (g : Nat → Int), j ≠ 7 → j ≠ 8 → j ≠ 9 → upZ Y j g k = Y k := fun Y j g h1 h2 h3 => upZ_other _ _ _ _ (by omega)
  have qs : setZ Z k = Z k := setZ_no Z k (by omega)
  unfold rdZ lookZ nextZ holdZ
  split
  · split
    · rw [q _ 13 _ (by decide) (by decide) (by decide), q _ 3 _ (by decide) (by decide) (by decide)]
    split
    · rw [q _ 19 _ (by decide) (by decide) (by decide)]
    · rfl
  split
  · rw [q _ 10 _ (by decide) (by decide) (by decide)]
  split
  · rw [q _ 16 _ (by decide) (by decide) (by decide), qs]
  split
  · rw [q _ 16 _ (by decide) (by decide) (by decide)]
  split
  · split
    · rfl
    · rw [q _ 16 _ (by decide) (by decide) (by decide), qs]
  · rfl
theorem wrZ_low {k : Nat} (hk : k = 7 ∨ k = 9) (Z : Nat → Nat → Int) (p y : Int) : wrZ Z p y k = Z k := by
  have q : ∀ (Y : Nat → Nat → Int) (j : Nat) (g : Nat → Int), j ≠ 7 → j ≠ 9 → upZ Y j g k = Y k := fun Y j g h1 h2 => upZ_other _ _ _ _ (by omega)
  have qs : setZ Z k = Z k := setZ_no Z k (by omega)
  have ef : ∀ (Y : Nat → Nat → Int) (x : Int), effZ Y x y k = Y k := fun Y x => by
    unfold effZ moveZ tellZ moveA
    repeat' split
    all_goals first
      | rfl
      | (rw [q _ 13 _ (by decide) (by decide), q _ 3 _ (by decide) (by decide), q _ 0 _ (by decide) (by decide), q _ 18 _ (by decide) (by decide)]; done)
      | (rw [q _ 19 _ (by decide) (by decide), q _ 18 _ (by decide) (by decide)]; done)
      | (rw [q _ 19 _ (by decide) (by decide)]; done)
      | (rw [q _ 4 _ (by decide) (by decide)]; done)
  unfold wrZ holdZ
  split
  · rw [q _ 8 _ (by decide) (by decide)]
  split
  · rw [ef]
    unfold drawZ
    rw [q _ 5 _ (by decide) (by decide), q _ 0 _ (by decide) (by decide)]
  split
  · rw [q _ 10 _ (by decide) (by decide)]
  split
  · rw [q _ 16 _ (by decide) (by decide), q _ 11 _ (by decide) (by decide)]
  split
  · rw [q _ 16 _ (by decide) (by decide), q _ 12 _ (by decide) (by decide), qs]
  split
  · rw [q _ 16 _ (by decide) (by decide), q _ 14 _ (by decide) (by decide)]
  split
  · rw [q _ 16 _ (by decide) (by decide), q _ 13 _ (by decide) (by decide), qs]
  · rfl
theorem rdV_in {Z : Nat → Nat → Int} (h : ∀ k, GZ k (Z k)) {bs : List Int} (hb : ∀ z, z ∈ bs → 0 ≤ z ∧ z < 256) (p : Int) : 0 ≤ rdV bs Z p ∧ rdV bs Z p < 256 := by
  have h16 := h 16
  have hs := good_set h
  unfold rdV
  split
  · unfold romB
    rw [List.getD_eq_getElem?_getD]
    cases e : bs[(pageOf ((bs.length / 8192 : Nat) : Int) (Z 7 0) (p / 8192) * 8192 + p % 8192).toNat]? with
    | none => exact ⟨by decide, by decide⟩
    | some z => exact hb z (List.mem_of_getElem? e)
  split
  · exact h 8 _
  split
  · have h3 := h 3
    have h19 := (h 19).2.2.2.2
    split
    · exact ⟨h3.1, by have := h3.2; omega⟩
    split
    · omega
    split
    · omega
    · exact ⟨by decide, by decide⟩
  split
  · have h10 := (h 10).2 (Z 10 1).toNat
    unfold vceR
    split
    · omega
    split
    · omega
    · exact ⟨by decide, by decide⟩
  split
  · exact h16
  split
  · have o := okT_true (hs 12)
    have := o.2.2.1
    have := h16.1
    have := h16.2
    omega
  split
  · have r0 := J23.preOf_in (isB (Z 14 0)) (isB (Z 14 2)) (Z 14 3) (fun n => Z 15 (2 * n)) (fun n => isB (Z 15 (2 * n + 1)))
    unfold padR J23.rdOf
    simp
    omega
  split
  · split
    · exact h16
    · have hr : 0 ≤ readOf (setZ Z 13 0) (setZ Z 13 1) (atW p) ∧ readOf (setZ Z 13 0) (setZ Z 13 1) (atW p) < 8 := by
        unfold readOf
        split
        · omega
        · split <;> omega
      have := h16.1
      have := h16.2
      omega
  · exact ⟨by decide, by decide⟩
def cyc (Z : Nat → Nat → Int) (n : Int) : Nat → Nat → Int := upZ Z 23 (oneV (wrap64 (Z 23 0 + n)))
def setR (Z : Nat → Nat → Int) (k : Nat) (x : Int) : Nat → Nat → Int := upZ Z 20 (up (Z 20) k x)
def phZ (Z : Nat → Nat → Int) (a : Int) : Int := physOf (Z 9) a
def slZ (Z : Nat → Nat → Int) (a : Int) : Int := slowK (kindW (phZ Z a))
def rV (bs : List Int) (Z : Nat → Nat → Int) (a : Int) : Int := rdV bs Z (phZ Z a)
def rS (Z : Nat → Nat → Int) (a : Int) : Nat → Nat → Int := rdZ (cyc Z (slZ Z a)) (phZ Z a)
def wS (Z : Nat → Nat → Int) (a y : Int) : Nat → Nat → Int := wrZ (cyc Z (slZ Z a)) (phZ Z a) (y % 256)
theorem cyc_at (Z : Nat → Nat → Int) (n : Int) (j : Nat) (h : j ≠ 23) : cyc Z n j = Z j := upZ_other _ _ _ _ h
theorem setR_20 (Z : Nat → Nat → Int) (k : Nat) (x : Int) : setR Z k x 20 = up (Z 20) k x := upZ_same _ _ _
theorem rS_keep (Z : Nat → Nat → Int) (a : Int) (j : Nat) (h : j = 7 ∨ j = 8 ∨ j = 9 ∨ j = 20 ∨ j = 21 ∨ j = 22) : rS Z a j = Z j := by
  unfold rS
  by_cases hj : 20 ≤ j
  · rw [rdZ_keep hj, cyc_at _ _ _ (by omega)]
  · rw [rdZ_low (by omega), cyc_at _ _ _ (by omega)]
theorem wS_keep (Z : Nat → Nat → Int) (a y : Int) (j : Nat) (h : j = 7 ∨ j = 9 ∨ j = 20 ∨ j = 21 ∨ j = 22) : wS Z a y j = Z j := by
  unfold wS
  by_cases hj : 20 ≤ j
  · rw [wrZ_keep hj, cyc_at _ _ _ (by omega)]
  · rw [wrZ_low (by omega), cyc_at _ _ _ (by omega)]
end Go.Proofs.YtoijhhbiknhlnaaGreatDoor.L25
namespace Go.Proofs.YtoijhhbiknhlnaaGreatDoor
set_option maxRecDepth 20000
open Go.RowKit
set_option linter.unusedVariables false
def cntD : List Nat → (Nat → Bool) → Nat
  | [], _ => 0
  | p :: ps, d => (if d p = true then 1 else 0) + cntD ps d
theorem cntD_none : ∀ (ps : List Nat) (d : Nat → Bool), (∀ i, d i = false) → cntD ps d = 0
  | [], _, _ => rfl
  | p :: ps, d, h => by
    unfold cntD
    rw [h p, cntD_none ps d h]
    rfl
theorem cntD_keep : ∀ (ps : List Nat) (d : Nat → Bool) (i : Nat), ps.contains i = false → cntD ps (updD d i) = cntD ps d
  | [], _, _, _ => rfl
  | p :: ps, d, i, h => by
    simp only [List.contains_cons, Bool.or_eq_false_iff, beq_eq_false_iff_ne] at h
    unfold cntD
    rw [updD_other d (fun e => h.1 e.symm), cntD_keep ps d i h.2]
theorem stage_keep {A : Nat → World → Prop} {ps : List Nat} {d : Nat → Bool} {i : Nat} {w : World} (h : ps.contains i = false) (hs : A (cntD ps d) w) : A (cntD ps (updD d i)) w := by
  rw [cntD_keep ps d i h]
  exact hs
theorem stage_none {A : Nat → World → Prop} {ps : List Nat} {d : Nat → Bool} {w : World} (h : ∀ i, d i = false) (hs : A 0 w) : A (cntD ps d) w := by
  rw [cntD_none ps d h]
  exact hs
theorem stage_at {A : Nat → World → Prop} {ps : List Nat} {d : Nat → Bool} {n : Nat} {w : World} (h : cntD ps d = n) (hs : A (cntD ps d) w) : A n w := h ▸ hs
theorem stage_of {A : Nat → World → Prop} {ps : List Nat} {d : Nat → Bool} {n : Nat} {w : World} (h : cntD ps d = n) (hs : A n w) : A (cntD ps d) w := h ▸ hs
def stgs (l : List (World → Prop)) (n : Nat) (w : World) : Prop := (l.getD n (fun _ => True)) w
def Stab (A : World → Prop) : Prop := ∀ x y, A x → Below x.heap.size x y → A y
theorem stgs_next {l : List (World → Prop)} (h : ∀ A, A ∈ l → Stab A) {n : Nat} {x y : World} (k : stgs l n x) (b : Below x.heap.size x y) : stgs l n y := by
  unfold stgs at k ⊢
  rw [List.getD_eq_getElem?_getD] at k ⊢
  cases e : l[n]? with
  | none => trivial
  | some A =>
    rw [e] at k
    exact h A (List.mem_of_getElem? e) x y k b
theorem cntD_le : ∀ (ps : List Nat) (d : Nat → Bool), cntD ps d ≤ ps.length
  | [], _ => Nat.le_refl _
  | p :: ps, d => by
    have := cntD_le ps d
    unfold cntD
    rw [List.length_cons]
    split <;> omega
theorem stgs_case2 {A B : World → Prop} {n : Nat} {x : World} {P : Prop} (h : stgs [A, B] n x) (hn : n ≤ 1) (a : A x → P) (b : B x → P) : P := by
  rcases n with _ | _ | n
  · exact a h
  · exact b h
  · omega
theorem stgs_case3 {A B C : World → Prop} {n : Nat} {x : World} {P : Prop} (h : stgs [A, B, C] n x) (hn : n ≤ 2) (a : A x → P) (b : B x → P) (c : C x → P) : P := by
  rcases n with _ | _ | _ | n
  · exact a h
  · exact b h
  · exact c h
  · omega
theorem stab1 {A : World → Prop} (h : Stab A) : ∀ C, C ∈ [A] → Stab C := fun C hC => by simp at hC; rw [hC]; exact h
theorem stab2 {A B : World → Prop} (h : Stab A) (k : Stab B) : ∀ C, C ∈ [A, B] → Stab C := fun C hC => by
  simp at hC
  rcases hC with rfl | rfl <;> assumption
theorem stab3 {A B C : World → Prop} (h : Stab A) (k : Stab B) (m : Stab C) : ∀ D, D ∈ [A, B, C] → Stab D := fun D hD => by
  simp at hD
  rcases hD with rfl | rfl | rfl <;> assumption
end Go.Proofs.YtoijhhbiknhlnaaGreatDoor
