/- Texts put together. -/
import Derived.Test.YtnoggfnidaifkaaGreatDoorConsoleNobodyJ20
import Derived.Test.YtnoggfnidaifkaaGreatDoorConsoleNobodyJ21
import Derived.Test.YtnoggfnidaifkaaGreatDoorConsoleNobodyJ22
import Derived.Test.YtnoggfnidaifkaaGreatDoorConsoleNobodyJ12
import Derived.Test.YtnoggfnidaifkaaGreatDoorConsoleNobodyJ10
import Derived.Test.YtnoggfnidaifkaaGreatDoorConsoleNobodyJ05
import Derived.Deep.CutRange
import Derived.Test.YtnoggfnidaifkaaGreatDoorConsoleNobodyJ09
import Derived.Test.YtnoggfnidaifkaaGreatDoorConsoleNobodyJ06
import Derived.Test.YtnoggfnidaifkaaGreatDoorConsoleNobodyJ01
namespace Go.Proofs.YtnoggfnidaifkaaGreatDoor.L24
set_option maxRecDepth 20000
open B4 C3 G6 I11 J23 M5 P22 R15 T10 V12 W13
open Go.RowKit
set_option linter.unusedVariables false
def vF (c a : Int) (f : Nat → Int) : Nat → Int := fun j => if j = 0 then c else if j = 1 then a else f (j - 2)
theorem vF_row (c a : Int) (f : Nat → Int) : rowF (iv (vF c a f)) 514 = V12.rowV c a f := by
  apply Array.ext_getElem?
  intro j
  by_cases h : j < 514
  · rw [rowF_at _ _ _ h]
    unfold iv vF
    rcases j with _ | _ | j
    · exact (V12.rowV_0 c a f).symm
    · exact (V12.rowV_1 c a f).symm
    · rw [if_neg (by omega), if_neg (by omega), show j + 1 + 1 = 2 + j by omega, V12.rowV_at c a f j (by omega), show 2 + j - 2 = j by omega]
  · rw [rowF_none _ _ _ h, Array.getElem?_eq_none (by rw [V12.rowV_size]; omega)]
def pv (s c d : Bool) (i : Int) : Nat → Value := fun j => if j = 0 then .bool s else if j = 1 then .bool c else if j = 2 then .bool d else .int .i64 i
theorem rd_hold {w : World} {b v c d : Nat} {L : List (Nat × (Nat → Value))} {bs : List Int} {f : Nat → Int} {wr rd st lo bu : Int} (h : HasX w b v c d L bs f wr rd st lo bu) (p g a : Int) (hk : kindW p = 4) (hg : pageW p = g) (ha : atW p = a) {x : Int} (h16 : L[16]? = some (1, fun _ => Value.int .i64 x)) : Calls Tryz.prog 58 #[.pointer (some ⟨b, 0, none⟩), .int .i64 p] w fun e w' => e = Ending.returned (.int .i64 x) ∧ HasX w' b v c d L bs f wr rd st lo bu ∧ OnlyE (EX b v) w w' := by
  refine read_psg h p g a (where_at p 4 g a hk hg ha) (R := fun w' => HasX w' b v c d L bs f wr rd st lo bu ∧ OnlyE (EX b v) w w') fun w1 b1 => ?_
  exact (readHold_is (h.next b1) 4 g a h16).mono fun e w' ⟨e1, x2, o2⟩ => ⟨e1, x2, (ex_below b1).trans o2⟩
end Go.Proofs.YtnoggfnidaifkaaGreatDoor.L24
namespace Go.Proofs.YtnoggfnidaifkaaGreatDoor.L24
set_option maxRecDepth 20000
open B4 C3 G6 I11 J23 M5 P22 R15 T10 V12 W13
open Go.RowKit
set_option linter.unusedVariables false
def gF (s : Int) (R : Nat → Int) : Nat → Int := fun j => if j = 0 then s else R (j - 1)
theorem gF_row (s : Int) (R : Nat → Int) : rowF (iv (gF s R)) 21 = R15.rowG s R := by
  apply Array.ext_getElem?
  intro j
  by_cases h : j < 21
  · rw [rowF_at _ _ _ h]
    unfold iv gF
    rcases j with _ | j
    · exact (R15.rowG_0 s R).symm
    · rw [if_neg (by omega), show j + 1 = 1 + j by omega, R15.rowG_at s R j (by omega), show 1 + j - 1 = j by omega]
  · rw [rowF_none _ _ _ h, Array.getElem?_eq_none (by rw [R15.rowG_size]; omega)]
theorem rd_low {w : World} {b v c d : Nat} {L : List (Nat × (Nat → Value))} {bs : List Int} {f : Nat → Int} {wr rd st lo bu : Int} (h : HasX w b v c d L bs f wr rd st lo bu) (p g : Int) (hk : kindW p = 2) (hg : pageW p = g) (ha : atW p = 2) {x : Int} (hx : bu % 256 = x) : Calls Tryz.prog 58 #[.pointer (some ⟨b, 0, none⟩), .int .i64 p] w fun e w' => e = Ending.returned (.int .i64 x) ∧ HasX w' b v c d L bs f wr rd st lo bu ∧ OnlyE (EX b v) w w' := by
  refine read_vdc h p g 2 (where_at p 2 g 2 hk hg ha) (R := fun w' => HasX w' b v c d L bs f wr rd st lo bu ∧ OnlyE (EX b v) w w') fun w1 b1 => ?_
  exact (readVdc_2 (h.next b1) 2 g 2 rfl hx).mono fun e w' ⟨e1, x2, o2⟩ => ⟨e1, x2, (ex_below b1).trans o2⟩
theorem rd_high {w : World} {b v c d : Nat} {L : List (Nat × (Nat → Value))} {bs : List Int} {f : Nat → Int} {wr rd st lo bu : Int} (h : HasX w b v c d L bs f wr rd st lo bu) (p g : Int) (hk : kindW p = 2) (hg : pageW p = g) (ha : atW p = 3) {x y z : Int} (r0 : 0 ≤ rd) (r1 : rd < 65536) (s0 : 0 ≤ st) (s1 : st < 65536) (hx : bu / 256 % 256 = x) (hy : (rd + st) % 65536 = y) (hz : wordAt f y = z) : Calls Tryz.prog 58 #[.pointer (some ⟨b, 0, none⟩), .int .i64 p] w fun e w' => e = Ending.returned (.int .i64 x) ∧ HasX w' b v c d L bs f wr y st lo z ∧ OnlyE (EX b v) w w' := by
  refine read_vdc h p g 3 (where_at p 2 g 3 hk hg ha) (R := fun w' => HasX w' b v c d L bs f wr y st lo z ∧ OnlyE (EX b v) w w') fun w1 b1 => ?_
  exact (readVdc_3 (h.next b1) 2 g 3 rfl r0 r1 s0 s1 hx hy hz).mono fun e w' ⟨e1, x2, o2⟩ => ⟨e1, x2, (ex_below b1).trans o2⟩
end Go.Proofs.YtnoggfnidaifkaaGreatDoor.L24
namespace Go.Proofs.YtnoggfnidaifkaaGreatDoor.B4
set_option maxRecDepth 20000
open C3
open Go.RowKit
set_option linter.unusedVariables false
theorem page_in {n : Int} (hn : known n = true) (l : Int) (p : Nat) (hp : p < 128) : 0 ≤ pageOf n l p ∧ pageOf n l p < n := by
  have hk := kind_cases hn
  have h0 := known_le hn
  unfold pageOf
  rw [if_pos ⟨hn, by omega⟩]
  generalize kindOf n = k at *
  have lo : 0 < lowSize k n ∧ lowSize k n ≤ n := by unfold lowSize; split; omega; split <;> omega
  have up : 0 < upSize k n ∧ 0 ≤ upFirst k n l ∧ upFirst k n l + upSize k n ≤ n := by
    unfold upSize upFirst; split; omega; split <;> omega
  generalize lowSize k n = s at *
  generalize upSize k n = t at *
  generalize upFirst k n l = f at *
  have m0 := Int.emod_nonneg (p : Int) (show s ≠ 0 by omega)
  have m1 := Int.emod_lt_of_pos (p : Int) lo.1
  have m2 := Int.emod_nonneg (p : Int) (show t ≠ 0 by omega)
  have m3 := Int.emod_lt_of_pos (p : Int) up.1
  split
  · omega
  · rw [if_pos (by omega)]; omega
end Go.Proofs.YtnoggfnidaifkaaGreatDoor.B4
namespace Go.Proofs.YtnoggfnidaifkaaGreatDoor.W13
set_option maxRecDepth 20000
open Go.RowKit
set_option linter.unusedVariables false
theorem under_name {P : Program} {c : Code} {Q : Exit → Act → World → Prop} {a : Act} {w : World} (h : ∀ wa, wa = w → Code.wp P c Q a wa) : Code.wp P c Q a w := h w rfl
theorem two_named {w wa : World} {o0 o1 : Obj} (h : wa = (w.alloc o0).alloc o1) :
    wa.heap[w.heap.size]? = some o0 ∧ wa.heap[w.heap.size + 1]? = some o1 ∧ w.heap.size + 1 < wa.heap.size ∧ Below w.heap.size w wa := by
  have e : wa.heap = (w.heap.push o0).push o1 := by rw [h]; rfl
  refine ⟨?_, ?_, ?_, ?_⟩
  · rw [e, Array.getElem?_push, if_neg (by simp), Array.getElem?_push, if_pos rfl]
  · rw [e, Array.getElem?_push, if_pos (by simp)]
  · rw [e]; simp
  · rw [h]
    exact ((Below.refl _ w).alloc (Nat.le_refl _) _).alloc (by simp) _
end Go.Proofs.YtnoggfnidaifkaaGreatDoor.W13
namespace Go.Proofs.YtnoggfnidaifkaaGreatDoor.L24
set_option maxRecDepth 20000
open B4 C3 G6 I11 J23 M5 P22 R15 T10 V12 W13
open Go.RowKit
set_option linter.unusedVariables false
def upZ (Z : Nat → Nat → Int) (k : Nat) (g : Nat → Int) : Nat → Nat → Int := fun i => if i = k then g else Z i
theorem upZ_same (Z : Nat → Nat → Int) (k : Nat) (g : Nat → Int) : upZ Z k g k = g := by simp [upZ]
theorem upZ_other (Z : Nat → Nat → Int) (k i : Nat) (g : Nat → Int) (h : i ≠ k) : upZ Z k g i = Z i := by simp [upZ, h]
theorem upZ_id (Z : Nat → Nat → Int) (k : Nat) : upZ Z k (Z k) = Z := funext fun i => by
  unfold upZ
  split
  · rename_i h; rw [h]
  · rfl
def oneV (x : Int) : Nat → Int := fun _ => x
def twoV (x y : Int) : Nat → Int := fun j => if j = 0 then x else y
def isB (x : Int) : Bool := x == 1
def b2i (b : Bool) : Int := if b then 1 else 0
def tvZ (g : Nat → Int) : Nat → Value := tv (g 0) (g 1) (isB (g 2)) (g 3)
def pvZ (g : Nat → Int) : Nat → Value := pv (isB (g 0)) (isB (g 1)) (isB (g 2)) (g 3)
def pcZ (g : Nat → Int) : Nat → Value := J23.pc (fun n => g (2 * n)) (fun n => isB (g (2 * n + 1)))
def XP (v c : Nat) (Z : Nat → Nat → Int) : List (Nat × (Nat → Value)) :=
  [(21, iv (Z 0)), (1, fun _ => .pointer (some ⟨v, 0, none⟩)), (256, iv (Z 2)), (1, fun _ => Value.int .i64 (Z 3 0)), (1, fun _ => .bool (isB (Z 4 0))), (1, fun _ => .bool (isB (Z 5 0))), (1, fun _ => .pointer (some ⟨c, 0, none⟩)), (1, fun _ => Value.int .i64 (Z 7 0)), (8192, bv (Z 8)), (8, iv (Z 9)), (514, iv (Z 10)), (244, iv (Z 11)), (4, tvZ (Z 12)), (2, sv (Z 13 0) (Z 13 1)), (4, pvZ (Z 14)), (10, pcZ (Z 15)), (1, fun _ => Value.int .i64 (Z 16 0)), (1, fun _ => Value.int .i64 (Z 17 0))]
def advG (g : Nat → Int) (t : Int) : Nat → Int := fun j => if j = 1 then cT (g 0) (g 1) (isB (g 2)) (g 3) t else if j = 3 then pT (g 0) (g 1) (isB (g 2)) (g 3) t else g j
def rndG (g : Nat → Int) (t : Int) : Int := kT (g 0) (g 1) (isB (g 2)) (g 3) t
def setZ (Z : Nat → Nat → Int) : Nat → Nat → Int := upZ (upZ (upZ Z 12 (advG (Z 12) (Z 17 0))) 13 (twoV (mT (Z 13 0) (rndG (Z 12) (Z 17 0))) (lT (Z 13 1) (rndG (Z 12) (Z 17 0))))) 17 (oneV 0)
def GoodZ (Z : Nat → Nat → Int) : Prop :=
  (0 ≤ Z 0 0 ∧ Z 0 0 < 32) ∧ (∀ i, i < 20 → 0 ≤ Z 0 (i + 1) ∧ Z 0 (i + 1) < 65536) ∧ (0 ≤ Z 3 0 ∧ Z 3 0 < 128) ∧ (∀ j, 0 ≤ Z 8 j ∧ Z 8 j < 256) ∧ (0 ≤ Z 10 1 ∧ Z 10 1 < 512) ∧ (∀ j, 0 ≤ Z 10 (j + 2) ∧ Z 10 (j + 2) < 512) ∧ P22.okP (Z 11) ∧ okT (Z 12 0) (Z 12 1) (isB (Z 12 2)) (Z 12 3) = true ∧ ((0 ≤ Z 13 0 ∧ Z 13 0 < 8) ∧ 0 ≤ Z 13 1 ∧ Z 13 1 < 8) ∧ (0 ≤ Z 16 0 ∧ Z 16 0 < 256) ∧ (0 ≤ Z 17 0 ∧ Z 17 0 ≤ 8388608) ∧
  (∀ j, 0 ≤ Z 18 j ∧ Z 18 j < 65536) ∧ (0 ≤ Z 19 0 ∧ Z 19 0 < 65536) ∧ (0 ≤ Z 19 1 ∧ Z 19 1 < 65536) ∧ (1 ≤ Z 19 2 ∧ Z 19 2 < 65536) ∧ (0 ≤ Z 19 3 ∧ Z 19 3 < 256) ∧ (0 ≤ Z 19 4 ∧ Z 19 4 < 65536) ∧ Z 13 = twoV (Z 13 0) (Z 13 1) ∧ Z 17 = oneV (Z 17 0)
def HasP (w : World) (b v c d : Nat) (bs : List Int) (Z : Nat → Nat → Int) : Prop := HasX w b v c d (XP v c Z) bs (Z 18) (Z 19 0) (Z 19 1) (Z 19 2) (Z 19 3) (Z 19 4)
theorem HasP.next {w w' : World} {b v c d : Nat} {bs : List Int} {Z : Nat → Nat → Int} (h : HasP w b v c d bs Z) (k : Below w.heap.size w w') : HasP w' b v c d bs Z := HasX.next h k
theorem HasP.only {E : Nat → Prop} {w w' : World} {b v c d : Nat} {bs : List Int} {Z : Nat → Nat → Int} (h : HasP w b v c d bs Z) (k : OnlyE E w w') (hb : ¬ E b) (hv : ¬ E v) (hc : ¬ E c) (hd : ¬ E d) (hE : ∀ i, E i → High i) : HasP w' b v c d bs Z := by
  obtain ⟨q1, q2, q3, q4, q5⟩ := h
  exact ⟨k.obj q1 hb, k.obj q2 hv, q3.only k hc hd, q4.only k hE, q5⟩
theorem vF_eta (g : Nat → Int) : vF (g 0) (g 1) (fun j => g (j + 2)) = g := funext fun j => by
  unfold vF
  rcases j with _ | _ | j
  · rfl
  · rfl
  · rw [if_neg (by omega), if_neg (by omega)]
    rfl
theorem gF_eta (g : Nat → Int) : gF (g 0) (fun j => g (j + 1)) = g := funext fun j => by
  unfold gF
  rcases j with _ | j
  · rfl
  · rw [if_neg (by omega)]
    rfl
theorem setZ_up (Z : Nat → Nat → Int) (k : Nat) (g : Nat → Int) (h : k ≠ 12 ∧ k ≠ 13 ∧ k ≠ 17) : setZ (upZ Z k g) = upZ (setZ Z) k g := by
  have h12 : upZ Z k g 12 = Z 12 := upZ_other _ _ _ _ (fun e => h.1 e.symm)
  have h13 : upZ Z k g 13 = Z 13 := upZ_other _ _ _ _ (fun e => h.2.1 e.symm)
  have h17 : upZ Z k g 17 = Z 17 := upZ_other _ _ _ _ (fun e => h.2.2 e.symm)
  unfold setZ
  rw [h12, h13, h17]
  funext i
  unfold upZ
  by_cases e1 : i = 17
  · subst e1
    rw [if_pos rfl, if_neg (fun e => h.2.2 e.symm), if_pos rfl]
  · rw [if_neg e1]
    by_cases e2 : i = 13
    · subst e2
      rw [if_pos rfl, if_neg (fun e => h.2.1 e.symm), if_neg e1, if_pos rfl]
    · rw [if_neg e2]
      by_cases e3 : i = 12
      · subst e3
        rw [if_pos rfl, if_neg (fun e => h.1 e.symm), if_neg e1, if_neg e2, if_pos rfl]
      · rw [if_neg e3]
        by_cases e4 : i = k
        · rw [if_pos e4, if_pos e4]
        · rw [if_neg e4, if_neg e4, if_neg e1, if_neg e2, if_neg e3]
def romB (bs : List Int) (Z : Nat → Nat → Int) (p : Int) : Int := bs.getD (pageOf ((bs.length / 8192 : Nat) : Int) (Z 7 0) (p / 8192) * 8192 + p % 8192).toNat 0
def holdZ (Z : Nat → Nat → Int) (x : Int) : Nat → Nat → Int := upZ Z 16 (oneV x)
def lookZ (Z : Nat → Nat → Int) : Nat → Nat → Int := upZ (upZ Z 3 (oneV 0)) 13 (twoV (Z 13 0 % 8) (bic3 (Z 13 1) 2))
def portV (a b c d e : Int) : Nat → Int := fun j => if j = 0 then a else if j = 1 then b else if j = 2 then c else if j = 3 then d else e
def nextZ (Z : Nat → Nat → Int) : Nat → Nat → Int := upZ Z 19 (portV (Z 19 0) ((Z 19 1 + Z 19 2) % 65536) (Z 19 2) (Z 19 3) (wordAt (Z 18) ((Z 19 1 + Z 19 2) % 65536)))
def vceR (g : Nat → Int) (a : Int) : Int := if a = 4 then g ((g 1).toNat + 2) % 256 else if a = 5 then 254 + g ((g 1).toNat + 2) / 256 else 255
def vceN (g : Nat → Int) (a : Int) : Nat → Int := if a = 5 then vF (g 0) ((g 1 + 1) % 512) (fun j => g (j + 2)) else g
end Go.Proofs.YtnoggfnidaifkaaGreatDoor.L24
