/- An interrupt that may be taken is taken ahead of the next instruction, and comes back to it, with the flags as they were; one that may not be is not: the walk. -/
import Derived.Test.YtoijhhbiknhlnaaGreatDoorCpuTakesJ50
import Derived.Test.YtoijhhbiknhlnaaGreatDoorCpuTakesJ30
namespace Go.Proofs.YtoijhhbiknhlnaaGreatDoor
set_option maxRecDepth 20000
open A2 B4 C3 D24 G6 I11 J23 K9 L24 L25 M5 N8 O7 P22 R15 T10 V12 W13
open Go.RowKit
set_option linter.unusedVariables false
theorem ph_top {Y : Nat → Nat → Int} {M R : Nat → Int} {f l c : Int} (h9 : Y 9 7 = 248) {a : Int} {k : Nat} (ha : a = 57344 + (k : Int)) (hk : k < 8192) : phZ (cz Y M R f l c) a = 2031616 + (k : Int) := by
  subst ha
  unfold phZ physOf
  rw [cz_9, show ((57344 + (k : Int)) % 65536 / 8192).toNat = 7 by omega, h9]
  omega
theorem top_rV {Y : Nat → Nat → Int} {M R : Nat → Int} {f l c : Int} (bs : List Int) (h9 : Y 9 7 = 248) {a : Int} {k : Nat} (ha : a = 57344 + (k : Int)) (hk : k < 8192) : rV bs (cz Y M R f l c) a = M k := by
  unfold rV
  rw [ph_top h9 ha hk]
  unfold rdV
  rw [kw_ram hk, if_neg (by decide), if_pos rfl, cz_8, show ((2031616 + (k : Int)) % 8192).toNat = k by omega]
theorem top_rS {Y : Nat → Nat → Int} {M R : Nat → Int} {f l c : Int} (h9 : Y 9 7 = 248) {a : Int} {k : Nat} (ha : a = 57344 + (k : Int)) (hk : k < 8192) (hc : 0 ≤ c ∧ c < 1000000) : rS (cz Y M R f l c) a = cz Y M R f l c := by
  unfold rS slZ
  rw [ph_top h9 ha hk, kw_ram hk, show slowK 1 = 0 from rfl, cz_cyc, w64_small hc]
  unfold rdZ
  rw [kw_ram hk, if_neg (by decide), if_neg (by decide), if_neg (by decide), if_neg (by decide), if_neg (by decide)]
theorem ps9 {Y : Nat → Nat → Int} {M : Nat → Int} {a x y p pc f l c : Int} {k : Nat} (h9 : Y 9 1 = 248) (hk : k < 256) (hc : 0 ≤ c ∧ c < 1000000) (v : Int) : psS (cz Y M (rg a x y (k : Int) p pc) f l c) v = cz Y (up M (256 + k) (v % 256)) (rg a x y (dn k : Int) p pc) f l c := by
  unfold psS
  rw [cz_20, show rg a x y (k : Int) p pc 3 = (k : Int) from rfl, cz_wS h9 (k := 256 + k) (by omega) (by omega) hc, cz_setR, rg_up3, dn_is]
theorem pl9V {Y : Nat → Nat → Int} {M : Nat → Int} {a x y p pc f l c : Int} {k : Nat} (bs : List Int) (h9 : Y 9 1 = 248) (hk : k < 256) : plV bs (cz Y M (rg a x y (k : Int) p pc) f l c) = M (256 + un k) := by
  have u := un_in k
  unfold plV plZ
  rw [cz_20, show rg a x y (k : Int) p pc 3 = (k : Int) from rfl, un_is, cz_setR]
  exact cz_rV bs h9 (by omega) (by omega)
theorem pl9S {Y : Nat → Nat → Int} {M : Nat → Int} {a x y p pc f l c : Int} {k : Nat} (h9 : Y 9 1 = 248) (hk : k < 256) (hc : 0 ≤ c ∧ c < 1000000) : plS (cz Y M (rg a x y (k : Int) p pc) f l c) = cz Y M (rg a x y (un k : Int) p pc) f l c := by
  have u := un_in k
  unfold plS plZ
  rw [cz_20, show rg a x y (k : Int) p pc 3 = (k : Int) from rfl, un_is, cz_setR, rg_up3]
  exact cz_rS h9 (k := 256 + un k) (by omega) (by omega) hc
def tY (m l : Int) : Nat → Nat → Int := upZ (upZ Yp 9 (up (Yp 9) 7 248)) 13 (twoV m l)
theorem tY_91 (m l : Int) : tY m l 9 1 = 248 := rfl
theorem tY_97 (m l : Int) : tY m l 9 7 = 248 := rfl
theorem tY_set (m l : Int) : setZ (tY m l) = tY m l := setZ_flat _ rfl rfl
def OkP (p : Int) : Prop := IsByte p ∧ p / 16 % 4 = 0
theorem okp {p : Int} (h : OkP p) : anP p 16 = p ∧ (entP p = bits .or .i64 (bits .andNot .i64 p 40) 4) ∧ IsByte (entP p) ∧ 4 ≤ entP p % 8 ∧ anP p 32 = bits .andNot .i64 p 32 := by
  obtain ⟨hb, h4⟩ := h
  have k := fin_of (P := fun p => p / 16 % 4 = 0 → anP p 16 = p ∧ (0 ≤ entP p ∧ entP p < 256) ∧ 4 ≤ entP p % 8) (by unfold anP entP; decide +kernel) hb h4
  exact ⟨k.1, rfl, ⟨k.2.1.1, by have := k.2.1.2; omega⟩, k.2.2, rfl⟩
theorem take_no {bs : List Int} {m l p : Int} {M : Nat → Int} {q : Nat} (hp : IsByte p) (hk : ∃ px, ∀ w, HasVec w → Calls Tryz.prog 20 #[.agg (rowF (sv (tY m l 13 0) (tY m l 13 1)) 2), .int .i64 p] w fun e w' => e = Ending.returned (.tuple #[.int .i64 px, .bool false]) ∧ Below w.heap.size w w') (hq : q + 7 ≤ 8192) (hN : M q = ((234 : Nat) : Int)) : GoesY bs (tY m l) M 0 0 0 255 p q false 0 (tY m l) M 0 0 0 255 (anP p 32) (q + 1) false 0 2 := by
  refine goesY_of ⟨tY_91 m l, tY_set m l, hk⟩ zB zB zB mB hp hq hN (by decide) (by kernel_rfl) (by rw [show nameOf 234 = ⟨#[78, 79, 80]⟩ by kernel_rfl]; exact do_NOP) ?_
  rw [show lenOf 234 = 1 by kernel_rfl, show cycOf 234 = 2 by kernel_rfl, pc1]
theorem cz_cyc8 {Y : Nat → Nat → Int} {M R : Nat → Int} {f l c : Int} (x : Int) : upZ (cz Y M R f l c) 23 (oneV x) = cz Y M R f l x := by
  unfold cz
  rw [upZ_upZ]
theorem take_yes {bs : List Int} {m l p : Int} {M : Nat → Int} {k : Nat} (hk3 : k < 3) (hp : OkP p) (hP : ∀ w, HasVec w → Calls Tryz.prog 20 #[.agg (rowF (sv (tY m l 13 0) (tY m l 13 1)) 2), .int .i64 p] w fun e w' => e = Ending.returned (.tuple #[.int .i64 (65526 + 2 * (k : Int)), .bool true]) ∧ Below w.heap.size w w') (hM : (M 1024 = ((234 : Nat) : Int)) ∧ (M (8182 + 2 * k) = 64 + (k : Int) ∧ M (8183 + 2 * k) = 37) ∧ M (1344 + k) = ((64 : Nat) : Int)) : GoesY bs (tY m l) M 0 0 0 255 p 1024 false 0 (tY m l) (up (up (up M 511 36) 510 0) 509 p) 0 0 0 252 (entP p) (1344 + k) false 0 8 := by
  intro w b v c d ⟨R0, f0, l0, c0, h⟩
  obtain ⟨o1, o2, o3, o4, o5⟩ := okp hp
  have pB := hp.1
  have e4 : p % 256 = p := by have := pB.1; have := pB.2; omega
  have kk := step_irq h (rg 0 0 0 255 p (8192 + ((1024 : Nat) : Int))) false 0 (65526 + 2 * (k : Int)) (by
    rw [cz_set, tY_set, show ∀ j, cz (tY m l) M R0 f0 l0 c0 13 j = tY m l 13 j from fun j => rfl, show rg 0 0 0 255 p (8192 + ((1024 : Nat) : Int)) 4 % 256 = p from e4]
    exact hP)
  have ez : irZ bs (cz (tY m l) M R0 f0 l0 c0) (rg 0 0 0 255 p (8192 + ((1024 : Nat) : Int))) false 0 (65526 + 2 * (k : Int)) = cz (tY m l) (up (up (up M 511 36) 510 0) 509 p) (rg 0 0 0 252 (entP p) (8192 + ((1344 + k : Nat) : Int))) (b2i false) 0 8 := by
    unfold irZ
    rw [inZ_cz (tY_set m l), rg_cut zB zB zB mB pB (by decide), cz_cyc8, show rg 0 0 0 255 p (8192 + ((1024 : Nat) : Int)) 5 % 65536 = 9216 from rfl, show rg 0 0 0 255 p (8192 + ((1024 : Nat) : Int)) 4 % 256 = p from e4, o1]
    have en : enZ (cz (tY m l) M (rg 0 0 0 255 p (8192 + ((1024 : Nat) : Int))) (b2i false) 0 8) 9216 p = cz (tY m l) (up (up (up M 511 36) 510 0) 509 p) (rg 0 0 0 252 (entP p) (8192 + ((1024 : Nat) : Int))) (b2i false) 0 8 := by
      unfold enZ pwS
      rw [show (255 : Int) = ((255 : Nat) : Int) from rfl, ps9 (tY_91 m l) (by decide) (by decide), show dn 255 = 254 from rfl, ps9 (tY_91 m l) (by decide) (by decide), show dn 254 = 253 from rfl, ps9 (tY_91 m l) (by decide) (by decide), show dn 253 = 252 from rfl, cz_20, cz_setR, rg_up4, e4]
      rfl
    unfold enS
    rw [en]
    have w1 : wOf (65526 + 2 * (k : Int)) 1 = 57344 + ((8183 + 2 * k : Nat) : Int) := by unfold wOf; omega
    have w0 : (65526 + 2 * (k : Int)) = 57344 + ((8182 + 2 * k : Nat) : Int) := by omega
    unfold pS pV
    rw [w1, w0, top_rS (tY_97 m l) rfl (by omega) (by decide), top_rS (tY_97 m l) rfl (by omega) (by decide), top_rV bs (tY_97 m l) rfl (by omega), top_rV bs (tY_97 m l) rfl (by omega), cz_setR, rg_up5]
    have f1 : (up (up (up M 511 36) 510 0) 509 p) (8182 + 2 * k) = 64 + (k : Int) := by
      rw [← hM.2.1.1]
      simp [up, show ¬ (8182 + 2 * k = 509) by omega, show ¬ (8182 + 2 * k = 510) by omega, show ¬ (8182 + 2 * k = 511) by omega]
    have f2 : (up (up (up M 511 36) 510 0) 509 p) (8183 + 2 * k) = 37 := by
      rw [← hM.2.1.2]
      simp [up, show ¬ (8183 + 2 * k = 509) by omega, show ¬ (8183 + 2 * k = 510) by omega, show ¬ (8183 + 2 * k = 511) by omega]
    rw [f1, f2, show jn (64 + (k : Int)) 37 = 8192 + ((1344 + k : Nat) : Int) by unfold jn; omega]
  rw [ez, core8_cz] at kk
  exact kk.mono fun e w' ⟨r, mm, o⟩ => ⟨r, ⟨_, _, _, _, mm⟩, o⟩
theorem take_back {bs : List Int} {m l p : Int} {M : Nat → Int} {k : Nat} (hk3 : k < 3) (hp : OkP p) (hM : (M 1024 = ((234 : Nat) : Int)) ∧ (M (8182 + 2 * k) = 64 + (k : Int) ∧ M (8183 + 2 * k) = 37) ∧ M (1344 + k) = ((64 : Nat) : Int)) : GoesY bs (tY m l) (up (up (up M 511 36) 510 0) 509 p) 0 0 0 252 (entP p) (1344 + k) false 0 (tY m l) (up (up (up M 511 36) 510 0) 509 p) 0 0 0 255 p 1024 false 0 7 := by
  obtain ⟨o1, o2, o3, o4, o5⟩ := okp hp
  have pB := hp.1
  have e4 : p % 256 = p := by have := pB.1; have := pB.2; omega
  have f3 : (up (up (up M 511 36) 510 0) 509 p) (1344 + k) = ((64 : Nat) : Int) := by
    rw [← hM.2.2]
    simp [up, show ¬ (1344 + k = 509) by omega, show ¬ (1344 + k = 510) by omega, show ¬ (1344 + k = 511) by omega]
  refine goesY_of ⟨tY_91 m l, tY_set m l, 0, fun w hw => pick_held _ _ _ o4 w⟩ zB zB zB ⟨by decide, by decide⟩ o3 (by omega) f3 (by decide) (by kernel_rfl) (by rw [show nameOf 64 = ⟨#[82, 84, 73]⟩ by kernel_rfl]; exact do_RTI) ?_
  rw [show lenOf 64 = 1 by kernel_rfl, show cycOf 64 = 7 by kernel_rfl]
  have r0 : (up (up (up M 511 36) 510 0) 509 p) 509 = p := by simp [up]
  have r1 : (up (up (up M 511 36) 510 0) 509 p) 510 = 0 := by simp [up]
  have r2 : (up (up (up M 511 36) 510 0) 509 p) 511 = 36 := by simp [up]
  have ri : riZ bs (cz (tY m l) (up (up (up M 511 36) 510 0) 509 p) (rg 0 0 0 252 (anP (entP p) 32) (8192 + ((1344 + k : Nat) : Int) + 1)) (b2i false) 0 7) = cz (tY m l) (up (up (up M 511 36) 510 0) 509 p) (rg 0 0 0 253 p (8192 + ((1344 + k : Nat) : Int) + 1)) (b2i false) 0 7 := by
    unfold riZ
    rw [show (252 : Int) = ((252 : Nat) : Int) from rfl, pl9V bs (tY_91 m l) (by decide), pl9S (tY_91 m l) (by decide) (by decide), show un 252 = 253 from rfl, show 256 + 253 = 509 from rfl, r0, cz_setR, rg_up4]
    rfl
  unfold riS plW
  rw [ri, show (253 : Int) = ((253 : Nat) : Int) from rfl, pl9V bs (tY_91 m l) (by decide), pl9S (tY_91 m l) (by decide) (by decide), show un 253 = 254 from rfl, pl9V bs (tY_91 m l) (by decide), pl9S (tY_91 m l) (by decide) (by decide), show un 254 = 255 from rfl, show 256 + 254 = 510 from rfl, show 256 + 255 = 511 from rfl, r1, r2, cz_setR, rg_up5]
  rfl
def tkM (M0 : Nat → Int) (t : Nat) : Nat → Int := fun j => if 8182 ≤ j ∧ j < 8182 + 2 * t then (if j % 2 = 0 then 64 + (((j - 8182) / 2 : Nat) : Int) else 37) else if 1344 ≤ j ∧ j < 1344 + t then 64 else M0 j
theorem tkM_0 (M0 : Nat → Int) : tkM M0 0 = M0 := funext fun j => by unfold tkM; rw [if_neg (by omega), if_neg (by omega)]
theorem tkM_next (M0 : Nat → Int) (t : Nat) (ht : t < 5) : up (up (up (tkM M0 t) (8182 + 2 * t) (64 + (t : Int))) (8183 + 2 * t) 37) (1344 + t) 64 = tkM M0 (t + 1) := funext fun j => by
  unfold up tkM
  by_cases e1 : j = 1344 + t
  · rw [if_pos e1, if_neg (by omega), if_pos (by omega)]
  rw [if_neg e1]
  by_cases e2 : j = 8183 + 2 * t
  · rw [if_pos e2, if_pos (by omega), if_neg (by omega)]
  rw [if_neg e2]
  by_cases e3 : j = 8182 + 2 * t
  · rw [if_pos e3, if_pos (by omega), if_pos (by omega), show (j - 8182) / 2 = t by omega]
  rw [if_neg e3]
  by_cases e4 : 8182 ≤ j ∧ j < 8182 + 2 * t
  · rw [if_pos e4, if_pos (show 8182 ≤ j ∧ j < 8182 + 2 * (t + 1) by omega)]
  rw [if_neg e4, if_neg (show ¬ (8182 ≤ j ∧ j < 8182 + 2 * (t + 1)) by omega)]
  by_cases e5 : 1344 ≤ j ∧ j < 1344 + t
  · rw [if_pos e5, if_pos (by omega)]
  · rw [if_neg e5, if_neg (by omega)]
theorem tkM_mem (M0 : Nat → Int) (k : Nat) (hk : k < 3) (h0 : M0 1024 = ((234 : Nat) : Int)) : (tkM M0 5 1024 = ((234 : Nat) : Int)) ∧ (tkM M0 5 (8182 + 2 * k) = 64 + (k : Int) ∧ tkM M0 5 (8183 + 2 * k) = 37) ∧ tkM M0 5 (1344 + k) = ((64 : Nat) : Int) := by
  unfold tkM
  refine ⟨by rw [if_neg (by omega), if_neg (by omega)]; exact h0, ⟨by rw [if_pos (by omega), if_pos (by omega), show (8182 + 2 * k - 8182) / 2 = k by omega], by rw [if_pos (by omega), if_neg (by omega)]⟩, by rw [if_neg (by omega), if_pos (by omega)]; rfl⟩
theorem sy_irq {W w : World} {b v c d g : Nat} {bs : List Int} {Y : Nat → Nat → Int} {M : Nat → Int} {row : Array Value} (h : SY W w b v c d g bs Y M row) (i : Nat) (hi : i < 2) {x m l : Int} (hm : 0 ≤ m ∧ m < 8) (hl : 0 ≤ l ∧ l < 8) (e : (i = 0 ∧ m = x ∧ l = Y 13 1) ∨ (i = 1 ∧ m = Y 13 0 ∧ l = x)) : SY W (w.setCell ⟨b, 9245 + i, none⟩ (.int .i64 x)) b v c d g bs (upZ Y 13 (twoV m l)) M row ∧ w.cell? ⟨b, 9245 + i, none⟩ = some (sv (Y 13 0) (Y 13 1) i) := by
  obtain ⟨R0, f0, l0, c0, mm⟩ := h.1
  have kb := (But.refl b w).set (9245 + i) (.int .i64 x)
  have q1 := mm.1.1.put 13 rfl i hi (a := 9245 + i) (by rw [HasX.isB mm.1 |>.off 13 (a := 9245) rfl]) (.int .i64 x)
  have e13 : ∀ j, j < 2 → updC (sv (Y 13 0) (Y 13 1)) i (.int .i64 x) j = sv m l j := fun j hj => by
    rcases e with ⟨rfl, rfl, rfl⟩ | ⟨rfl, rfl, rfl⟩
    · rcases j with _ | _ | j
      · rfl
      · rfl
      · omega
    · rcases j with _ | _ | j
      · rfl
      · rfl
      · omega
  have q2 := q1.ext (d := segs ((XP v c (cz Y M R0 f0 l0 c0)).set 13 (2, sv m l))) (fun j _ => by
    rw [← segs_set (XP v c (cz Y M R0 f0 l0 c0)) 13 2 _ (updC (sv (cz Y M R0 f0 l0 c0 13 0) (cz Y M R0 f0 l0 c0 13 1)) i (.int .i64 x)) rfl j, ← segs_set (XP v c (cz Y M R0 f0 l0 c0)) 13 2 _ (sv m l) rfl j]
    by_cases hj : soff (XP v c (cz Y M R0 f0 l0 c0)) 13 ≤ j ∧ j < soff (XP v c (cz Y M R0 f0 l0 c0)) 13 + 2
    · rw [if_pos hj, if_pos hj]
      exact e13 _ (by omega)
    · rw [if_neg hj, if_neg hj])
  have q3 : HasP (w.setCell ⟨b, 9245 + i, none⟩ (.int .i64 x)) b v c d bs (upZ (cz Y M R0 f0 l0 c0) 13 (twoV m l)) := HasX.lay mm.1 kb 13 (s' := sv m l) rfl q2 (by decide) (by decide)
  have c13 := mm.1.1.get 13 rfl i hi (a := 9245 + i) (by rw [HasX.isB mm.1 |>.off 13 (a := 9245) rfl]) (by omega)
  refine ⟨sy_only h ⟨R0, f0, l0, c0, ?_⟩ (ex_but kb), c13⟩
  have q4 := mm.bus q3 (ex_but kb) (good_up mm.2.2.1 13 _ ⟨⟨hm, hl⟩, rfl⟩)
  rw [cz_base 13 _ (by decide) (by decide)] at q4
  exact q4
theorem tY_is (m l : Int) : upZ (upZ (upZ Yp 9 (up (Yp 9) 7 248)) 13 (twoV 0 l)) 13 (twoV m l) = tY m l := by
  unfold tY
  rw [upZ_upZ]
def kTo (F : Int) : Nat → Int
  | 0 => 0
  | t + 1 => if F / 2 ^ t % 2 = 1 then (t : Int) else kTo F t
theorem kTo_3 {F : Int} (h : 1 ≤ F ∧ F < 8) : ∃ k : Nat, k < 3 ∧ kTo F 3 = (k : Int) ∧ vecOf F = 65526 + 2 * (k : Int) ∧ anyOf F = true := by
  have h7 : F = 1 ∨ F = 2 ∨ F = 3 ∨ F = 4 ∨ F = 5 ∨ F = 6 ∨ F = 7 := by omega
  rcases h7 with rfl | rfl | rfl | rfl | rfl | rfl | rfl
  · exact ⟨0, by decide, by decide, by decide, by decide⟩
  · exact ⟨1, by decide, by decide, by decide, by decide⟩
  · exact ⟨1, by decide, by decide, by decide, by decide⟩
  · exact ⟨2, by decide, by decide, by decide, by decide⟩
  · exact ⟨2, by decide, by decide, by decide, by decide⟩
  · exact ⟨2, by decide, by decide, by decide, by decide⟩
  · exact ⟨2, by decide, by decide, by decide, by decide⟩
theorem free_is {l m : Int} (hl : 0 ≤ l ∧ l < 8) (hm : 0 ≤ m ∧ m < 8) : bits .andNot .i64 l m = bic3 l m ∧ 0 ≤ bic3 l m ∧ bic3 l m < 8 := by
  have k : ∀ x y : Fin 8, bits .andNot .i64 (x.val : Int) (y.val : Int) = bic3 (x.val : Int) (y.val : Int) ∧ 0 ≤ bic3 (x.val : Int) (y.val : Int) ∧ bic3 (x.val : Int) (y.val : Int) < 8 := by decide +kernel
  have q := k ⟨l.toNat, by omega⟩ ⟨m.toNat, by omega⟩
  simpa [Int.toNat_of_nonneg hl.1, Int.toNat_of_nonneg hm.1] using q
theorem and_207 (n : Int) : OkP (bits .and .i64 n 207) := by
  have e : bits .and .i64 n 207 = bits .and .i64 (n % 256) 207 := by
    have h : ∀ a : Int, bits .and .i64 a 207 = R15.andW a 207 := fun a => R15.and_word a 207 ⟨by decide, by decide⟩
    rw [h, h]
    unfold R15.andW
    congr 1
    have q : ∀ x : Nat, x &&& 207 = x % 256 &&& 207 := fun x => by
      have := Nat.and_mod_two_pow (a := x) (b := 207) (n := 8)
      rw [show 207 % 2 ^ 8 = 207 from rfl, show (2 : Nat) ^ 8 = 256 from rfl] at this
      have l : x &&& 207 < 256 := Nat.lt_of_le_of_lt Nat.and_le_right (by decide)
      omega
    rw [show Int.toNat 207 = 207 from rfl, q, q (n % 256 % 65536).toNat]
    congr 1
    omega
  rw [e]
  have hb : IsByte (n % 256) := ⟨by omega, by omega⟩
  have k := fin_of (P := fun p => (0 ≤ bits .and .i64 p 207 ∧ bits .and .i64 p 207 < 256) ∧ bits .and .i64 p 207 / 16 % 4 = 0) (by decide +kernel) hb
  exact ⟨⟨k.1.1, by have := k.1.2; omega⟩, k.2⟩
theorem sy_alloc {W w : World} {b v c d g : Nat} {bs : List Int} {Y : Nat → Nat → Int} {M : Nat → Int} {row : Array Value} (h : SY W w b v c d g bs Y M row) (row' : Array Value) : SY W (w.alloc (.cells row' 58)) b v c d w.heap.size bs Y M row' := by
  have k : Below w.heap.size w (w.alloc (.cells row' 58)) := (Below.refl _ w).alloc (Nat.le_refl _) _
  obtain ⟨h1, h2, h3, a1, a2, a3, a4, a5, a6, a7⟩ := h
  have g1 := lt_of_block h2
  exact ⟨h1.next k, heap_alloc_new _ _, bnext h3 k, by omega, by omega, by omega, by omega, by omega, a6, a7⟩
theorem at_load {ops : Array Oper} {rest : List Oper} {o : Oper} {a : Act} {w : World} {Q : Exit → Act → World → Prop} (hgd : o.guard = none) (x : Operand) (ho : o.op = .load 58 x) (h : wpList Tryz.prog ops Q (o :: rest) a w) : wpList Tryz.prog ops Q (o :: rest) a w := h
set_option maxHeartbeats 1000000 in
theorem cpuTakes_walk (a0 a1 a2 : Int) (W : World) (w0 : (Lit.int .i64 a0).wf = true) (w1 : (Lit.int .i64 a1).wf = true) (w2 : (Lit.int .i64 a2).wf = true) (hL : Tabs W ∧ HasErr W ∧ CT W) :
    Calls Tryz.prog 7 #[.int .i64 a0, .int .i64 a1, .int .i64 a2] W fun e w' => e = .returned (.bool true) ∧ Below W.heap.size W w' := by
  obtain ⟨l, hl, eL⟩ : ∃ l, (0 ≤ l ∧ l < 8) ∧ bits .and .i64 a1 7 = l := ⟨_, by rw [and_7]; omega, rfl⟩
  obtain ⟨m, hm, eM⟩ : ∃ m, (0 ≤ m ∧ m < 8) ∧ bits .and .i64 a2 7 = m := ⟨_, by rw [and_7]; omega, rfl⟩
  obtain ⟨p, hp, eP⟩ : ∃ p, OkP p ∧ bits .and .i64 a0 207 = p := ⟨_, and_207 a0, rfl⟩
  have HL := hide hL
  have HP := hide hp
  have HLl := hide hl
  have HMm := hide hm
  clear hL w0 w1 w2 hp hl hm
  go_enter Tryz.func7, Tryz.ntmps7
  go_wp2_with fail
  obtain ⟨wa, hwa⟩ : ∃ wa, W.alloc (.cells (([234] : List Int).map (Value.int .u8)).toArray 5) = wa := ⟨_, rfl⟩
  have hwb := hwa
  simp only [List.map_cons, List.map_nil] at hwb
  rw [hwb]
  clear hwb
  have B0 := hide (show Below W.heap.size W wa by rw [← hwa]; exact (Below.refl _ W).alloc (Nat.le_refl _) _)
  have SL := hide (show SlB wa (some ⟨W.heap.size, 0, none⟩) 1 (fun i => [234].getD i 0) from lit_slb (l := [234]) (by rw [← hwa]; exact heap_alloc_new _ _) (show 1 ≤ 9223372036854775807 by decide) (fun y hy => by simp only [List.mem_cons, List.not_mem_nil, or_false] at hy; omega))
  clear hwa
  refine (put_is ⟨HL.out.1.next B0.out, HL.out.2.1.next B0.out, HL.out.2.2.next B0.out⟩ SL.out (nil_slb wa fun _ => 0) (by decide) (by decide)).mono ?_
  rintro e w1 ⟨b, v, c, d, bs, rfl, hc, ⟨lb, lv⟩, b1⟩
  have H1 := hide hc
  have B1 := hide (bnext B0.out b1)
  have LB := hide (show W.heap.size ≤ b ∧ W.heap.size ≤ v by have := B0.out.size; omega)
  clear hc lb lv b1 SL B0 HL
  obtain ⟨M0, hM⟩ : ∃ M, M = putM (fun i => [234].getD i 0) (fun _ => 0) 1 0 := ⟨_, rfl⟩
  rw [← hM] at H1
  have MM := hide (show M0 1024 = ((234 : Nat) : Int) by rw [hM]; rfl)
  clear hM
  have S0 := hide (sy_of (st_first H1.out B1.out LB.out #[.int .i64 0, .int .i64 0, .int .i64 0, .int .i64 0, .int .i64 0, .int .i64 0, .bool false, .int .i64 0]))
  clear H1 B1 LB
  obtain ⟨g, hg⟩ : ∃ g, g = w1.heap.size := ⟨_, rfl⟩
  rw [← hg] at S0
  go_wp2_with (first
    | (rw [← hg]; clear hg; refine store_sy rfl (.tmp 8) (.tmp 20) rfl S0.out rfl rfl _ rfl rfl (by kernel_rfl) ?_; intro x0 h2; have q9 := sy_file h2 7 (by decide) (x := 248) (by decide); have c9 : x0.cell? ⟨b, 8482, none⟩ = some (.int .i64 (Yp 9 7)) := q9.2; have f9 := sy_fro h2 8482; have S1 : Hid (SY W (x0.setCell ⟨b, 8482, none⟩ (.int .i64 248)) b v c d g bs (upZ Yp 9 (up (Yp 9) 7 248)) M0 #[.int .i64 0, .int .i64 0, .int .i64 0, .int .i64 255, .int .i64 0, .int .i64 9216, .bool false, .int .i64 0]) := hide q9.1; clear h2 S0 q9))
  refine under_name fun x1 hx1 => ?_
  rw [← hx1] at S1
  clear hx1 c9 f9
  go_loopw [9] (fun v9 wr => ∃ (t : Nat), t ≤ 5 ∧ v9 = .int .i64 (t : Int) ∧ SY W wr b v c d g bs (upZ Yp 9 (up (Yp 9) 7 248)) (tkM M0 t) #[.int .i64 0, .int .i64 0, .int .i64 0, .int .i64 255, .int .i64 0, .int .i64 9216, .bool false, .int .i64 0]) (fun v9 _ => 5 - (intOf v9).toNat)
  case atStart => exact ⟨0, Nat.zero_le _, rfl, by rw [tkM_0]; exact S1.out⟩
  case round =>
    clear S1
    obtain ⟨t, ht, rfl, hS⟩ := hrel
    have S3 := hide hS
    clear hS
    by_cases hlt : t < 5
    · have NX := hide (tkM_next M0 t hlt)
      go_wp2_with fail
      refine wp_region_state (ofList [.pointer (some ⟨b, 0, none⟩), .int .i64 (t : Int), .int .i64 (2 * (t : Int)), .int .i64 (8182 + 2 * (t : Int)), .pointer (some ⟨b, 0, none⟩), .int .i64 (t : Int), .int .i64 (2 * (t : Int)), .int .i64 (8183 + 2 * (t : Int)), .int .i64 (t : Int), .int .i64 (64 + (t : Int)), .int .u8 (64 + (t : Int)), .pointer (some ⟨b, 0, none⟩), .pointer (some ⟨b, 283, none⟩), .pointer (some ⟨b, 283 + (8182 + 2 * t), none⟩), undef, .pointer (some ⟨b, 0, none⟩), .pointer (some ⟨b, 283, none⟩), .pointer (some ⟨b, 283 + (8183 + 2 * t), none⟩), undef]) (fun dd ww => (stgs [(fun x => SY W x b v c d g bs (upZ Yp 9 (up (Yp 9) 7 248)) (tkM M0 t) #[.int .i64 0, .int .i64 0, .int .i64 0, .int .i64 255, .int .i64 0, .int .i64 9216, .bool false, .int .i64 0]), (fun x => SY W x b v c d g bs (upZ Yp 9 (up (Yp 9) 7 248)) (up (tkM M0 t) (8182 + 2 * t) (64 + (t : Int))) #[.int .i64 0, .int .i64 0, .int .i64 0, .int .i64 255, .int .i64 0, .int .i64 9216, .bool false, .int .i64 0]), (fun x => SY W x b v c d g bs (upZ Yp 9 (up (Yp 9) 7 248)) (up (up (tkM M0 t) (8182 + 2 * t) (64 + (t : Int))) (8183 + 2 * t) 37) #[.int .i64 0, .int .i64 0, .int .i64 0, .int .i64 255, .int .i64 0, .int .i64 9216, .bool false, .int .i64 0])]) (cntD [14, 18] dd) ww) _ (fun vals => by simp only [putAll, Act.put, List.setIfInBounds_toArray, List.set_cons_succ, List.set_cons_zero, Nat.reduceAdd]; rfl) (by kernel_rfl) (by kernel_rfl) (by kernel_rfl) (fun dn hd => stage_none (A := (stgs [(fun x => SY W x b v c d g bs (upZ Yp 9 (up (Yp 9) 7 248)) (tkM M0 t) #[.int .i64 0, .int .i64 0, .int .i64 0, .int .i64 255, .int .i64 0, .int .i64 9216, .bool false, .int .i64 0]), (fun x => SY W x b v c d g bs (upZ Yp 9 (up (Yp 9) 7 248)) (up (tkM M0 t) (8182 + 2 * t) (64 + (t : Int))) #[.int .i64 0, .int .i64 0, .int .i64 0, .int .i64 255, .int .i64 0, .int .i64 9216, .bool false, .int .i64 0]), (fun x => SY W x b v c d g bs (upZ Yp 9 (up (Yp 9) 7 248)) (up (up (tkM M0 t) (8182 + 2 * t) (64 + (t : Int))) (8183 + 2 * t) 37) #[.int .i64 0, .int .i64 0, .int .i64 0, .int .i64 255, .int .i64 0, .int .i64 9216, .bool false, .int .i64 0])])) hd (sy_drew S3.out)) ?_ ?_
      · refine stepsS_cons (fun vals dn x hi hc hk hs => ?_) (stepsS_cons (fun vals dn x hi hc hk hs => ?_) (stepsS_cons (fun vals dn x hi hc hk hs => ?_) (stepsS_cons (fun vals dn x hi hc hk hs => ?_) (stepsS_cons (fun vals dn x hi hc hk hs => ?_) (stepsS_cons (fun vals dn x hi hc hk hs => ?_) (stepsS_cons (fun vals dn x hi hc hk hs => ?_) (stepsS_cons (fun vals dn x hi hc hk hs => ?_) (stepsS_cons (fun vals dn x hi hc hk hs => ?_) (stepsS_cons (fun vals dn x hi hc hk hs => ?_) (stepsS_cons (fun vals dn x hi hc hk hs => ?_) (stepsS_cons (fun vals dn x hi hc hk hs => ?_) (stepsS_cons (fun vals dn x hi hc hk hs => ?_) (stepsS_cons (fun vals dn x hi hc hk hs => ?_) (stepsS_cons (fun vals dn x hi hc hk hs => ?_) (stepsS_cons (fun vals dn x hi hc hk hs => ?_) (stepsS_cons (fun vals dn x hi hc hk hs => ?_) (stepsS_cons (fun vals dn x hi hc hk hs => ?_) (stepsS_cons (fun vals dn x hi hc hk hs => ?_) stepsS_nil))))))))))))))))))
        · set_option maxRecDepth 20000 in
          go_wp2_with fail
          exact postS_mk _ rfl rfl (stage_keep (A := (stgs [(fun x => SY W x b v c d g bs (upZ Yp 9 (up (Yp 9) 7 248)) (tkM M0 t) #[.int .i64 0, .int .i64 0, .int .i64 0, .int .i64 255, .int .i64 0, .int .i64 9216, .bool false, .int .i64 0]), (fun x => SY W x b v c d g bs (upZ Yp 9 (up (Yp 9) 7 248)) (up (tkM M0 t) (8182 + 2 * t) (64 + (t : Int))) #[.int .i64 0, .int .i64 0, .int .i64 0, .int .i64 255, .int .i64 0, .int .i64 9216, .bool false, .int .i64 0]), (fun x => SY W x b v c d g bs (upZ Yp 9 (up (Yp 9) 7 248)) (up (up (tkM M0 t) (8182 + 2 * t) (64 + (t : Int))) (8183 + 2 * t) 37) #[.int .i64 0, .int .i64 0, .int .i64 0, .int .i64 255, .int .i64 0, .int .i64 9216, .bool false, .int .i64 0])])) (ps := [14, 18]) (i := 0) rfl hs)
        · set_option maxRecDepth 20000 in
          go_wp2_with fail
          exact postS_mk _ rfl rfl (stage_keep (A := (stgs [(fun x => SY W x b v c d g bs (upZ Yp 9 (up (Yp 9) 7 248)) (tkM M0 t) #[.int .i64 0, .int .i64 0, .int .i64 0, .int .i64 255, .int .i64 0, .int .i64 9216, .bool false, .int .i64 0]), (fun x => SY W x b v c d g bs (upZ Yp 9 (up (Yp 9) 7 248)) (up (tkM M0 t) (8182 + 2 * t) (64 + (t : Int))) #[.int .i64 0, .int .i64 0, .int .i64 0, .int .i64 255, .int .i64 0, .int .i64 9216, .bool false, .int .i64 0]), (fun x => SY W x b v c d g bs (upZ Yp 9 (up (Yp 9) 7 248)) (up (up (tkM M0 t) (8182 + 2 * t) (64 + (t : Int))) (8183 + 2 * t) 37) #[.int .i64 0, .int .i64 0, .int .i64 0, .int .i64 255, .int .i64 0, .int .i64 9216, .bool false, .int .i64 0])])) (ps := [14, 18]) (i := 1) rfl hs)
        · obtain ⟨⟨(h1 : vals 1 = .int .i64 (t : Int)), t1⟩, _⟩ := hk
          simp only [h1]
          clear h1
          go_wp2_with fail
          exact postS_mk _ rfl rfl (stage_keep (A := (stgs [(fun x => SY W x b v c d g bs (upZ Yp 9 (up (Yp 9) 7 248)) (tkM M0 t) #[.int .i64 0, .int .i64 0, .int .i64 0, .int .i64 255, .int .i64 0, .int .i64 9216, .bool false, .int .i64 0]), (fun x => SY W x b v c d g bs (upZ Yp 9 (up (Yp 9) 7 248)) (up (tkM M0 t) (8182 + 2 * t) (64 + (t : Int))) #[.int .i64 0, .int .i64 0, .int .i64 0, .int .i64 255, .int .i64 0, .int .i64 9216, .bool false, .int .i64 0]), (fun x => SY W x b v c d g bs (upZ Yp 9 (up (Yp 9) 7 248)) (up (up (tkM M0 t) (8182 + 2 * t) (64 + (t : Int))) (8183 + 2 * t) 37) #[.int .i64 0, .int .i64 0, .int .i64 0, .int .i64 255, .int .i64 0, .int .i64 9216, .bool false, .int .i64 0])])) (ps := [14, 18]) (i := 2) rfl hs)
        · obtain ⟨⟨(h2 : vals 2 = .int .i64 (2 * (t : Int))), t2⟩, _⟩ := hk
          simp only [h2]
          clear h2
          go_wp2_with fail
          exact postS_mk _ rfl rfl (stage_keep (A := (stgs [(fun x => SY W x b v c d g bs (upZ Yp 9 (up (Yp 9) 7 248)) (tkM M0 t) #[.int .i64 0, .int .i64 0, .int .i64 0, .int .i64 255, .int .i64 0, .int .i64 9216, .bool false, .int .i64 0]), (fun x => SY W x b v c d g bs (upZ Yp 9 (up (Yp 9) 7 248)) (up (tkM M0 t) (8182 + 2 * t) (64 + (t : Int))) #[.int .i64 0, .int .i64 0, .int .i64 0, .int .i64 255, .int .i64 0, .int .i64 9216, .bool false, .int .i64 0]), (fun x => SY W x b v c d g bs (upZ Yp 9 (up (Yp 9) 7 248)) (up (up (tkM M0 t) (8182 + 2 * t) (64 + (t : Int))) (8183 + 2 * t) 37) #[.int .i64 0, .int .i64 0, .int .i64 0, .int .i64 255, .int .i64 0, .int .i64 9216, .bool false, .int .i64 0])])) (ps := [14, 18]) (i := 3) rfl hs)
        · obtain ⟨_, _⟩ := hk
          go_wp2_with fail
          exact postS_mk _ rfl rfl (stage_keep (A := (stgs [(fun x => SY W x b v c d g bs (upZ Yp 9 (up (Yp 9) 7 248)) (tkM M0 t) #[.int .i64 0, .int .i64 0, .int .i64 0, .int .i64 255, .int .i64 0, .int .i64 9216, .bool false, .int .i64 0]), (fun x => SY W x b v c d g bs (upZ Yp 9 (up (Yp 9) 7 248)) (up (tkM M0 t) (8182 + 2 * t) (64 + (t : Int))) #[.int .i64 0, .int .i64 0, .int .i64 0, .int .i64 255, .int .i64 0, .int .i64 9216, .bool false, .int .i64 0]), (fun x => SY W x b v c d g bs (upZ Yp 9 (up (Yp 9) 7 248)) (up (up (tkM M0 t) (8182 + 2 * t) (64 + (t : Int))) (8183 + 2 * t) 37) #[.int .i64 0, .int .i64 0, .int .i64 0, .int .i64 255, .int .i64 0, .int .i64 9216, .bool false, .int .i64 0])])) (ps := [14, 18]) (i := 4) rfl hs)
        · obtain ⟨_, _⟩ := hk
          go_wp2_with fail
          exact postS_mk _ rfl rfl (stage_keep (A := (stgs [(fun x => SY W x b v c d g bs (upZ Yp 9 (up (Yp 9) 7 248)) (tkM M0 t) #[.int .i64 0, .int .i64 0, .int .i64 0, .int .i64 255, .int .i64 0, .int .i64 9216, .bool false, .int .i64 0]), (fun x => SY W x b v c d g bs (upZ Yp 9 (up (Yp 9) 7 248)) (up (tkM M0 t) (8182 + 2 * t) (64 + (t : Int))) #[.int .i64 0, .int .i64 0, .int .i64 0, .int .i64 255, .int .i64 0, .int .i64 9216, .bool false, .int .i64 0]), (fun x => SY W x b v c d g bs (upZ Yp 9 (up (Yp 9) 7 248)) (up (up (tkM M0 t) (8182 + 2 * t) (64 + (t : Int))) (8183 + 2 * t) 37) #[.int .i64 0, .int .i64 0, .int .i64 0, .int .i64 255, .int .i64 0, .int .i64 9216, .bool false, .int .i64 0])])) (ps := [14, 18]) (i := 5) rfl hs)
        · obtain ⟨⟨(h5 : vals 5 = .int .i64 (t : Int)), t5⟩, _, _⟩ := hk
          simp only [h5]
          clear h5
          go_wp2_with fail
          exact postS_mk _ rfl rfl (stage_keep (A := (stgs [(fun x => SY W x b v c d g bs (upZ Yp 9 (up (Yp 9) 7 248)) (tkM M0 t) #[.int .i64 0, .int .i64 0, .int .i64 0, .int .i64 255, .int .i64 0, .int .i64 9216, .bool false, .int .i64 0]), (fun x => SY W x b v c d g bs (upZ Yp 9 (up (Yp 9) 7 248)) (up (tkM M0 t) (8182 + 2 * t) (64 + (t : Int))) #[.int .i64 0, .int .i64 0, .int .i64 0, .int .i64 255, .int .i64 0, .int .i64 9216, .bool false, .int .i64 0]), (fun x => SY W x b v c d g bs (upZ Yp 9 (up (Yp 9) 7 248)) (up (up (tkM M0 t) (8182 + 2 * t) (64 + (t : Int))) (8183 + 2 * t) 37) #[.int .i64 0, .int .i64 0, .int .i64 0, .int .i64 255, .int .i64 0, .int .i64 9216, .bool false, .int .i64 0])])) (ps := [14, 18]) (i := 6) rfl hs)
        · obtain ⟨⟨(h6 : vals 6 = .int .i64 (2 * (t : Int))), t6⟩, _, _⟩ := hk
          simp only [h6]
          clear h6
          go_wp2_with fail
          exact postS_mk _ rfl rfl (stage_keep (A := (stgs [(fun x => SY W x b v c d g bs (upZ Yp 9 (up (Yp 9) 7 248)) (tkM M0 t) #[.int .i64 0, .int .i64 0, .int .i64 0, .int .i64 255, .int .i64 0, .int .i64 9216, .bool false, .int .i64 0]), (fun x => SY W x b v c d g bs (upZ Yp 9 (up (Yp 9) 7 248)) (up (tkM M0 t) (8182 + 2 * t) (64 + (t : Int))) #[.int .i64 0, .int .i64 0, .int .i64 0, .int .i64 255, .int .i64 0, .int .i64 9216, .bool false, .int .i64 0]), (fun x => SY W x b v c d g bs (upZ Yp 9 (up (Yp 9) 7 248)) (up (up (tkM M0 t) (8182 + 2 * t) (64 + (t : Int))) (8183 + 2 * t) 37) #[.int .i64 0, .int .i64 0, .int .i64 0, .int .i64 255, .int .i64 0, .int .i64 9216, .bool false, .int .i64 0])])) (ps := [14, 18]) (i := 7) rfl hs)
        · set_option maxRecDepth 20000 in
          go_wp2_with fail
          exact postS_mk _ rfl rfl (stage_keep (A := (stgs [(fun x => SY W x b v c d g bs (upZ Yp 9 (up (Yp 9) 7 248)) (tkM M0 t) #[.int .i64 0, .int .i64 0, .int .i64 0, .int .i64 255, .int .i64 0, .int .i64 9216, .bool false, .int .i64 0]), (fun x => SY W x b v c d g bs (upZ Yp 9 (up (Yp 9) 7 248)) (up (tkM M0 t) (8182 + 2 * t) (64 + (t : Int))) #[.int .i64 0, .int .i64 0, .int .i64 0, .int .i64 255, .int .i64 0, .int .i64 9216, .bool false, .int .i64 0]), (fun x => SY W x b v c d g bs (upZ Yp 9 (up (Yp 9) 7 248)) (up (up (tkM M0 t) (8182 + 2 * t) (64 + (t : Int))) (8183 + 2 * t) 37) #[.int .i64 0, .int .i64 0, .int .i64 0, .int .i64 255, .int .i64 0, .int .i64 9216, .bool false, .int .i64 0])])) (ps := [14, 18]) (i := 8) rfl hs)
        · obtain ⟨⟨(h8 : vals 8 = .int .i64 (t : Int)), t8⟩, _⟩ := hk
          simp only [h8]
          clear h8
          go_wp2_with fail
          exact postS_mk _ rfl rfl (stage_keep (A := (stgs [(fun x => SY W x b v c d g bs (upZ Yp 9 (up (Yp 9) 7 248)) (tkM M0 t) #[.int .i64 0, .int .i64 0, .int .i64 0, .int .i64 255, .int .i64 0, .int .i64 9216, .bool false, .int .i64 0]), (fun x => SY W x b v c d g bs (upZ Yp 9 (up (Yp 9) 7 248)) (up (tkM M0 t) (8182 + 2 * t) (64 + (t : Int))) #[.int .i64 0, .int .i64 0, .int .i64 0, .int .i64 255, .int .i64 0, .int .i64 9216, .bool false, .int .i64 0]), (fun x => SY W x b v c d g bs (upZ Yp 9 (up (Yp 9) 7 248)) (up (up (tkM M0 t) (8182 + 2 * t) (64 + (t : Int))) (8183 + 2 * t) 37) #[.int .i64 0, .int .i64 0, .int .i64 0, .int .i64 255, .int .i64 0, .int .i64 9216, .bool false, .int .i64 0])])) (ps := [14, 18]) (i := 9) rfl hs)
        · obtain ⟨⟨(h9 : vals 9 = .int .i64 (64 + (t : Int))), t9⟩, _⟩ := hk
          simp only [h9]
          clear h9
          go_wp2_with fail
          exact postS_mk _ rfl rfl (stage_keep (A := (stgs [(fun x => SY W x b v c d g bs (upZ Yp 9 (up (Yp 9) 7 248)) (tkM M0 t) #[.int .i64 0, .int .i64 0, .int .i64 0, .int .i64 255, .int .i64 0, .int .i64 9216, .bool false, .int .i64 0]), (fun x => SY W x b v c d g bs (upZ Yp 9 (up (Yp 9) 7 248)) (up (tkM M0 t) (8182 + 2 * t) (64 + (t : Int))) #[.int .i64 0, .int .i64 0, .int .i64 0, .int .i64 255, .int .i64 0, .int .i64 9216, .bool false, .int .i64 0]), (fun x => SY W x b v c d g bs (upZ Yp 9 (up (Yp 9) 7 248)) (up (up (tkM M0 t) (8182 + 2 * t) (64 + (t : Int))) (8183 + 2 * t) 37) #[.int .i64 0, .int .i64 0, .int .i64 0, .int .i64 255, .int .i64 0, .int .i64 9216, .bool false, .int .i64 0])])) (ps := [14, 18]) (i := 10) rfl hs)
        · obtain ⟨⟨(h0 : vals 0 = .pointer (some ⟨b, 0, none⟩)), t0⟩, _⟩ := hk
          simp only [h0]
          clear h0
          go_wp2_with fail
          exact postS_mk _ rfl rfl (stage_keep (A := (stgs [(fun x => SY W x b v c d g bs (upZ Yp 9 (up (Yp 9) 7 248)) (tkM M0 t) #[.int .i64 0, .int .i64 0, .int .i64 0, .int .i64 255, .int .i64 0, .int .i64 9216, .bool false, .int .i64 0]), (fun x => SY W x b v c d g bs (upZ Yp 9 (up (Yp 9) 7 248)) (up (tkM M0 t) (8182 + 2 * t) (64 + (t : Int))) #[.int .i64 0, .int .i64 0, .int .i64 0, .int .i64 255, .int .i64 0, .int .i64 9216, .bool false, .int .i64 0]), (fun x => SY W x b v c d g bs (upZ Yp 9 (up (Yp 9) 7 248)) (up (up (tkM M0 t) (8182 + 2 * t) (64 + (t : Int))) (8183 + 2 * t) 37) #[.int .i64 0, .int .i64 0, .int .i64 0, .int .i64 255, .int .i64 0, .int .i64 9216, .bool false, .int .i64 0])])) (ps := [14, 18]) (i := 11) rfl hs)
        · obtain ⟨⟨(h11 : vals 11 = .pointer (some ⟨b, 0, none⟩)), t11⟩, _⟩ := hk
          simp only [h11]
          clear h11
          go_wp2_with fail
          exact postS_mk _ rfl rfl (stage_keep (A := (stgs [(fun x => SY W x b v c d g bs (upZ Yp 9 (up (Yp 9) 7 248)) (tkM M0 t) #[.int .i64 0, .int .i64 0, .int .i64 0, .int .i64 255, .int .i64 0, .int .i64 9216, .bool false, .int .i64 0]), (fun x => SY W x b v c d g bs (upZ Yp 9 (up (Yp 9) 7 248)) (up (tkM M0 t) (8182 + 2 * t) (64 + (t : Int))) #[.int .i64 0, .int .i64 0, .int .i64 0, .int .i64 255, .int .i64 0, .int .i64 9216, .bool false, .int .i64 0]), (fun x => SY W x b v c d g bs (upZ Yp 9 (up (Yp 9) 7 248)) (up (up (tkM M0 t) (8182 + 2 * t) (64 + (t : Int))) (8183 + 2 * t) 37) #[.int .i64 0, .int .i64 0, .int .i64 0, .int .i64 255, .int .i64 0, .int .i64 9216, .bool false, .int .i64 0])])) (ps := [14, 18]) (i := 12) rfl hs)
        · obtain ⟨⟨(h12 : vals 12 = .pointer (some ⟨b, 283, none⟩)), t12⟩, ⟨(h3 : vals 3 = .int .i64 (8182 + 2 * (t : Int))), t3⟩, ⟨(h0 : vals 0 = .pointer (some ⟨b, 0, none⟩)), t0⟩, ⟨(h1 : vals 1 = .int .i64 (t : Int)), t1⟩, ⟨(h2 : vals 2 = .int .i64 (2 * (t : Int))), t2⟩, _, _, _, _, _, ⟨(h8 : vals 8 = .int .i64 (t : Int)), t8⟩, ⟨(h9 : vals 9 = .int .i64 (64 + (t : Int))), t9⟩, ⟨(h10 : vals 10 = .int .u8 (64 + (t : Int))), t10⟩, _⟩ := hk
          simp only [h12, h3]
          clear h12 h3 h0 h1 h2 h8 h9 h10
          go_wp2_with fail
          exact postS_mk _ rfl rfl (stage_keep (A := (stgs [(fun x => SY W x b v c d g bs (upZ Yp 9 (up (Yp 9) 7 248)) (tkM M0 t) #[.int .i64 0, .int .i64 0, .int .i64 0, .int .i64 255, .int .i64 0, .int .i64 9216, .bool false, .int .i64 0]), (fun x => SY W x b v c d g bs (upZ Yp 9 (up (Yp 9) 7 248)) (up (tkM M0 t) (8182 + 2 * t) (64 + (t : Int))) #[.int .i64 0, .int .i64 0, .int .i64 0, .int .i64 255, .int .i64 0, .int .i64 9216, .bool false, .int .i64 0]), (fun x => SY W x b v c d g bs (upZ Yp 9 (up (Yp 9) 7 248)) (up (up (tkM M0 t) (8182 + 2 * t) (64 + (t : Int))) (8183 + 2 * t) 37) #[.int .i64 0, .int .i64 0, .int .i64 0, .int .i64 255, .int .i64 0, .int .i64 9216, .bool false, .int .i64 0])])) (ps := [14, 18]) (i := 13) rfl hs)
        · obtain ⟨⟨(h13 : vals 13 = .pointer (some ⟨b, 283 + (8182 + 2 * t), none⟩)), t13⟩, ⟨(h10 : vals 10 = .int .u8 (64 + (t : Int))), t10⟩, ⟨(h0 : vals 0 = .pointer (some ⟨b, 0, none⟩)), t0⟩, ⟨(h1 : vals 1 = .int .i64 (t : Int)), t1⟩, ⟨(h2 : vals 2 = .int .i64 (2 * (t : Int))), t2⟩, ⟨(h3 : vals 3 = .int .i64 (8182 + 2 * (t : Int))), t3⟩, _, _, _, _, ⟨(h8 : vals 8 = .int .i64 (t : Int)), t8⟩, ⟨(h9 : vals 9 = .int .i64 (64 + (t : Int))), t9⟩, _, _⟩ := hk
          simp only [h13, h10]
          clear h13 h10 h0 h1 h2 h3 h8 h9
          have d14 := hi
          have d18 := not_yet hc hi 18 60 (by kernel_rfl)
          have hn : cntD [14, 18] dn = 0 := by show (if dn 14 = true then 1 else 0) + ((if dn 18 = true then 1 else 0) + 0) = 0; rw [d14, d18]; rfl
          have hs1 := stage_at (A := (stgs [(fun x => SY W x b v c d g bs (upZ Yp 9 (up (Yp 9) 7 248)) (tkM M0 t) #[.int .i64 0, .int .i64 0, .int .i64 0, .int .i64 255, .int .i64 0, .int .i64 9216, .bool false, .int .i64 0]), (fun x => SY W x b v c d g bs (upZ Yp 9 (up (Yp 9) 7 248)) (up (tkM M0 t) (8182 + 2 * t) (64 + (t : Int))) #[.int .i64 0, .int .i64 0, .int .i64 0, .int .i64 255, .int .i64 0, .int .i64 9216, .bool false, .int .i64 0]), (fun x => SY W x b v c d g bs (upZ Yp 9 (up (Yp 9) 7 248)) (up (up (tkM M0 t) (8182 + 2 * t) (64 + (t : Int))) (8183 + 2 * t) 37) #[.int .i64 0, .int .i64 0, .int .i64 0, .int .i64 255, .int .i64 0, .int .i64 9216, .bool false, .int .i64 0])])) hn hs
          have hn2 : cntD [14, 18] (updD dn 14) = 1 := by show (if updD dn 14 14 = true then 1 else 0) + ((if updD dn 14 18 = true then 1 else 0) + 0) = 1; rw [updD_same, updD_other dn (show ¬ 18 = 14 by decide), d18]; rfl
          have HN2 := hide hn2
          clear hn hn2 d18
          have q := (fun h : (fun x => SY W x b v c d g bs (upZ Yp 9 (up (Yp 9) 7 248)) (tkM M0 t) #[.int .i64 0, .int .i64 0, .int .i64 0, .int .i64 255, .int .i64 0, .int .i64 9216, .bool false, .int .i64 0]) x => sy_get h (8182 + 2 * t) (by omega)) hs1
          have z := (fun h : (fun x => SY W x b v c d g bs (upZ Yp 9 (up (Yp 9) 7 248)) (tkM M0 t) #[.int .i64 0, .int .i64 0, .int .i64 0, .int .i64 255, .int .i64 0, .int .i64 9216, .bool false, .int .i64 0]) x => sy_fro h (283 + (8182 + 2 * t))) hs1
          have H2 := hide ((fun h : (fun x => SY W x b v c d g bs (upZ Yp 9 (up (Yp 9) 7 248)) (tkM M0 t) #[.int .i64 0, .int .i64 0, .int .i64 0, .int .i64 255, .int .i64 0, .int .i64 9216, .bool false, .int .i64 0]) x => show (fun x => SY W x b v c d g bs (upZ Yp 9 (up (Yp 9) 7 248)) (up (tkM M0 t) (8182 + 2 * t) (64 + (t : Int))) #[.int .i64 0, .int .i64 0, .int .i64 0, .int .i64 255, .int .i64 0, .int .i64 9216, .bool false, .int .i64 0]) (x.setCell ⟨b, 283 + (8182 + 2 * t), none⟩ (.int .u8 (64 + (t : Int)))) from sy_set h (8182 + 2 * t) (by omega) (by omega)) hs1)
          clear hs hs1
          go_wp2_with fail
          exact postS_mk _ rfl rfl (stage_of (A := (stgs [(fun x => SY W x b v c d g bs (upZ Yp 9 (up (Yp 9) 7 248)) (tkM M0 t) #[.int .i64 0, .int .i64 0, .int .i64 0, .int .i64 255, .int .i64 0, .int .i64 9216, .bool false, .int .i64 0]), (fun x => SY W x b v c d g bs (upZ Yp 9 (up (Yp 9) 7 248)) (up (tkM M0 t) (8182 + 2 * t) (64 + (t : Int))) #[.int .i64 0, .int .i64 0, .int .i64 0, .int .i64 255, .int .i64 0, .int .i64 9216, .bool false, .int .i64 0]), (fun x => SY W x b v c d g bs (upZ Yp 9 (up (Yp 9) 7 248)) (up (up (tkM M0 t) (8182 + 2 * t) (64 + (t : Int))) (8183 + 2 * t) 37) #[.int .i64 0, .int .i64 0, .int .i64 0, .int .i64 255, .int .i64 0, .int .i64 9216, .bool false, .int .i64 0])])) HN2.out H2.out)
        · obtain ⟨⟨(h4 : vals 4 = .pointer (some ⟨b, 0, none⟩)), t4⟩, _⟩ := hk
          simp only [h4]
          clear h4
          go_wp2_with fail
          exact postS_mk _ rfl rfl (stage_keep (A := (stgs [(fun x => SY W x b v c d g bs (upZ Yp 9 (up (Yp 9) 7 248)) (tkM M0 t) #[.int .i64 0, .int .i64 0, .int .i64 0, .int .i64 255, .int .i64 0, .int .i64 9216, .bool false, .int .i64 0]), (fun x => SY W x b v c d g bs (upZ Yp 9 (up (Yp 9) 7 248)) (up (tkM M0 t) (8182 + 2 * t) (64 + (t : Int))) #[.int .i64 0, .int .i64 0, .int .i64 0, .int .i64 255, .int .i64 0, .int .i64 9216, .bool false, .int .i64 0]), (fun x => SY W x b v c d g bs (upZ Yp 9 (up (Yp 9) 7 248)) (up (up (tkM M0 t) (8182 + 2 * t) (64 + (t : Int))) (8183 + 2 * t) 37) #[.int .i64 0, .int .i64 0, .int .i64 0, .int .i64 255, .int .i64 0, .int .i64 9216, .bool false, .int .i64 0])])) (ps := [14, 18]) (i := 15) rfl hs)
        · obtain ⟨⟨(h15 : vals 15 = .pointer (some ⟨b, 0, none⟩)), t15⟩, _⟩ := hk
          simp only [h15]
          clear h15
          go_wp2_with fail
          exact postS_mk _ rfl rfl (stage_keep (A := (stgs [(fun x => SY W x b v c d g bs (upZ Yp 9 (up (Yp 9) 7 248)) (tkM M0 t) #[.int .i64 0, .int .i64 0, .int .i64 0, .int .i64 255, .int .i64 0, .int .i64 9216, .bool false, .int .i64 0]), (fun x => SY W x b v c d g bs (upZ Yp 9 (up (Yp 9) 7 248)) (up (tkM M0 t) (8182 + 2 * t) (64 + (t : Int))) #[.int .i64 0, .int .i64 0, .int .i64 0, .int .i64 255, .int .i64 0, .int .i64 9216, .bool false, .int .i64 0]), (fun x => SY W x b v c d g bs (upZ Yp 9 (up (Yp 9) 7 248)) (up (up (tkM M0 t) (8182 + 2 * t) (64 + (t : Int))) (8183 + 2 * t) 37) #[.int .i64 0, .int .i64 0, .int .i64 0, .int .i64 255, .int .i64 0, .int .i64 9216, .bool false, .int .i64 0])])) (ps := [14, 18]) (i := 16) rfl hs)
        · obtain ⟨⟨(h16 : vals 16 = .pointer (some ⟨b, 283, none⟩)), t16⟩, ⟨(h7 : vals 7 = .int .i64 (8183 + 2 * (t : Int))), t7⟩, ⟨(h0 : vals 0 = .pointer (some ⟨b, 0, none⟩)), t0⟩, ⟨(h1 : vals 1 = .int .i64 (t : Int)), t1⟩, ⟨(h2 : vals 2 = .int .i64 (2 * (t : Int))), t2⟩, ⟨(h3 : vals 3 = .int .i64 (8182 + 2 * (t : Int))), t3⟩, ⟨(h4 : vals 4 = .pointer (some ⟨b, 0, none⟩)), t4⟩, ⟨(h5 : vals 5 = .int .i64 (t : Int)), t5⟩, ⟨(h6 : vals 6 = .int .i64 (2 * (t : Int))), t6⟩, _, ⟨(h8 : vals 8 = .int .i64 (t : Int)), t8⟩, ⟨(h9 : vals 9 = .int .i64 (64 + (t : Int))), t9⟩, ⟨(h10 : vals 10 = .int .u8 (64 + (t : Int))), t10⟩, ⟨(h11 : vals 11 = .pointer (some ⟨b, 0, none⟩)), t11⟩, ⟨(h12 : vals 12 = .pointer (some ⟨b, 283, none⟩)), t12⟩, ⟨(h13 : vals 13 = .pointer (some ⟨b, 283 + (8182 + 2 * t), none⟩)), t13⟩, ⟨(h14 : vals 14 = undef), t14⟩, _⟩ := hk
          simp only [h16, h7]
          clear h16 h7 h0 h1 h2 h3 h4 h5 h6 h8 h9 h10 h11 h12 h13 h14
          go_wp2_with fail
          exact postS_mk _ rfl rfl (stage_keep (A := (stgs [(fun x => SY W x b v c d g bs (upZ Yp 9 (up (Yp 9) 7 248)) (tkM M0 t) #[.int .i64 0, .int .i64 0, .int .i64 0, .int .i64 255, .int .i64 0, .int .i64 9216, .bool false, .int .i64 0]), (fun x => SY W x b v c d g bs (upZ Yp 9 (up (Yp 9) 7 248)) (up (tkM M0 t) (8182 + 2 * t) (64 + (t : Int))) #[.int .i64 0, .int .i64 0, .int .i64 0, .int .i64 255, .int .i64 0, .int .i64 9216, .bool false, .int .i64 0]), (fun x => SY W x b v c d g bs (upZ Yp 9 (up (Yp 9) 7 248)) (up (up (tkM M0 t) (8182 + 2 * t) (64 + (t : Int))) (8183 + 2 * t) 37) #[.int .i64 0, .int .i64 0, .int .i64 0, .int .i64 255, .int .i64 0, .int .i64 9216, .bool false, .int .i64 0])])) (ps := [14, 18]) (i := 17) rfl hs)
        · obtain ⟨⟨(h17 : vals 17 = .pointer (some ⟨b, 283 + (8183 + 2 * t), none⟩)), t17⟩, ⟨(h14 : vals 14 = undef), t14⟩, ⟨(h0 : vals 0 = .pointer (some ⟨b, 0, none⟩)), t0⟩, ⟨(h1 : vals 1 = .int .i64 (t : Int)), t1⟩, ⟨(h2 : vals 2 = .int .i64 (2 * (t : Int))), t2⟩, ⟨(h3 : vals 3 = .int .i64 (8182 + 2 * (t : Int))), t3⟩, ⟨(h4 : vals 4 = .pointer (some ⟨b, 0, none⟩)), t4⟩, ⟨(h5 : vals 5 = .int .i64 (t : Int)), t5⟩, ⟨(h6 : vals 6 = .int .i64 (2 * (t : Int))), t6⟩, ⟨(h7 : vals 7 = .int .i64 (8183 + 2 * (t : Int))), t7⟩, ⟨(h8 : vals 8 = .int .i64 (t : Int)), t8⟩, ⟨(h9 : vals 9 = .int .i64 (64 + (t : Int))), t9⟩, ⟨(h10 : vals 10 = .int .u8 (64 + (t : Int))), t10⟩, ⟨(h11 : vals 11 = .pointer (some ⟨b, 0, none⟩)), t11⟩, ⟨(h12 : vals 12 = .pointer (some ⟨b, 283, none⟩)), t12⟩, ⟨(h13 : vals 13 = .pointer (some ⟨b, 283 + (8182 + 2 * t), none⟩)), t13⟩, _, _⟩ := hk
          simp only [h17]
          clear h17 h14 h0 h1 h2 h3 h4 h5 h6 h7 h8 h9 h10 h11 h12 h13
          have d14 := t14
          have d18 := hi
          have hn : cntD [14, 18] dn = 1 := by show (if dn 14 = true then 1 else 0) + ((if dn 18 = true then 1 else 0) + 0) = 1; rw [d14, d18]; rfl
          have hs1 := stage_at (A := (stgs [(fun x => SY W x b v c d g bs (upZ Yp 9 (up (Yp 9) 7 248)) (tkM M0 t) #[.int .i64 0, .int .i64 0, .int .i64 0, .int .i64 255, .int .i64 0, .int .i64 9216, .bool false, .int .i64 0]), (fun x => SY W x b v c d g bs (upZ Yp 9 (up (Yp 9) 7 248)) (up (tkM M0 t) (8182 + 2 * t) (64 + (t : Int))) #[.int .i64 0, .int .i64 0, .int .i64 0, .int .i64 255, .int .i64 0, .int .i64 9216, .bool false, .int .i64 0]), (fun x => SY W x b v c d g bs (upZ Yp 9 (up (Yp 9) 7 248)) (up (up (tkM M0 t) (8182 + 2 * t) (64 + (t : Int))) (8183 + 2 * t) 37) #[.int .i64 0, .int .i64 0, .int .i64 0, .int .i64 255, .int .i64 0, .int .i64 9216, .bool false, .int .i64 0])])) hn hs
          have hn2 : cntD [14, 18] (updD dn 18) = 2 := by show (if updD dn 18 14 = true then 1 else 0) + ((if updD dn 18 18 = true then 1 else 0) + 0) = 2; rw [updD_other dn (show ¬ 14 = 18 by decide), updD_same, d14]; rfl
          have HN2 := hide hn2
          clear hn hn2 d14
          have q := (fun h : (fun x => SY W x b v c d g bs (upZ Yp 9 (up (Yp 9) 7 248)) (up (tkM M0 t) (8182 + 2 * t) (64 + (t : Int))) #[.int .i64 0, .int .i64 0, .int .i64 0, .int .i64 255, .int .i64 0, .int .i64 9216, .bool false, .int .i64 0]) x => sy_get h (8183 + 2 * t) (by omega)) hs1
          have z := (fun h : (fun x => SY W x b v c d g bs (upZ Yp 9 (up (Yp 9) 7 248)) (up (tkM M0 t) (8182 + 2 * t) (64 + (t : Int))) #[.int .i64 0, .int .i64 0, .int .i64 0, .int .i64 255, .int .i64 0, .int .i64 9216, .bool false, .int .i64 0]) x => sy_fro h (283 + (8183 + 2 * t))) hs1
          have H2 := hide ((fun h : (fun x => SY W x b v c d g bs (upZ Yp 9 (up (Yp 9) 7 248)) (up (tkM M0 t) (8182 + 2 * t) (64 + (t : Int))) #[.int .i64 0, .int .i64 0, .int .i64 0, .int .i64 255, .int .i64 0, .int .i64 9216, .bool false, .int .i64 0]) x => show (fun x => SY W x b v c d g bs (upZ Yp 9 (up (Yp 9) 7 248)) (up (up (tkM M0 t) (8182 + 2 * t) (64 + (t : Int))) (8183 + 2 * t) 37) #[.int .i64 0, .int .i64 0, .int .i64 0, .int .i64 255, .int .i64 0, .int .i64 9216, .bool false, .int .i64 0]) (x.setCell ⟨b, 283 + (8183 + 2 * t), none⟩ (.int .u8 37)) from sy_set h (8183 + 2 * t) (by omega) (by decide)) hs1)
          clear hs hs1
          go_wp2_with fail
          exact postS_mk _ rfl rfl (stage_of (A := (stgs [(fun x => SY W x b v c d g bs (upZ Yp 9 (up (Yp 9) 7 248)) (tkM M0 t) #[.int .i64 0, .int .i64 0, .int .i64 0, .int .i64 255, .int .i64 0, .int .i64 9216, .bool false, .int .i64 0]), (fun x => SY W x b v c d g bs (upZ Yp 9 (up (Yp 9) 7 248)) (up (tkM M0 t) (8182 + 2 * t) (64 + (t : Int))) #[.int .i64 0, .int .i64 0, .int .i64 0, .int .i64 255, .int .i64 0, .int .i64 9216, .bool false, .int .i64 0]), (fun x => SY W x b v c d g bs (upZ Yp 9 (up (Yp 9) 7 248)) (up (up (tkM M0 t) (8182 + 2 * t) (64 + (t : Int))) (8183 + 2 * t) 37) #[.int .i64 0, .int .i64 0, .int .i64 0, .int .i64 255, .int .i64 0, .int .i64 9216, .bool false, .int .i64 0])])) HN2.out H2.out)
      rintro vals dn x hall hs hv
      clear hv
      have hn : cntD [14, 18] dn = 2 := by show (if dn 14 = true then 1 else 0) + ((if dn 18 = true then 1 else 0) + 0) = 2; rw [hall 14 (by decide), hall 18 (by decide)]; rfl
      have hs := stage_at (A := (stgs [(fun x => SY W x b v c d g bs (upZ Yp 9 (up (Yp 9) 7 248)) (tkM M0 t) #[.int .i64 0, .int .i64 0, .int .i64 0, .int .i64 255, .int .i64 0, .int .i64 9216, .bool false, .int .i64 0]), (fun x => SY W x b v c d g bs (upZ Yp 9 (up (Yp 9) 7 248)) (up (tkM M0 t) (8182 + 2 * t) (64 + (t : Int))) #[.int .i64 0, .int .i64 0, .int .i64 0, .int .i64 255, .int .i64 0, .int .i64 9216, .bool false, .int .i64 0]), (fun x => SY W x b v c d g bs (upZ Yp 9 (up (Yp 9) 7 248)) (up (up (tkM M0 t) (8182 + 2 * t) (64 + (t : Int))) (8183 + 2 * t) 37) #[.int .i64 0, .int .i64 0, .int .i64 0, .int .i64 255, .int .i64 0, .int .i64 9216, .bool false, .int .i64 0])])) hn hs
      clear hn hall
      have h4 : (fun x => SY W x b v c d g bs (upZ Yp 9 (up (Yp 9) 7 248)) (up (up (tkM M0 t) (8182 + 2 * t) (64 + (t : Int))) (8183 + 2 * t) 37) #[.int .i64 0, .int .i64 0, .int .i64 0, .int .i64 255, .int .i64 0, .int .i64 9216, .bool false, .int .i64 0]) x := hs
      have c4 := sy_get h4 (1344 + t) (by omega)
      have f4 := sy_fro h4 (283 + (1344 + t))
      have k4 := sy_set h4 (1344 + t) (by omega) (x := 64) (by decide)
      rw [NX.out] at k4
      have S4 := hide k4
      clear h4 hs NX S3 k4
      go_wp2_with fail
      go_roundw
      case rel => exact ⟨t + 1, by omega, by go_num, S4.out⟩
      case measure => simp [intOf]; omega
    · obtain rfl : t = 5 := by omega
      clear hlt
      have h3 := S3.out
      have cA : wr.cell? ⟨b, 9246, none⟩ = some (.int .i64 0) := (sy_irq h3 1 (by decide) (x := l) (m := 0) (l := l) (by decide) HLl.out (.inr ⟨rfl, rfl, rfl⟩)).2
      have cB : wr.cell? ⟨b, 9245, none⟩ = some (.int .i64 0) := (sy_irq h3 0 (by decide) (x := 0) (m := 0) (l := 0) (by decide) (by decide) (.inl ⟨rfl, rfl, rfl⟩)).2
      have fA := sy_fro h3 9246
      have fB := sy_fro h3 9245
      have cG := sy_reg h3 4 (x := .int .i64 0) rfl
      have fG := frozen_of_row wr g 4 _ _ h3.2.1
      have nG : ¬ b = g := by have := h3.2.2.2.1; omega
      have nG2 : ¬ g = b := fun e => nG e.symm
      have q1 := (sy_irq h3 1 (by decide) (x := l) (m := 0) (l := l) (by decide) HLl.out (.inr ⟨rfl, rfl, rfl⟩)).1
      have q2 := (sy_irq q1 0 (by decide) (x := m) (m := m) (l := l) HMm.out HLl.out (.inl ⟨rfl, rfl, rfl⟩)).1
      rw [tY_is] at q2
      have S5 : Hid (SY W (((wr.setCell ⟨b, 9246, none⟩ (.int .i64 l)).setCell ⟨b, 9245, none⟩ (.int .i64 m)).setCell ⟨g, 4, none⟩ (.int .i64 p)) b v c d g bs (tY m l) (tkM M0 5) #[.int .i64 0, .int .i64 0, .int .i64 0, .int .i64 255, .int .i64 p, .int .i64 9216, .bool false, .int .i64 0]) := hide (sy_setr q2 4 (.int .i64 p) (row' := #[.int .i64 0, .int .i64 0, .int .i64 0, .int .i64 255, .int .i64 p, .int .i64 9216, .bool false, .int .i64 0]) rfl)
      have MK := hide (fun k hk => tkM_mem M0 k hk MM.out)
      have MN := hide (show tkM M0 5 1024 = ((234 : Nat) : Int) from (tkM_mem M0 0 (by decide) MM.out).1)
      generalize tkM M0 5 = M at *
      clear q1 q2 h3 S3 MM
      have hF := free_is HLl.out HMm.out
      obtain ⟨F, eF⟩ : ∃ F, bic3 l m = F := ⟨_, rfl⟩
      rw [eF] at hF
      have eN := hF.1
      have HF := hide hF.2
      have HEF := hide eF
      clear hF eF
      have O := okp HP.out
      by_cases hI : 4 ≤ p % 8
      · have e4 : bits .and .i64 p 4 = 4 := by rw [and_4, if_pos hI]
        have G : Hid (GoesY bs (tY m l) M 0 0 0 255 p 1024 false 0 (tY m l) M 0 0 0 255 (bits .andNot .i64 p 32) 1025 false 0 2) := hide (take_no HP.out.1 ⟨0, fun w hw => pick_held _ _ _ hI w⟩ (by decide) MN.out)
        clear hI O
        go_wp2_with (first
          | (refine at_load rfl (.tmp 8) rfl ?_; refine load_sy rfl (.tmp 8) rfl S5.out rfl rfl ?_)
          | (go_at_call 13; refine (sy_step S5.out G.out).mono ?_; rintro e w4 ⟨rfl, h4⟩; have S6 := hide h4; clear h4 S5 G))
        all_goals first | (go_ret; exact ⟨rfl, (sy_below S6.out).alloc (sy_below S6.out).size _⟩) | (exfalso; simp_all; done) | (exfalso; omega) | trace_state
      · by_cases hz : F = 0
        · have e4 : bits .and .i64 p 4 = 0 := by rw [and_4, if_neg hI]
          have G : Hid (GoesY bs (tY m l) M 0 0 0 255 p 1024 false 0 (tY m l) M 0 0 0 255 (bits .andNot .i64 p 32) 1025 false 0 2) := hide (take_no HP.out.1 ⟨vecOf (bic3 l m), fun w hw => (pick_free m l p (by omega) w hw).mono fun e w' h => by rw [HEF.out, hz] at h; rw [HEF.out, hz]; exact h⟩ (by decide) MN.out)
          subst hz
          clear hI O
          go_wp2_with (first
            | (refine at_load rfl (.tmp 8) rfl ?_; refine load_sy rfl (.tmp 8) rfl S5.out rfl rfl ?_)
            | (go_at_call 13; refine (sy_step S5.out G.out).mono ?_; rintro e w4 ⟨rfl, h4⟩; have S6 := hide h4; clear h4 S5 G))
          all_goals first | (go_ret; exact ⟨rfl, (sy_below S6.out).alloc (sy_below S6.out).size _⟩) | (exfalso; simp_all; done) | (exfalso; omega) | trace_state
        · obtain ⟨k, hk, eK, eV, eA⟩ := kTo_3 (F := F) (by have := HF.out; omega)
          have e4 : bits .and .i64 p 4 = 0 := by rw [and_4, if_neg hI]
          have G : Hid (GoesY bs (tY m l) M 0 0 0 255 p 1024 false 0 (tY m l) (up (up (up M 511 36) 510 0) 509 p) 0 0 0 252 (bits .or .i64 (bits .andNot .i64 p 40) 4) (1344 + k) false 0 8) := hide (take_yes hk HP.out (fun w hw => (pick_free m l p (by omega) w hw).mono fun e w' h => by rw [HEF.out, eV, eA] at h; exact h) (MK.out k hk))
          have G2 : Hid (GoesY bs (tY m l) (up (up (up M 511 36) 510 0) 509 p) 0 0 0 252 (bits .or .i64 (bits .andNot .i64 p 40) 4) (1344 + k) false 0 (tY m l) (up (up (up M 511 36) 510 0) 509 p) 0 0 0 255 p 1024 false 0 7) := hide (take_back hk HP.out (MK.out k hk))
          have HK := hide eK
          have hzb : (F == 0) = false := by simpa using hz
          clear eK eV eA hI O MK MN
          obtain ⟨M3, hM3⟩ : ∃ M3, M3 = up (up (up M 511 36) 510 0) 509 p := ⟨_, rfl⟩
          rw [← hM3] at G G2
          clear hM3
          go_wp2_with (first
            | (refine at_load rfl (.tmp 8) rfl ?_; refine load_sy rfl (.tmp 8) rfl S5.out rfl rfl ?_)
            | (go_at_call 13; refine (sy_step S5.out G.out).mono ?_; rintro e w4 ⟨rfl, h4⟩; have S6 := hide h4; clear h4 S5 G))
          refine under_name fun xs hxs => ?_
          have S7 : Hid (SY W xs b v c d w4.heap.size bs (tY m l) M3 #[.int .i64 0, .int .i64 0, .int .i64 0, .int .i64 252, .int .i64 (bits .or .i64 (bits .andNot .i64 p 40) 4), .int .i64 (8192 + ((1344 + k : Nat) : Int)), .bool false, .int .i64 0]) := hide (by rw [hxs]; exact sy_alloc S6.out _)
          clear hxs S6
          go_loopw [13, 14] (fun v13 v14 wq => ∃ (t : Nat), t ≤ 3 ∧ v14 = .int .i64 (t : Int) ∧ v13 = .int .i64 (kTo F t) ∧ wq = xs) (fun _ v14 _ => 3 - (intOf v14).toNat)
          case atStart => exact ⟨0, Nat.zero_le _, rfl, rfl, rfl⟩
          case round =>
            obtain ⟨t, ht3, rfl, rfl, rfl⟩ := hrel
            by_cases hlt : t < 3
            · have e1 : bits .and .i64 (F / 2 ^ t) 1 = F / 2 ^ t % 2 := and_1 _
              by_cases hb : F / 2 ^ t % 2 = 1
              · rw [hb] at e1
                have ek : kTo F (t + 1) = (t : Int) := by show (if _ then _ else _) = _; rw [if_pos hb]
                have EKK := hide ek
                clear ek hb
                go_wp2_with fail
                refine ⟨⟨t + 1, by omega, by go_num, by rw [EKK.out], trivial⟩, by simp [intOf]; omega⟩
              · have e0 : F / 2 ^ t % 2 = 0 := by omega
                rw [e0] at e1
                have ek : kTo F (t + 1) = kTo F t := by show (if _ then _ else _) = _; rw [if_neg hb]
                have EKK := hide ek
                clear ek hb e0
                go_wp2_with fail
                refine ⟨⟨t + 1, by omega, by go_num, by rw [EKK.out], trivial⟩, by simp [intOf]; omega⟩
            · obtain rfl : t = 3 := by omega
              rw [HK.out]
              have r3 := sy_reg S7.out 3 rfl
              have r4 := sy_reg S7.out 4 rfl
              have r5 := sy_reg S7.out 5 rfl
              have l7 := sy_ltg S7.out
              go_wp2_with (first
                | (refine at_load rfl (.tmp 10) rfl ?_; refine load_sy rfl (.tmp 10) rfl S7.out rfl rfl ?_)
                | (go_at_call 13; rw [show (9536 + (k : Int)) = 8192 + ((1344 + k : Nat) : Int) by omega]; refine (sy_step S7.out G2.out).mono ?_; rintro e w8 ⟨rfl, h8⟩; have S8 := hide h8; clear h8 S7 G2 r3 r4 r5 l7))
              all_goals first | (go_ret; exact ⟨rfl, (sy_below S8.out).alloc (sy_below S8.out).size _⟩) | (exfalso; simp_all; done) | (exfalso; omega) | trace_state
end Go.Proofs.YtoijhhbiknhlnaaGreatDoor
