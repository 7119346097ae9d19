/- Texts put together. -/
import Derived.Test.YtoijhhbiknhlnaaGreatDoorCpuCountsJ45
import Derived.Test.YtoijhhbiknhlnaaGreatDoorCpuCountsJ02
import Derived.Test.YtoijhhbiknhlnaaGreatDoorCpuCountsJ01
import Derived.Test.YtoijhhbiknhlnaaGreatDoorCpuCountsJ05
namespace Go.Proofs.YtoijhhbiknhlnaaGreatDoor.L25
set_option maxRecDepth 20000
open A2 B4 C3 G6 I11 J23 K9 L24 M5 N8 O7 P22 R15 T10 V12 W13
open Go.RowKit
set_option linter.unusedVariables false
def HasC (w : World) (b v c d : Nat) (bs : List Int) (Y : Nat → Nat → Int) (M : Nat → Int) : Prop := ∃ R0 f0 l0 c0, HasM w b v c d bs (cz Y M R0 f0 l0 c0)
theorem HasC.next {w w' : World} {b v c d : Nat} {bs : List Int} {Y : Nat → Nat → Int} {M : Nat → Int} (h : HasC w b v c d bs Y M) (k : Below w.heap.size w w') : HasC w' b v c d bs Y M := by
  obtain ⟨R0, f0, l0, c0, h⟩ := h
  exact ⟨R0, f0, l0, c0, h.next k⟩
def Calm (Y : Nat → Nat → Int) : Prop := Y 9 1 = 248 ∧ setZ Y = Y ∧ Y 13 0 = 0 ∧ Y 13 1 = 0
def Goes (bs : List Int) (Y : Nat → Nat → Int) (M : Nat → Int) (a x y s p : Int) (q : Nat) (f : Bool) (l : Int) (M' : Nat → Int) (a' x' y' s' p' : Int) (q' : Nat) (f' : Bool) (l' cy : Int) : Prop :=
  ∀ (w : World) (b v c d : Nat), HasC w b v c d bs Y M → Calls Tryz.prog 13 #[.agg #[.int .i64 a, .int .i64 x, .int .i64 y, .int .i64 s, .int .i64 p, .int .i64 (8192 + (q : Int)), .bool f, .int .i64 l], .pointer (some ⟨b, 0, none⟩)] w fun e w' => e = Ending.returned (.tuple #[.agg #[.int .i64 a', .int .i64 x', .int .i64 y', .int .i64 s', .int .i64 p', .int .i64 (8192 + (q' : Int)), .bool f', .int .i64 l'], .int .i64 cy]) ∧ HasC w' b v c d bs Y M' ∧ OnlyE (EX b v) w w'
theorem goes_of {bs : List Int} {Y : Nat → Nat → Int} {M M' : Nat → Int} {a x y s p a' x' y' s' p' l l' cy : Int} {q q' n : Nat} {f f' : Bool} (hY : Calm Y) (ha : IsByte a) (hx : IsByte x) (hy : IsByte y) (hs : IsByte s) (hp : IsByte p) (hq : q + 7 ≤ 8192) (hN : M q = (n : Int)) (hn : n < 256) (hm : hasPt (modeOf n) = false) {ZZ : Nat → Nat → Int}
    (hdo : DoZ bs (nameOf n) (iC M (rg a x y s p (8192 + (q : Int))) q n) (beh M (q + 1) (lenOf n - 1).toNat) (hasF p 32) (cz Y M (rg a x y s (anP p 32) (8192 + (q : Int) + lenOf n)) (b2i f) l (cycOf n)) ZZ)
    (hz : ZZ = cz Y M' (rg a' x' y' s' p' (8192 + (q' : Int))) (b2i f') l' cy) : Goes bs Y M a x y s p q f l M' a' x' y' s' p' q' f' l' cy := by
  intro w b v c d ⟨R0, f0, l0, c0, h⟩
  obtain ⟨h9, hs1, h0, h1⟩ := hY
  have k := step_cz h h9 hs1 0 (R := rg a x y s p (8192 + (q : Int))) (rg_cut ha hx hy hs hp (by omega)) f l (fun w hw => by rw [h0, h1]; exact pick_zero _ w hw) (q := q) (n := n) rfl hq hN hn hm (ZZ := ZZ) (by
    rw [rg_up5, rg_up4]
    exact hdo)
  subst hz
  have e : core8 (cz Y M' (rg a' x' y' s' p' (8192 + (q' : Int))) (b2i f') l' cy) = #[.int .i64 a', .int .i64 x', .int .i64 y', .int .i64 s', .int .i64 p', .int .i64 (8192 + (q' : Int)), .bool f', .int .i64 l'] := by
    unfold core8
    rw [cz_20, cz_21, cz_22]
    show #[_, _, _, _, _, _, Value.bool (isB (b2i f')), _] = _
    rw [isB_b2i]
    rfl
  rw [e] at k
  exact k.mono fun e w' ⟨r, m, o⟩ => ⟨r, ⟨_, _, _, _, m⟩, o⟩
theorem go_br_yes {bs : List Int} {Y : Nat → Nat → Int} {M : Nat → Int} {a x y s p l : Int} {q n : Nat} {f : Bool} (hY : Calm Y) (ha : IsByte a) (hx : IsByte x) (hy : IsByte y) (hs : IsByte s) (hp : IsByte p) (hq : q + 7 ≤ 8192) (hN : M q = (n : Int)) (hn : n < 256) (hm : modeOf n = 14) (hl : lenOf n = 2) (hc : cycOf n = 2) (fl : Int) (asked : Bool) (hd : ∀ {bs : List Int} {I B : Nat → Int} {t : Bool} {Z : Nat → Nat → Int}, DoZ bs (nameOf n) I B t Z (brS I (hasF (Z 20 4) fl) asked Z)) (on : hasF (anP p 32) fl = asked) {q' : Nat} (e : (q' : Int) = q + 2 + signOf (M (q + 1))) (hq' : q' < 8192) : Goes bs Y M a x y s p q f l M a x y s (anP p 32) q' f l 4 := by
  refine goes_of hY ha hx hy hs hp hq hN hn (by rw [hm]; rfl) hd ?_
  have on' : (hasF ((cz Y M (rg a x y s (anP p 32) (8192 + (q : Int) + lenOf n)) (b2i f) l (cycOf n)) 20 4) fl) = asked := on
  unfold brS
  rw [if_pos on']
  unfold gfS
  rw [cz_cyc, cz_20, cz_setR, rg_up5, hc, hl]
  have e1 : iC M (rg a x y s p (8192 + (q : Int))) q n 5 = M (q + 1) := by
    unfold iC
    rw [hm, hl]
    rfl
  have e2 : wOf (rg a x y s (anP p 32) (8192 + (q : Int) + 2) 5) (signOf (iC M (rg a x y s p (8192 + (q : Int))) q n 5)) = 8192 + (q' : Int) := by
    rw [e1]
    show (8192 + (q : Int) + 2 + signOf (M (q + 1))) % 65536 = _
    omega
  rw [e2, show wrap64 (2 + 2) = 4 by unfold wrap64; omega]
theorem go_br_no {bs : List Int} {Y : Nat → Nat → Int} {M : Nat → Int} {a x y s p l : Int} {q n : Nat} {f : Bool} (hY : Calm Y) (ha : IsByte a) (hx : IsByte x) (hy : IsByte y) (hs : IsByte s) (hp : IsByte p) (hq : q + 7 ≤ 8192) (hN : M q = (n : Int)) (hn : n < 256) (hm : modeOf n = 14) (hl : lenOf n = 2) (hc : cycOf n = 2) (fl : Int) (asked : Bool) (hd : ∀ {bs : List Int} {I B : Nat → Int} {t : Bool} {Z : Nat → Nat → Int}, DoZ bs (nameOf n) I B t Z (brS I (hasF (Z 20 4) fl) asked Z)) (on : ¬ hasF (anP p 32) fl = asked) : Goes bs Y M a x y s p q f l M a x y s (anP p 32) (q + 2) f l 2 := by
  refine goes_of hY ha hx hy hs hp hq hN hn (by rw [hm]; rfl) hd ?_
  have on' : ¬ (hasF ((cz Y M (rg a x y s (anP p 32) (8192 + (q : Int) + lenOf n)) (b2i f) l (cycOf n)) 20 4) fl) = asked := on
  unfold brS
  rw [if_neg on', hc, hl]
  rw [show (8192 + (q : Int) + 2) = 8192 + ((q + 2 : Nat) : Int) by omega]
theorem jn_z {z : Nat} (hz : z < 256) : jn (z : Int) 0 = z := by
  unfold jn
  omega
theorem zO_z {z : Nat} (hz : z < 256) : zOf (z : Int) 0 = 8192 + (z : Int) := by
  unfold zOf
  omega
theorem i3_0 {M R : Nat → Int} {q n : Nat} (hm : modeOf n = 3) (hl : lenOf n = 2) {z : Nat} (hz : z < 256) (h1 : M (q + 1) = (z : Int)) : iC M R q n 0 = 3 := hm
theorem i3_6 {M R : Nat → Int} {q n : Nat} (hm : modeOf n = 3) (hl : lenOf n = 2) {z : Nat} (hz : z < 256) (h1 : M (q + 1) = (z : Int)) : iC M R q n 6 = 8192 + (z : Int) := by
  unfold iC
  rw [hm, hl]
  show zOf (jn (M (q + 1)) 0) 0 = _
  rw [h1, jn_z hz, zO_z hz]
theorem cz_mV {Y : Nat → Nat → Int} {M R : Nat → Int} {f l c : Int} (bs : List Int) (hY : Calm Y) {I : Nat → Int} {z : Nat} (hz : z < 8192) (h0 : I 0 ≠ 2) (h1 : I 0 ≠ 1) (h6 : I 6 = 8192 + (z : Int)) : mV bs I (cz Y M R f l c) = M z := by
  unfold mV
  rw [if_neg h0, if_neg h1]
  exact cz_rV bs hY.1 h6 hz
theorem cz_mS {Y : Nat → Nat → Int} {M R : Nat → Int} {f l c : Int} (hY : Calm Y) {I : Nat → Int} {z : Nat} (hz : z < 8192) (h0 : I 0 ≠ 2) (h1 : I 0 ≠ 1) (h6 : I 6 = 8192 + (z : Int)) (hc : 0 ≤ c ∧ c < 1000000) : mS I (cz Y M R f l c) = cz Y M R f l c := by
  unfold mS
  rw [if_neg h0, if_neg h1]
  exact cz_rS hY.1 h6 hz hc
end Go.Proofs.YtoijhhbiknhlnaaGreatDoor.L25
namespace Go.Proofs.YtoijhhbiknhlnaaGreatDoor.L25
set_option maxRecDepth 20000
open A2 B4 C3 G6 I11 J23 K9 L24 M5 N8 O7 P22 R15 T10 V12 W13
open Go.RowKit
set_option linter.unusedVariables false
theorem pc1 (q : Nat) : (8192 + (q : Int) + 1) = 8192 + ((q + 1 : Nat) : Int) := by omega
theorem pc2 (q : Nat) : (8192 + (q : Int) + 2) = 8192 + ((q + 2 : Nat) : Int) := by omega
theorem i2_0 {M R : Nat → Int} {q n : Nat} (hm : modeOf n = 2) (hl : lenOf n = 2) (hc : cycOf n = 2) {z : Nat} (hz : z < 256) (h1 : M (q + 1) = (z : Int)) : iC M R q n 0 = 2 := hm
theorem i2_3 {M R : Nat → Int} {q n : Nat} (hm : modeOf n = 2) (hl : lenOf n = 2) (hc : cycOf n = 2) {z : Nat} (hz : z < 256) (h1 : M (q + 1) = (z : Int)) : iC M R q n 3 = (z : Int) := by
  unfold iC
  rw [hm, hl]
  show jn (M (q + 1)) 0 = _
  rw [h1, jn_z hz]
theorem go_lda_i {bs : List Int} {Y : Nat → Nat → Int} {M : Nat → Int} {a x y s p l : Int} {q n : Nat} {f : Bool} (hY : Calm Y) (ha : IsByte a) (hx : IsByte x) (hy : IsByte y) (hs : IsByte s) (hp : IsByte p) (hq : q + 7 ≤ 8192) (hN : M q = (n : Int)) (hn : n < 256) (hm : modeOf n = 2) (hl : lenOf n = 2) (hc : cycOf n = 2) {z : Nat} (hz : z < 256) (h1 : M (q + 1) = (z : Int)) (hd : ∀ {bs : List Int} {I B : Nat → Int} {t : Bool} {Z : Nat → Nat → Int}, (I 0 = 2 → IsByte (I 3)) → DoZ bs (nameOf n) I B t Z (ldS (mS I Z) 0 (mV bs I Z))) : Goes bs Y M a x y s p q f l M z x y s (nzOf (anP p 32) z) (q + 2) f l 2 := by
  have i0 := i2_0 (R := rg a x y s p (8192 + (q : Int))) hm hl hc hz h1
  have i3 := i2_3 (R := rg a x y s p (8192 + (q : Int))) hm hl hc hz h1
  refine goes_of hY ha hx hy hs hp hq hN hn (by rw [hm]; rfl) (hd (fun _ => by rw [i3]; unfold IsByte; omega)) ?_
  unfold ldS mS mV
  rw [if_pos i0, if_pos i0, i3, cz_20, cz_setR, cz_setR, hl, hc, pc2]
  rw [rg_up0, rg_up4]
  rfl
theorem go_ldx_i {bs : List Int} {Y : Nat → Nat → Int} {M : Nat → Int} {a x y s p l : Int} {q n : Nat} {f : Bool} (hY : Calm Y) (ha : IsByte a) (hx : IsByte x) (hy : IsByte y) (hs : IsByte s) (hp : IsByte p) (hq : q + 7 ≤ 8192) (hN : M q = (n : Int)) (hn : n < 256) (hm : modeOf n = 2) (hl : lenOf n = 2) (hc : cycOf n = 2) {z : Nat} (hz : z < 256) (h1 : M (q + 1) = (z : Int)) (hd : ∀ {bs : List Int} {I B : Nat → Int} {t : Bool} {Z : Nat → Nat → Int}, (I 0 = 2 → IsByte (I 3)) → DoZ bs (nameOf n) I B t Z (ldS (mS I Z) 1 (mV bs I Z))) : Goes bs Y M a x y s p q f l M a z y s (nzOf (anP p 32) z) (q + 2) f l 2 := by
  have i0 := i2_0 (R := rg a x y s p (8192 + (q : Int))) hm hl hc hz h1
  have i3 := i2_3 (R := rg a x y s p (8192 + (q : Int))) hm hl hc hz h1
  refine goes_of hY ha hx hy hs hp hq hN hn (by rw [hm]; rfl) (hd (fun _ => by rw [i3]; unfold IsByte; omega)) ?_
  unfold ldS mS mV
  rw [if_pos i0, if_pos i0, i3, cz_20, cz_setR, cz_setR, hl, hc, pc2]
  rw [rg_up1, rg_up4]
  rfl
theorem go_lda_z {bs : List Int} {Y : Nat → Nat → Int} {M : Nat → Int} {a x y s p l : Int} {q n : Nat} {f : Bool} (hY : Calm Y) (ha : IsByte a) (hx : IsByte x) (hy : IsByte y) (hs : IsByte s) (hp : IsByte p) (hq : q + 7 ≤ 8192) (hN : M q = (n : Int)) (hn : n < 256) (hm : modeOf n = 3) (hl : lenOf n = 2) {z : Nat} (hz : z < 256) (h1 : M (q + 1) = (z : Int)) (hc : cycOf n = 4) (hd : ∀ {bs : List Int} {I B : Nat → Int} {t : Bool} {Z : Nat → Nat → Int}, (I 0 = 2 → IsByte (I 3)) → DoZ bs (nameOf n) I B t Z (ldS (mS I Z) 0 (mV bs I Z))) : Goes bs Y M a x y s p q f l M (M z) x y s (nzOf (anP p 32) (M z)) (q + 2) f l 4 := by
  have i0 := i3_0 (R := rg a x y s p (8192 + (q : Int))) hm hl hz h1
  have i6 := i3_6 (R := rg a x y s p (8192 + (q : Int))) hm hl hz h1
  refine goes_of hY ha hx hy hs hp hq hN hn (by rw [hm]; rfl) (hd (fun e => by rw [i0] at e; cases e)) ?_
  rw [cz_mV bs hY (show z < 8192 by omega) (by rw [i0]; decide) (by rw [i0]; decide) i6, cz_mS hY (show z < 8192 by omega) (by rw [i0]; decide) (by rw [i0]; decide) i6 (by rw [hc]; decide)]
  unfold ldS
  rw [cz_20, cz_setR, cz_setR, hl, hc, pc2, rg_up0, rg_up4]
  rfl
theorem go_inc_z {bs : List Int} {Y : Nat → Nat → Int} {M : Nat → Int} {a x y s p l : Int} {q n : Nat} {f : Bool} (hY : Calm Y) (ha : IsByte a) (hx : IsByte x) (hy : IsByte y) (hs : IsByte s) (hp : IsByte p) (hq : q + 7 ≤ 8192) (hN : M q = (n : Int)) (hn : n < 256) (hm : modeOf n = 3) (hl : lenOf n = 2) {z : Nat} (hz : z < 256) (h1 : M (q + 1) = (z : Int)) (hc : cycOf n = 6) (hd : ∀ {bs : List Int} {I B : Nat → Int} {t : Bool} {Z : Nat → Nat → Int}, DoZ bs (nameOf n) I B t Z (caS bs I 13 Z)) : Goes bs Y M a x y s p q f l (up M z (rkV 13 a (M z) (anP p 32) % 256)) a x y s (rkP 13 a (M z) (anP p 32)) (q + 2) f l 6 := by
  have i0 := i3_0 (R := rg a x y s p (8192 + (q : Int))) hm hl hz h1
  have i6 := i3_6 (R := rg a x y s p (8192 + (q : Int))) hm hl hz h1
  refine goes_of hY ha hx hy hs hp hq hN hn (by rw [hm]; rfl) hd ?_
  unfold caS chS rkS
  rw [cz_mV bs hY (show z < 8192 by omega) (by rw [i0]; decide) (by rw [i0]; decide) i6, cz_mS hY (show z < 8192 by omega) (by rw [i0]; decide) (by rw [i0]; decide) i6 (by rw [hc]; decide), cz_20, cz_setR, if_neg (by rw [i0]; decide), cz_wS hY.1 i6 (by omega) (by rw [hc]; decide), hl, hc, pc2, rg_up4]
  rfl
theorem go_dex {bs : List Int} {Y : Nat → Nat → Int} {M : Nat → Int} {a x y s p l : Int} {q n : Nat} {f : Bool} (hY : Calm Y) (ha : IsByte a) (hx : IsByte x) (hy : IsByte y) (hs : IsByte s) (hp : IsByte p) (hq : q + 7 ≤ 8192) (hN : M q = (n : Int)) (hn : n < 256) (hm : modeOf n = 0) (hl : lenOf n = 1) (hc : cycOf n = 2) (hd : ∀ {bs : List Int} {I B : Nat → Int} {t : Bool} {Z : Nat → Nat → Int}, DoZ bs (nameOf n) I B t Z (inS 14 1 Z)) : Goes bs Y M a x y s p q f l M a (rkV 14 0 x (anP p 32)) y s (rkP 14 0 x (anP p 32)) (q + 1) f l 2 := by
  refine goes_of hY ha hx hy hs hp hq hN hn (by rw [hm]; rfl) hd ?_
  unfold inS rkS
  rw [cz_20, cz_setR, cz_setR, hl, hc, pc1, rg_up4, rg_up1]
  rfl
def dn (k : Nat) : Nat := (k + 255) % 256
end Go.Proofs.YtoijhhbiknhlnaaGreatDoor.L25
namespace Go.Proofs.YtoijhhbiknhlnaaGreatDoor.D24
set_option maxRecDepth 20000
open Go.RowKit
set_option linter.unusedVariables false
def ylens : List Nat := [1, 1, 1, 1, 8, 21, 1, 256, 1, 1, 1, 514, 244, 4, 1, 1, 4, 10, 1]
def IsY (L : List (Nat × (Nat → Value))) : Prop := L.map Prod.fst = ylens
theorem IsY.off {L : List (Nat × (Nat → Value))} (h : IsY L) (k : Nat) {a : Nat} (ha : (ylens.take k).sum = a) : soff L k = a := off_of h k ha
theorem IsY.set {L : List (Nat × (Nat → Value))} (h : IsY L) {k n : Nat} {f : Nat → Value} (hk : L[k]? = some (n, f)) (f' : Nat → Value) : IsY (L.set k (n, f')) := lens_set h hk f'
end Go.Proofs.YtoijhhbiknhlnaaGreatDoor.D24
namespace Go.Proofs.YtoijhhbiknhlnaaGreatDoor.D24
set_option maxRecDepth 20000
open W13
open Go.RowKit
set_option linter.unusedVariables false
def HasY (w : World) (b c d r : Nat) (L : List (Nat × (Nat → Value))) (f : Nat → Int) (wr rd st lo bu : Int) (ram : Nat → Int) : Prop :=
  HasF 141 w b 1072 (segs L) ∧ HasR w c d f wr rd st lo bu ∧ HasF 3 w r 8192 (iv ram) ∧ IsY L ∧ L[6]? = some (1, fun _ => .pointer (some ⟨c, 0, none⟩)) ∧ L[3]? = some (1, fun _ => .slice (some ⟨r, 0, none⟩) 8192 8192) ∧ (b ≠ c ∧ b ≠ d ∧ b ≠ r ∧ c ≠ r ∧ d ≠ r)
theorem HasY.next {w : World} {b c d r : Nat} {L : List (Nat × (Nat → Value))} {f : Nat → Int} {wr rd st lo bu : Int} {ram : Nat → Int} (h : HasY w b c d r L f wr rd st lo bu ram) {w' : World} (k : Below w.heap.size w w') : HasY w' b c d r L f wr rd st lo bu ram := ⟨h.1.next k, h.2.1.next k, h.2.2.1.next k, h.2.2.2⟩
theorem HasY.row {w : World} {b c d r : Nat} {L : List (Nat × (Nat → Value))} {f : Nat → Int} {wr rd st lo bu : Int} {ram : Nat → Int} (h : HasY w b c d r L f wr rd st lo bu ram) {w' : World} {L' : List (Nat × (Nat → Value))} (k : But b w w') (h' : HasF 141 w' b 1072 (segs L')) (y : IsY L') (y6 : L'[6]? = L[6]?) (y3 : L'[3]? = L[3]?) : HasY w' b c d r L' f wr rd st lo bu ram :=
  ⟨h', ⟨k.obj h.2.1.1 (fun e => h.2.2.2.2.2.2.1 e.symm), k.obj h.2.1.2.1 (fun e => h.2.2.2.2.2.2.2.1 e.symm), h.2.1.2.2⟩, k.keep h.2.2.1 (fun e => h.2.2.2.2.2.2.2.2.1 e.symm), y, y6.trans h.2.2.2.2.1, y3.trans h.2.2.2.2.2.1, h.2.2.2.2.2.2⟩
end Go.Proofs.YtoijhhbiknhlnaaGreatDoor.D24
