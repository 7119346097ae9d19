/- Texts put together. -/
import Derived.Test.YtoijhhbiknhlnaaGreatDoorCpuCallsJ44
import Derived.Test.YtoijhhbiknhlnaaGreatDoorCpuCallsJ02
import Derived.Test.YtoijhhbiknhlnaaGreatDoorCpuCallsJ01
import Derived.Test.YtoijhhbiknhlnaaGreatDoorCpuCallsJ05
namespace Go.Proofs.YtoijhhbiknhlnaaGreatDoor.L25
set_option maxRecDepth 20000
open A2 B4 C3 G6 I11 J23 K9 L24 M5 N8 O7 P22 R15 T10 V12 W13
open Go.RowKit
set_option linter.unusedVariables false
def HasC (w : World) (b v c d : Nat) (bs : List Int) (Y : Nat → Nat → Int) (M : Nat → Int) : Prop := ∃ R0 f0 l0 c0, HasM w b v c d bs (cz Y M R0 f0 l0 c0)
theorem HasC.next {w w' : World} {b v c d : Nat} {bs : List Int} {Y : Nat → Nat → Int} {M : Nat → Int} (h : HasC w b v c d bs Y M) (k : Below w.heap.size w w') : HasC w' b v c d bs Y M := by
  obtain ⟨R0, f0, l0, c0, h⟩ := h
  exact ⟨R0, f0, l0, c0, h.next k⟩
def Calm (Y : Nat → Nat → Int) : Prop := Y 9 1 = 248 ∧ setZ Y = Y ∧ Y 13 0 = 0 ∧ Y 13 1 = 0
def Goes (bs : List Int) (Y : Nat → Nat → Int) (M : Nat → Int) (a x y s p : Int) (q : Nat) (f : Bool) (l : Int) (M' : Nat → Int) (a' x' y' s' p' : Int) (q' : Nat) (f' : Bool) (l' cy : Int) : Prop :=
  ∀ (w : World) (b v c d : Nat), HasC w b v c d bs Y M → Calls Tryz.prog 13 #[.agg #[.int .i64 a, .int .i64 x, .int .i64 y, .int .i64 s, .int .i64 p, .int .i64 (8192 + (q : Int)), .bool f, .int .i64 l], .pointer (some ⟨b, 0, none⟩)] w fun e w' => e = Ending.returned (.tuple #[.agg #[.int .i64 a', .int .i64 x', .int .i64 y', .int .i64 s', .int .i64 p', .int .i64 (8192 + (q' : Int)), .bool f', .int .i64 l'], .int .i64 cy]) ∧ HasC w' b v c d bs Y M' ∧ OnlyE (EX b v) w w'
theorem goes_of {bs : List Int} {Y : Nat → Nat → Int} {M M' : Nat → Int} {a x y s p a' x' y' s' p' l l' cy : Int} {q q' n : Nat} {f f' : Bool} (hY : Calm Y) (ha : IsByte a) (hx : IsByte x) (hy : IsByte y) (hs : IsByte s) (hp : IsByte p) (hq : q + 7 ≤ 8192) (hN : M q = (n : Int)) (hn : n < 256) (hm : hasPt (modeOf n) = false) {ZZ : Nat → Nat → Int}
    (hdo : DoZ bs (nameOf n) (iC M (rg a x y s p (8192 + (q : Int))) q n) (beh M (q + 1) (lenOf n - 1).toNat) (hasF p 32) (cz Y M (rg a x y s (anP p 32) (8192 + (q : Int) + lenOf n)) (b2i f) l (cycOf n)) ZZ)
    (hz : ZZ = cz Y M' (rg a' x' y' s' p' (8192 + (q' : Int))) (b2i f') l' cy) : Goes bs Y M a x y s p q f l M' a' x' y' s' p' q' f' l' cy := by
  intro w b v c d ⟨R0, f0, l0, c0, h⟩
  obtain ⟨h9, hs1, h0, h1⟩ := hY
  have k := step_cz h h9 hs1 0 (R := rg a x y s p (8192 + (q : Int))) (rg_cut ha hx hy hs hp (by omega)) f l (fun w hw => by rw [h0, h1]; exact pick_zero _ w hw) (q := q) (n := n) rfl hq hN hn hm (ZZ := ZZ) (by
    rw [rg_up5, rg_up4]
    exact hdo)
  subst hz
  have e : core8 (cz Y M' (rg a' x' y' s' p' (8192 + (q' : Int))) (b2i f') l' cy) = #[.int .i64 a', .int .i64 x', .int .i64 y', .int .i64 s', .int .i64 p', .int .i64 (8192 + (q' : Int)), .bool f', .int .i64 l'] := by
    unfold core8
    rw [cz_20, cz_21, cz_22]
    show #[_, _, _, _, _, _, Value.bool (isB (b2i f')), _] = _
    rw [isB_b2i]
    rfl
  rw [e] at k
  exact k.mono fun e w' ⟨r, m, o⟩ => ⟨r, ⟨_, _, _, _, m⟩, o⟩
theorem jn_z {z : Nat} (hz : z < 256) : jn (z : Int) 0 = z := by
  unfold jn
  omega
end Go.Proofs.YtoijhhbiknhlnaaGreatDoor.L25
namespace Go.Proofs.YtoijhhbiknhlnaaGreatDoor.L25
set_option maxRecDepth 20000
open A2 B4 C3 G6 I11 J23 K9 L24 M5 N8 O7 P22 R15 T10 V12 W13
open Go.RowKit
set_option linter.unusedVariables false
theorem pc1 (q : Nat) : (8192 + (q : Int) + 1) = 8192 + ((q + 1 : Nat) : Int) := by omega
theorem pc2 (q : Nat) : (8192 + (q : Int) + 2) = 8192 + ((q + 2 : Nat) : Int) := by omega
theorem i2_0 {M R : Nat → Int} {q n : Nat} (hm : modeOf n = 2) (hl : lenOf n = 2) (hc : cycOf n = 2) {z : Nat} (hz : z < 256) (h1 : M (q + 1) = (z : Int)) : iC M R q n 0 = 2 := hm
theorem i2_3 {M R : Nat → Int} {q n : Nat} (hm : modeOf n = 2) (hl : lenOf n = 2) (hc : cycOf n = 2) {z : Nat} (hz : z < 256) (h1 : M (q + 1) = (z : Int)) : iC M R q n 3 = (z : Int) := by
  unfold iC
  rw [hm, hl]
  show jn (M (q + 1)) 0 = _
  rw [h1, jn_z hz]
theorem go_lda_i {bs : List Int} {Y : Nat → Nat → Int} {M : Nat → Int} {a x y s p l : Int} {q n : Nat} {f : Bool} (hY : Calm Y) (ha : IsByte a) (hx : IsByte x) (hy : IsByte y) (hs : IsByte s) (hp : IsByte p) (hq : q + 7 ≤ 8192) (hN : M q = (n : Int)) (hn : n < 256) (hm : modeOf n = 2) (hl : lenOf n = 2) (hc : cycOf n = 2) {z : Nat} (hz : z < 256) (h1 : M (q + 1) = (z : Int)) (hd : ∀ {bs : List Int} {I B : Nat → Int} {t : Bool} {Z : Nat → Nat → Int}, (I 0 = 2 → IsByte (I 3)) → DoZ bs (nameOf n) I B t Z (ldS (mS I Z) 0 (mV bs I Z))) : Goes bs Y M a x y s p q f l M z x y s (nzOf (anP p 32) z) (q + 2) f l 2 := by
  have i0 := i2_0 (R := rg a x y s p (8192 + (q : Int))) hm hl hc hz h1
  have i3 := i2_3 (R := rg a x y s p (8192 + (q : Int))) hm hl hc hz h1
  refine goes_of hY ha hx hy hs hp hq hN hn (by rw [hm]; rfl) (hd (fun _ => by rw [i3]; unfold IsByte; omega)) ?_
  unfold ldS mS mV
  rw [if_pos i0, if_pos i0, i3, cz_20, cz_setR, cz_setR, hl, hc, pc2]
  rw [rg_up0, rg_up4]
  rfl
theorem go_ldx_i {bs : List Int} {Y : Nat → Nat → Int} {M : Nat → Int} {a x y s p l : Int} {q n : Nat} {f : Bool} (hY : Calm Y) (ha : IsByte a) (hx : IsByte x) (hy : IsByte y) (hs : IsByte s) (hp : IsByte p) (hq : q + 7 ≤ 8192) (hN : M q = (n : Int)) (hn : n < 256) (hm : modeOf n = 2) (hl : lenOf n = 2) (hc : cycOf n = 2) {z : Nat} (hz : z < 256) (h1 : M (q + 1) = (z : Int)) (hd : ∀ {bs : List Int} {I B : Nat → Int} {t : Bool} {Z : Nat → Nat → Int}, (I 0 = 2 → IsByte (I 3)) → DoZ bs (nameOf n) I B t Z (ldS (mS I Z) 1 (mV bs I Z))) : Goes bs Y M a x y s p q f l M a z y s (nzOf (anP p 32) z) (q + 2) f l 2 := by
  have i0 := i2_0 (R := rg a x y s p (8192 + (q : Int))) hm hl hc hz h1
  have i3 := i2_3 (R := rg a x y s p (8192 + (q : Int))) hm hl hc hz h1
  refine goes_of hY ha hx hy hs hp hq hN hn (by rw [hm]; rfl) (hd (fun _ => by rw [i3]; unfold IsByte; omega)) ?_
  unfold ldS mS mV
  rw [if_pos i0, if_pos i0, i3, cz_20, cz_setR, cz_setR, hl, hc, pc2]
  rw [rg_up1, rg_up4]
  rfl
theorem go_tax {bs : List Int} {Y : Nat → Nat → Int} {M : Nat → Int} {a x y s p l : Int} {q n : Nat} {f : Bool} (hY : Calm Y) (ha : IsByte a) (hx : IsByte x) (hy : IsByte y) (hs : IsByte s) (hp : IsByte p) (hq : q + 7 ≤ 8192) (hN : M q = (n : Int)) (hn : n < 256) (hm : modeOf n = 0) (hl : lenOf n = 1) (hc : cycOf n = 2) (hd : ∀ {bs : List Int} {I B : Nat → Int} {t : Bool} {Z : Nat → Nat → Int}, DoZ bs (nameOf n) I B t Z (ldS Z 1 (Z 20 0))) : Goes bs Y M a x y s p q f l M a a y s (nzOf (anP p 32) a) (q + 1) f l 2 := by
  refine goes_of hY ha hx hy hs hp hq hN hn (by rw [hm]; rfl) hd ?_
  unfold ldS
  rw [cz_20, cz_setR, cz_setR, hl, hc, pc1, rg_up1, rg_up4]
  rfl
def dn (k : Nat) : Nat := (k + 255) % 256
def un (k : Nat) : Nat := (k + 1) % 256
theorem dn_in (k : Nat) : dn k < 256 := Nat.mod_lt _ (by decide)
theorem un_in (k : Nat) : un k < 256 := Nat.mod_lt _ (by decide)
theorem dn_is (k : Nat) : ((k : Int) - 1) % 256 = (dn k : Int) := by unfold dn; omega
theorem un_is (k : Nat) : ((k : Int) + 1) % 256 = (un k : Int) := by unfold un; omega
theorem un_dn {k : Nat} (hk : k < 256) : un (dn k) = k := by unfold un dn; omega
theorem cz_psS {Y : Nat → Nat → Int} {M : Nat → Int} {a x y p pc f l c : Int} {k : Nat} (hY : Calm Y) (hk : k < 256) (hc : 0 ≤ c ∧ c < 1000000) (v : Int) : psS (cz Y M (rg a x y (k : Int) p pc) f l c) v = cz Y (up M (256 + k) (v % 256)) (rg a x y (dn k : Int) p pc) f l c := by
  unfold psS
  rw [cz_20, show rg a x y (k : Int) p pc 3 = (k : Int) from rfl, cz_wS hY.1 (k := 256 + k) (by omega) (by omega) hc, cz_setR, rg_up3, dn_is]
theorem cz_plV {Y : Nat → Nat → Int} {M : Nat → Int} {a x y p pc f l c : Int} {k : Nat} (bs : List Int) (hY : Calm Y) (hk : k < 256) : plV bs (cz Y M (rg a x y (k : Int) p pc) f l c) = M (256 + un k) := by
  have u := un_in k
  unfold plV plZ
  rw [cz_20, show rg a x y (k : Int) p pc 3 = (k : Int) from rfl, un_is, cz_setR]
  exact cz_rV bs hY.1 (by omega) (by omega)
theorem cz_plS {Y : Nat → Nat → Int} {M : Nat → Int} {a x y p pc f l c : Int} {k : Nat} (hY : Calm Y) (hk : k < 256) (hc : 0 ≤ c ∧ c < 1000000) : plS (cz Y M (rg a x y (k : Int) p pc) f l c) = cz Y M (rg a x y (un k : Int) p pc) f l c := by
  have u := un_in k
  unfold plS plZ
  rw [cz_20, show rg a x y (k : Int) p pc 3 = (k : Int) from rfl, un_is, cz_setR, rg_up3]
  exact cz_rS hY.1 (k := 256 + un k) (by omega) (by omega) hc
theorem go_pha {bs : List Int} {Y : Nat → Nat → Int} {M : Nat → Int} {a x y p l : Int} {q n k : Nat} {f : Bool} (hY : Calm Y) (ha : IsByte a) (hx : IsByte x) (hy : IsByte y) (hk : k < 256) (hp : IsByte p) (hq : q + 7 ≤ 8192) (hN : M q = (n : Int)) (hn : n < 256) (hm : modeOf n = 0) (hl : lenOf n = 1) (hc : cycOf n = 3) (hd : ∀ {bs : List Int} {I B : Nat → Int} {t : Bool} {Z : Nat → Nat → Int}, DoZ bs (nameOf n) I B t Z (psS Z (Z 20 0))) : Goes bs Y M a x y k p q f l (up M (256 + k) (a % 256)) a x y (dn k) (anP p 32) (q + 1) f l 3 := by
  refine goes_of hY ha hx hy (show IsByte (k : Int) by unfold IsByte; omega) hp hq hN hn (by rw [hm]; rfl) hd ?_
  rw [cz_psS hY hk (by rw [hc]; decide), hl, hc, pc1]
  rfl
theorem go_phx {bs : List Int} {Y : Nat → Nat → Int} {M : Nat → Int} {a x y p l : Int} {q n k : Nat} {f : Bool} (hY : Calm Y) (ha : IsByte a) (hx : IsByte x) (hy : IsByte y) (hk : k < 256) (hp : IsByte p) (hq : q + 7 ≤ 8192) (hN : M q = (n : Int)) (hn : n < 256) (hm : modeOf n = 0) (hl : lenOf n = 1) (hc : cycOf n = 3) (hd : ∀ {bs : List Int} {I B : Nat → Int} {t : Bool} {Z : Nat → Nat → Int}, DoZ bs (nameOf n) I B t Z (psS Z (Z 20 1))) : Goes bs Y M a x y k p q f l (up M (256 + k) (x % 256)) a x y (dn k) (anP p 32) (q + 1) f l 3 := by
  refine goes_of hY ha hx hy (show IsByte (k : Int) by unfold IsByte; omega) hp hq hN hn (by rw [hm]; rfl) hd ?_
  rw [cz_psS hY hk (by rw [hc]; decide), hl, hc, pc1]
  rfl
theorem go_pla {bs : List Int} {Y : Nat → Nat → Int} {M : Nat → Int} {a x y p l : Int} {q n k : Nat} {f : Bool} (hY : Calm Y) (ha : IsByte a) (hx : IsByte x) (hy : IsByte y) (hk : k < 256) (hp : IsByte p) (hq : q + 7 ≤ 8192) (hN : M q = (n : Int)) (hn : n < 256) (hm : modeOf n = 0) (hl : lenOf n = 1) (hc : cycOf n = 4) (hd : ∀ {bs : List Int} {I B : Nat → Int} {t : Bool} {Z : Nat → Nat → Int}, DoZ bs (nameOf n) I B t Z (ldS (plS Z) 0 (plV bs Z))) : Goes bs Y M a x y k p q f l M (M (256 + un k)) x y (un k) (nzOf (anP p 32) (M (256 + un k))) (q + 1) f l 4 := by
  refine goes_of hY ha hx hy (show IsByte (k : Int) by unfold IsByte; omega) hp hq hN hn (by rw [hm]; rfl) hd ?_
  rw [cz_plV bs hY hk, cz_plS hY hk (by rw [hc]; decide)]
  unfold ldS
  rw [cz_20, cz_setR, cz_setR, rg_up0, rg_up4, hl, hc, pc1]
  rfl
theorem go_plx {bs : List Int} {Y : Nat → Nat → Int} {M : Nat → Int} {a x y p l : Int} {q n k : Nat} {f : Bool} (hY : Calm Y) (ha : IsByte a) (hx : IsByte x) (hy : IsByte y) (hk : k < 256) (hp : IsByte p) (hq : q + 7 ≤ 8192) (hN : M q = (n : Int)) (hn : n < 256) (hm : modeOf n = 0) (hl : lenOf n = 1) (hc : cycOf n = 4) (hd : ∀ {bs : List Int} {I B : Nat → Int} {t : Bool} {Z : Nat → Nat → Int}, DoZ bs (nameOf n) I B t Z (ldS (plS Z) 1 (plV bs Z))) : Goes bs Y M a x y k p q f l M a (M (256 + un k)) y (un k) (nzOf (anP p 32) (M (256 + un k))) (q + 1) f l 4 := by
  refine goes_of hY ha hx hy (show IsByte (k : Int) by unfold IsByte; omega) hp hq hN hn (by rw [hm]; rfl) hd ?_
  rw [cz_plV bs hY hk, cz_plS hY hk (by rw [hc]; decide)]
  unfold ldS
  rw [cz_20, cz_setR, cz_setR, rg_up1, rg_up4, hl, hc, pc1]
  rfl
theorem go_jsr {bs : List Int} {Y : Nat → Nat → Int} {M : Nat → Int} {a x y p l : Int} {q n k : Nat} {f : Bool} (hY : Calm Y) (ha : IsByte a) (hx : IsByte x) (hy : IsByte y) (hk : k < 256) (hp : IsByte p) (hq : q + 7 ≤ 8192) (hN : M q = (n : Int)) (hn : n < 256) (hm : modeOf n = 9) (hl : lenOf n = 3) (hc : cycOf n = 7) {q' : Nat} (h1 : jn (M (q + 1)) (M (q + 2)) = 8192 + (q' : Int)) (hq' : q' < 8192) (hd : ∀ {bs : List Int} {I B : Nat → Int} {t : Bool} {Z : Nat → Nat → Int}, (0 ≤ I 6 ∧ I 6 < 65536) → DoZ bs (nameOf n) I B t Z (jsS I Z)) : Goes bs Y M a x y k p q f l (up (up M (256 + k) ((8192 + (q : Int) + 2) / 256 % 256 % 256)) (256 + dn k) ((8192 + (q : Int) + 2) % 256 % 256)) a x y (dn (dn k)) (anP p 32) q' f l 7 := by
  have i6 : iC M (rg a x y (k : Int) p (8192 + (q : Int))) q n 6 = 8192 + (q' : Int) := by
    unfold iC
    rw [hm, hl]
    show wOf (jn (M (q + 1)) (M (q + 2))) 0 = _
    rw [h1]
    unfold wOf
    omega
  refine goes_of hY ha hx hy (show IsByte (k : Int) by unfold IsByte; omega) hp hq hN hn (by rw [hm]; rfl) (hd (by rw [i6]; omega)) ?_
  unfold jsS pwS
  rw [cz_20, show rg a x y (k : Int) (anP p 32) (8192 + (q : Int) + lenOf n) 5 - 1 = 8192 + (q : Int) + 2 by rw [hl]; show 8192 + (q : Int) + 3 - 1 = _; omega, cz_psS hY hk (by rw [hc]; decide), cz_psS hY (dn_in k) (by rw [hc]; decide), cz_setR, rg_up5, i6, hc]
theorem go_rts {bs : List Int} {Y : Nat → Nat → Int} {M : Nat → Int} {a x y p l : Int} {q n k : Nat} {f : Bool} (hY : Calm Y) (ha : IsByte a) (hx : IsByte x) (hy : IsByte y) (hk : k < 256) (hp : IsByte p) (hq : q + 7 ≤ 8192) (hN : M q = (n : Int)) (hn : n < 256) (hm : modeOf n = 0) (hl : lenOf n = 1) (hc : cycOf n = 7) {q' : Nat} (h1 : jn (M (256 + un k)) (M (256 + un (un k))) + 1 = 8192 + (q' : Int)) (hq' : q' < 8192) (hd : ∀ {bs : List Int} {I B : Nat → Int} {t : Bool} {Z : Nat → Nat → Int}, DoZ bs (nameOf n) I B t Z (rsS bs Z)) : Goes bs Y M a x y k p q f l M a x y (un (un k)) (anP p 32) q' f l 7 := by
  refine goes_of hY ha hx hy (show IsByte (k : Int) by unfold IsByte; omega) hp hq hN hn (by rw [hm]; rfl) hd ?_
  unfold rsS plW
  rw [cz_plV bs hY hk, cz_plS hY hk (by rw [hc]; decide), cz_plV bs hY (un_in k), cz_plS hY (un_in k) (by rw [hc]; decide), h1, cz_setR, rg_up5, hc, show (8192 + (q' : Int)) % 65536 = 8192 + (q' : Int) by omega]
end Go.Proofs.YtoijhhbiknhlnaaGreatDoor.L25
namespace Go.Proofs.YtoijhhbiknhlnaaGreatDoor.D24
set_option maxRecDepth 20000
open Go.RowKit
set_option linter.unusedVariables false
def ylens : List Nat := [1, 1, 1, 1, 8, 21, 1, 256, 1, 1, 1, 514, 244, 4, 1, 1, 4, 10, 1]
def IsY (L : List (Nat × (Nat → Value))) : Prop := L.map Prod.fst = ylens
theorem IsY.off {L : List (Nat × (Nat → Value))} (h : IsY L) (k : Nat) {a : Nat} (ha : (ylens.take k).sum = a) : soff L k = a := off_of h k ha
theorem IsY.set {L : List (Nat × (Nat → Value))} (h : IsY L) {k n : Nat} {f : Nat → Value} (hk : L[k]? = some (n, f)) (f' : Nat → Value) : IsY (L.set k (n, f')) := lens_set h hk f'
end Go.Proofs.YtoijhhbiknhlnaaGreatDoor.D24
namespace Go.Proofs.YtoijhhbiknhlnaaGreatDoor.D24
set_option maxRecDepth 20000
open W13
open Go.RowKit
set_option linter.unusedVariables false
def HasY (w : World) (b c d r : Nat) (L : List (Nat × (Nat → Value))) (f : Nat → Int) (wr rd st lo bu : Int) (ram : Nat → Int) : Prop :=
  HasF 141 w b 1072 (segs L) ∧ HasR w c d f wr rd st lo bu ∧ HasF 3 w r 8192 (iv ram) ∧ IsY L ∧ L[6]? = some (1, fun _ => .pointer (some ⟨c, 0, none⟩)) ∧ L[3]? = some (1, fun _ => .slice (some ⟨r, 0, none⟩) 8192 8192) ∧ (b ≠ c ∧ b ≠ d ∧ b ≠ r ∧ c ≠ r ∧ d ≠ r)
theorem HasY.next {w : World} {b c d r : Nat} {L : List (Nat × (Nat → Value))} {f : Nat → Int} {wr rd st lo bu : Int} {ram : Nat → Int} (h : HasY w b c d r L f wr rd st lo bu ram) {w' : World} (k : Below w.heap.size w w') : HasY w' b c d r L f wr rd st lo bu ram := ⟨h.1.next k, h.2.1.next k, h.2.2.1.next k, h.2.2.2⟩
theorem HasY.row {w : World} {b c d r : Nat} {L : List (Nat × (Nat → Value))} {f : Nat → Int} {wr rd st lo bu : Int} {ram : Nat → Int} (h : HasY w b c d r L f wr rd st lo bu ram) {w' : World} {L' : List (Nat × (Nat → Value))} (k : But b w w') (h' : HasF 141 w' b 1072 (segs L')) (y : IsY L') (y6 : L'[6]? = L[6]?) (y3 : L'[3]? = L[3]?) : HasY w' b c d r L' f wr rd st lo bu ram :=
  ⟨h', ⟨k.obj h.2.1.1 (fun e => h.2.2.2.2.2.2.1 e.symm), k.obj h.2.1.2.1 (fun e => h.2.2.2.2.2.2.2.1 e.symm), h.2.1.2.2⟩, k.keep h.2.2.1 (fun e => h.2.2.2.2.2.2.2.2.1 e.symm), y, y6.trans h.2.2.2.2.1, y3.trans h.2.2.2.2.2.1, h.2.2.2.2.2.2⟩
end Go.Proofs.YtoijhhbiknhlnaaGreatDoor.D24
