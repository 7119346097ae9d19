/- Texts put together. -/
import Derived.Test.YtoijhhbiknhlnaaGreatDoorCpuBitsJ44
import Derived.Test.YtoijhhbiknhlnaaGreatDoorCpuBitsJ02
import Derived.Test.YtoijhhbiknhlnaaGreatDoorCpuBitsJ01
import Derived.Test.YtoijhhbiknhlnaaGreatDoorCpuBitsJ05
namespace Go.Proofs.YtoijhhbiknhlnaaGreatDoor.L25
set_option maxRecDepth 20000
open A2 B4 C3 G6 I11 J23 K9 L24 M5 N8 O7 P22 R15 T10 V12 W13
open Go.RowKit
set_option linter.unusedVariables false
def rg (a x y s p pc : Int) : Nat → Int := fun j => if j = 0 then a else if j = 1 then x else if j = 2 then y else if j = 3 then s else if j = 4 then p else if j = 5 then pc else 0
theorem rg_up4 (a x y s p pc z : Int) : up (rg a x y s p pc) 4 z = rg a x y s z pc := funext fun j => by by_cases h : j = 4 <;> simp [up, rg, h]
theorem rg_up5 (a x y s p pc z : Int) : up (rg a x y s p pc) 5 z = rg a x y s p z := funext fun j => by by_cases h : j = 5 <;> simp [up, rg, h]
theorem rg_cut {a x y s p pc : Int} (h0 : IsByte a) (h1 : IsByte x) (h2 : IsByte y) (h3 : IsByte s) (h4 : IsByte p) (h5 : 0 ≤ pc ∧ pc < 65536) : cutR (rg a x y s p pc) = rg a x y s p pc := funext fun j => by
  unfold IsByte at h0 h1 h2 h3 h4
  unfold cutR
  rcases j with _ | _ | _ | _ | _ | _ | j
  · exact Int.emod_eq_of_lt h0.1 (show a < 256 by omega)
  · exact Int.emod_eq_of_lt h1.1 (show x < 256 by omega)
  · exact Int.emod_eq_of_lt h2.1 (show y < 256 by omega)
  · exact Int.emod_eq_of_lt h3.1 (show s < 256 by omega)
  · exact Int.emod_eq_of_lt h4.1 (show p < 256 by omega)
  · exact Int.emod_eq_of_lt h5.1 h5.2
  · simp [rg]
def cz (Y : Nat → Nat → Int) (M R : Nat → Int) (f l c : Int) : Nat → Nat → Int := upZ (upZ (upZ (upZ (upZ Y 8 M) 20 R) 21 (oneV f)) 22 (oneV l)) 23 (oneV c)
theorem cz_8 {Y : Nat → Nat → Int} {M R : Nat → Int} {f l c : Int} : cz Y M R f l c 8 = M := rfl
theorem cz_9 {Y : Nat → Nat → Int} {M R : Nat → Int} {f l c : Int} : cz Y M R f l c 9 = Y 9 := rfl
theorem cz_13 {Y : Nat → Nat → Int} {M R : Nat → Int} {f l c : Int} : cz Y M R f l c 13 = Y 13 := rfl
theorem cz_20 {Y : Nat → Nat → Int} {M R : Nat → Int} {f l c : Int} : cz Y M R f l c 20 = R := rfl
theorem cz_21 {Y : Nat → Nat → Int} {M R : Nat → Int} {f l c : Int} : cz Y M R f l c 21 = oneV f := rfl
theorem cz_22 {Y : Nat → Nat → Int} {M R : Nat → Int} {f l c : Int} : cz Y M R f l c 22 = oneV l := rfl
theorem cz_23 {Y : Nat → Nat → Int} {M R : Nat → Int} {f l c : Int} : cz Y M R f l c 23 = oneV c := rfl
theorem cz_cyc {Y : Nat → Nat → Int} {M R : Nat → Int} {f l c : Int} (n : Int) : cyc (cz Y M R f l c) n = cz Y M R f l (wrap64 (c + n)) := by
  unfold cyc
  rw [cz_23]
  unfold cz
  rw [upZ_upZ]
  rfl
theorem cz_setR {Y : Nat → Nat → Int} {M R : Nat → Int} {f l c : Int} (k : Nat) (x : Int) : setR (cz Y M R f l c) k x = cz Y M (up R k x) f l c := by
  unfold setR
  rw [cz_20]
  unfold cz
  rw [upZ_comm _ 20 23 _ _ (by decide), upZ_comm _ 20 22 _ _ (by decide), upZ_comm _ 20 21 _ _ (by decide), upZ_upZ]
theorem cz_mem {Y : Nat → Nat → Int} {M R : Nat → Int} {f l c : Int} (N : Nat → Int) : upZ (cz Y M R f l c) 8 N = cz Y N R f l c := by
  unfold cz
  rw [upZ_comm _ 8 23 _ _ (by decide), upZ_comm _ 8 22 _ _ (by decide), upZ_comm _ 8 21 _ _ (by decide), upZ_comm _ 8 20 _ _ (by decide), upZ_upZ]
theorem cz_set {Y : Nat → Nat → Int} {M R : Nat → Int} {f l c : Int} : setZ (cz Y M R f l c) = cz (setZ Y) M R f l c := by
  unfold cz
  rw [setZ_up _ _ _ (by decide), setZ_up _ _ _ (by decide), setZ_up _ _ _ (by decide), setZ_up _ _ _ (by decide), setZ_up _ _ _ (by decide)]
theorem inZ_cz {Y : Nat → Nat → Int} {M R0 : Nat → Int} {f0 l0 c0 : Int} (hY : setZ Y = Y) (R : Nat → Int) (f : Bool) (l : Int) : inZ (cz Y M R0 f0 l0 c0) R f l = cz Y M (cutR R) (b2i f) l 0 := by
  unfold inZ
  rw [cz_set, hY]
  funext k
  unfold cz upZ
  by_cases h3 : k = 23
  · simp [h3]
  by_cases h2 : k = 22
  · simp [h2]
  by_cases h1 : k = 21
  · simp [h1]
  by_cases h0 : k = 20
  · simp [h0]
  simp [h0, h1, h2, h3]
theorem ph_ram {Y : Nat → Nat → Int} {M R : Nat → Int} {f l c : Int} (h9 : Y 9 1 = 248) {a : Int} {k : Nat} (ha : a = 8192 + (k : Int)) (hk : k < 8192) : phZ (cz Y M R f l c) a = 2031616 + (k : Int) := by
  subst ha
  unfold phZ physOf
  rw [cz_9, show ((8192 + (k : Int)) % 65536 / 8192).toNat = 1 by omega, h9]
  omega
theorem kw_ram {k : Nat} (hk : k < 8192) : kindW (2031616 + (k : Int)) = 1 := by
  unfold kindW
  rw [if_neg (by omega), if_neg (by omega), if_pos (by omega)]
theorem cz_rV {Y : Nat → Nat → Int} {M R : Nat → Int} {f l c : Int} (bs : List Int) (h9 : Y 9 1 = 248) {a : Int} {k : Nat} (ha : a = 8192 + (k : Int)) (hk : k < 8192) : rV bs (cz Y M R f l c) a = M k := by
  unfold rV
  rw [ph_ram h9 ha hk]
  unfold rdV
  rw [kw_ram hk, if_neg (by decide), if_pos rfl, cz_8, show ((2031616 + (k : Int)) % 8192).toNat = k by omega]
theorem cz_sl {Y : Nat → Nat → Int} {M R : Nat → Int} {f l c : Int} (h9 : Y 9 1 = 248) {a : Int} {k : Nat} (ha : a = 8192 + (k : Int)) (hk : k < 8192) : slZ (cz Y M R f l c) a = 0 := by
  unfold slZ
  rw [ph_ram h9 ha hk, kw_ram hk]
  rfl
theorem w64_small {c : Int} (h : 0 ≤ c ∧ c < 1000000) : wrap64 (c + 0) = c := by unfold wrap64; omega
theorem cz_rS {Y : Nat → Nat → Int} {M R : Nat → Int} {f l c : Int} (h9 : Y 9 1 = 248) {a : Int} {k : Nat} (ha : a = 8192 + (k : Int)) (hk : k < 8192) (hc : 0 ≤ c ∧ c < 1000000) : rS (cz Y M R f l c) a = cz Y M R f l c := by
  unfold rS
  rw [cz_sl h9 ha hk, ph_ram h9 ha hk, cz_cyc, w64_small hc]
  unfold rdZ
  rw [kw_ram hk, if_neg (by decide), if_neg (by decide), if_neg (by decide), if_neg (by decide), if_neg (by decide)]
theorem cz_wS {Y : Nat → Nat → Int} {M R : Nat → Int} {f l c : Int} (h9 : Y 9 1 = 248) {a : Int} {k : Nat} (ha : a = 8192 + (k : Int)) (hk : k < 8192) (hc : 0 ≤ c ∧ c < 1000000) (y : Int) : wS (cz Y M R f l c) a y = cz Y (up M k (y % 256)) R f l c := by
  unfold wS
  rw [cz_sl h9 ha hk, ph_ram h9 ha hk, cz_cyc, w64_small hc]
  unfold wrZ
  rw [kw_ram hk, if_pos rfl, cz_mem, cz_8, show ((2031616 + (k : Int)) % 8192).toNat = k by omega]
def beh (M : Nat → Int) (q k : Nat) : Nat → Int := fun j => if j < k then M (q + j) else 0
theorem up_self (R : Nat → Int) (k : Nat) : up R k (R k) = R := funext fun j => by by_cases h : j = k <;> simp [up, h]
theorem up_up (R : Nat → Int) (k : Nat) (x y : Int) : up (up R k x) k y = up R k y := funext fun j => by by_cases h : j = k <;> simp [up, h]
theorem cz_nV {Y : Nat → Nat → Int} {M R : Nat → Int} {f l c : Int} (bs : List Int) (h9 : Y 9 1 = 248) {q : Nat} (h5 : R 5 = 8192 + (q : Int)) (hq : q < 8192) : nV bs (cz Y M R f l c) = M q := by
  unfold nV
  rw [cz_20]
  exact cz_rV bs h9 h5 hq
theorem cz_nx {Y : Nat → Nat → Int} {M R : Nat → Int} {f l c : Int} (h9 : Y 9 1 = 248) {q : Nat} (h5 : R 5 = 8192 + (q : Int)) (hq : q < 8192) (hc : 0 ≤ c ∧ c < 1000000) : nx (cz Y M R f l c) = cz Y M (up R 5 (8192 + ((q + 1 : Nat) : Int))) f l c := by
  unfold nx
  rw [cz_20, cz_rS h9 h5 hq hc, cz_setR, h5]
  congr 2
  omega
theorem cz_nxN {Y : Nat → Nat → Int} {M R : Nat → Int} {f l c : Int} (h9 : Y 9 1 = 248) {q : Nat} (h5 : R 5 = 8192 + (q : Int)) (hc : 0 ≤ c ∧ c < 1000000) : ∀ k : Nat, q + k ≤ 8192 → nxN (cz Y M R f l c) k = cz Y M (up R 5 (8192 + ((q + k : Nat) : Int))) f l c
  | 0, _ => by
    show cz Y M R f l c = _
    rw [Nat.add_zero, ← h5, up_self]
  | k + 1, hk => by
    show nx (nxN (cz Y M R f l c) k) = _
    rw [cz_nxN h9 h5 hc k (by omega), cz_nx h9 (q := q + k) (up_same _ _ _) (by omega) hc, up_up]
    rfl
theorem cz_beh {Y : Nat → Nat → Int} {M R : Nat → Int} {f l c : Int} (bs : List Int) (h9 : Y 9 1 = 248) {q : Nat} (h5 : R 5 = 8192 + (q : Int)) (hc : 0 ≤ c ∧ c < 1000000) : ∀ k : Nat, q + k ≤ 8192 → behN bs (cz Y M R f l c) k = beh M q k
  | 0, _ => rfl
  | k + 1, hk => by
    show up (behN bs (cz Y M R f l c) k) k (nV bs (nxN (cz Y M R f l c) k)) = _
    rw [cz_beh bs h9 h5 hc k (by omega), cz_nxN h9 h5 hc k (by omega), cz_nV bs h9 (q := q + k) (up_same _ _ _) (by omega)]
    funext j
    unfold up beh
    by_cases e : j = k
    · subst e
      rw [if_pos rfl, if_pos (by omega)]
    · rw [if_neg e]
      by_cases e2 : j < k
      · rw [if_pos e2, if_pos (by omega)]
      · rw [if_neg e2, if_neg (by omega)]
theorem row_in (n : Nat) (hn : n < 256) : (0 ≤ cycOf n ∧ cycOf n < 100) ∧ 1 ≤ lenOf n ∧ lenOf n ≤ 7 := by
  have h : (List.range 256).all (fun b => decide ((0 ≤ cycOf b ∧ cycOf b < 100) ∧ 1 ≤ lenOf b ∧ lenOf b ≤ 7)) = true := by kernel_rfl
  exact of_decide_eq_true (for_all h n hn)
def iC (M R : Nat → Int) (q n : Nat) : Nat → Int := iF (modeOf n) (lenOf n) (cycOf n) (opF (modeOf n) (beh M (q + 1) (lenOf n - 1).toNat)) (mkF (modeOf n) (beh M (q + 1) (lenOf n - 1).toNat)) (frF (modeOf n) (beh M (q + 1) (lenOf n - 1).toNat)) (adrOf (modeOf n) (R 1) (R 2) (opF (modeOf n) (beh M (q + 1) (lenOf n - 1).toNat)) 0)
theorem cz_fN {Y : Nat → Nat → Int} {M R : Nat → Int} {f l : Int} (bs : List Int) (h9 : Y 9 1 = 248) {q n : Nat} (h5 : R 5 = 8192 + (q : Int)) (hq : q + 7 ≤ 8192) (hN : M q = (n : Int)) (hn : n < 256) (hp : hasPt (modeOf n) = false) : fN bs (cz Y M R f l 0) = n := by
  unfold fN
  rw [cz_nV bs h9 h5 (by omega), hN]
  omega
theorem cz_f1 {Y : Nat → Nat → Int} {M R : Nat → Int} {f l : Int} (bs : List Int) (h9 : Y 9 1 = 248) {q n : Nat} (h5 : R 5 = 8192 + (q : Int)) (hq : q + 7 ≤ 8192) (hN : M q = (n : Int)) (hn : n < 256) (hp : hasPt (modeOf n) = false) : f1 bs (cz Y M R f l 0) = cz Y M (up R 5 (8192 + ((q + 1 : Nat) : Int))) f l (cycOf n) := by
  have hr := row_in n hn
  unfold f1
  rw [cz_fN bs h9 h5 hq hN hn hp, cz_nx h9 h5 (by omega) (by decide), cz_cyc]
  congr 1
  unfold wrap64
  omega
theorem cz_fB {Y : Nat → Nat → Int} {M R : Nat → Int} {f l : Int} (bs : List Int) (h9 : Y 9 1 = 248) {q n : Nat} (h5 : R 5 = 8192 + (q : Int)) (hq : q + 7 ≤ 8192) (hN : M q = (n : Int)) (hn : n < 256) (hp : hasPt (modeOf n) = false) : fB bs (cz Y M R f l 0) = (beh M (q + 1) (lenOf n - 1).toNat) := by
  have hr := row_in n hn
  unfold fB
  rw [cz_f1 bs h9 h5 hq hN hn hp, cz_fN bs h9 h5 hq hN hn hp]
  exact cz_beh bs h9 (up_same _ _ _) (by omega) _ (by omega)
theorem cz_f3 {Y : Nat → Nat → Int} {M R : Nat → Int} {f l : Int} (bs : List Int) (h9 : Y 9 1 = 248) {q n : Nat} (h5 : R 5 = 8192 + (q : Int)) (hq : q + 7 ≤ 8192) (hN : M q = (n : Int)) (hn : n < 256) (hp : hasPt (modeOf n) = false) : f3 bs (cz Y M R f l 0) = cz Y M (up (up R 5 (8192 + (q : Int) + lenOf n)) 4 (anP (R 4) 32)) f l (cycOf n) := by
  have hr := row_in n hn
  unfold f3 f2
  rw [cz_f1 bs h9 h5 hq hN hn hp, cz_fN bs h9 h5 hq hN hn hp, cz_nxN h9 (q := q + 1) (up_same _ _ _) (by omega) _ (by omega), cz_setR, up_up, cz_20, show (8192 + ((q + 1 + (lenOf n - 1).toNat : Nat) : Int)) = 8192 + (q : Int) + lenOf n by omega]
theorem cz_f4 {Y : Nat → Nat → Int} {M R : Nat → Int} {f l : Int} (bs : List Int) (h9 : Y 9 1 = 248) {q n : Nat} (h5 : R 5 = 8192 + (q : Int)) (hq : q + 7 ≤ 8192) (hN : M q = (n : Int)) (hn : n < 256) (hp : hasPt (modeOf n) = false) : f4 bs (cz Y M R f l 0) = cz Y M (up (up R 5 (8192 + (q : Int) + lenOf n)) 4 (anP (R 4) 32)) f l (cycOf n) := by
  unfold f4 fM
  rw [cz_fN bs h9 h5 hq hN hn hp, hp, if_neg (by decide), cz_f3 bs h9 h5 hq hN hn hp]
theorem cz_fI {Y : Nat → Nat → Int} {M R : Nat → Int} {f l : Int} (bs : List Int) (h9 : Y 9 1 = 248) {q n : Nat} (h5 : R 5 = 8192 + (q : Int)) (hq : q + 7 ≤ 8192) (hN : M q = (n : Int)) (hn : n < 256) (hp : hasPt (modeOf n) = false) : fI bs (cz Y M R f l 0) = iC M R q n := by
  unfold fI fP fQ fO fK fR fM
  rw [cz_fB bs h9 h5 hq hN hn hp, cz_fN bs h9 h5 hq hN hn hp, hp, if_neg (by decide)]
  rfl
theorem step_cz {w : World} {b v c d : Nat} {bs : List Int} {Y : Nat → Nat → Int} {M R0 : Nat → Int} {f0 l0 c0 : Int} (h : HasM w b v c d bs (cz Y M R0 f0 l0 c0)) (h9 : Y 9 1 = 248) (hs : setZ Y = Y) (px : Int)
    {R : Nat → Int} (hR : cutR R = R) (f : Bool) (l : Int) (KP : ∀ w, HasVec w → Calls Tryz.prog 20 #[.agg (rowF (sv (Y 13 0) (Y 13 1)) 2), .int .i64 (R 4)] w fun e w' => e = Ending.returned (.tuple #[.int .i64 px, .bool false]) ∧ Below w.heap.size w w')
    {q n : Nat} (h5 : R 5 = 8192 + (q : Int)) (hq : q + 7 ≤ 8192) (hN : M q = (n : Int)) (hn : n < 256) (hp : hasPt (modeOf n) = false) {ZZ : Nat → Nat → Int}
    (hdo : DoZ bs (nameOf n) (iC M R q n) (beh M (q + 1) (lenOf n - 1).toNat) (hasF (R 4) 32) (cz Y M (up (up R 5 (8192 + (q : Int) + lenOf n)) 4 (anP (R 4) 32)) (b2i f) l (cycOf n)) ZZ) :
    Calls Tryz.prog 13 #[.agg #[.int .i64 (R 0), .int .i64 (R 1), .int .i64 (R 2), .int .i64 (R 3), .int .i64 (R 4), .int .i64 (R 5), .bool f, .int .i64 l], .pointer (some ⟨b, 0, none⟩)] w fun e w' => e = Ending.returned (.tuple #[.agg (core8 ZZ), .int .i64 (ZZ 23 0)]) ∧ HasM w' b v c d bs ZZ ∧ OnlyE (EX b v) w w' := by
  have e4 : R 4 % 256 = R 4 := congrFun hR 4
  have ei := inZ_cz (M := M) (R0 := R0) (f0 := f0) (l0 := l0) (c0 := c0) hs R f l
  rw [hR] at ei
  refine step_ins h R f l px ?_ ?_
  · rw [cz_set, hs, cz_13, e4]
    exact KP
  · rw [ei, cz_fN bs h9 h5 hq hN hn hp, cz_fI bs h9 h5 hq hN hn hp, cz_fB bs h9 h5 hq hN hn hp, cz_f4 bs h9 h5 hq hN hn hp]
    exact hdo
theorem pick_zero (p : Int) (w : World) (hT : HasVec w) : Calls Tryz.prog 20 #[.agg (rowF (sv 0 0) 2), .int .i64 p] w fun e w' => e = Ending.returned (.tuple #[.int .i64 0, .bool false]) ∧ Below w.heap.size w w' := by
  by_cases hp : p % 8 < 4
  · exact pick_free 0 0 p hp w hT
  · exact pick_held 0 0 p (by omega) w
end Go.Proofs.YtoijhhbiknhlnaaGreatDoor.L25
namespace Go.Proofs.YtoijhhbiknhlnaaGreatDoor.L25
set_option maxRecDepth 20000
open A2 B4 C3 G6 I11 J23 K9 L24 M5 N8 O7 P22 R15 T10 V12 W13
open Go.RowKit
set_option linter.unusedVariables false
def HasC (w : World) (b v c d : Nat) (bs : List Int) (Y : Nat → Nat → Int) (M : Nat → Int) : Prop := ∃ R0 f0 l0 c0, HasM w b v c d bs (cz Y M R0 f0 l0 c0)
theorem HasC.next {w w' : World} {b v c d : Nat} {bs : List Int} {Y : Nat → Nat → Int} {M : Nat → Int} (h : HasC w b v c d bs Y M) (k : Below w.heap.size w w') : HasC w' b v c d bs Y M := by
  obtain ⟨R0, f0, l0, c0, h⟩ := h
  exact ⟨R0, f0, l0, c0, h.next k⟩
def Calm (Y : Nat → Nat → Int) : Prop := Y 9 1 = 248 ∧ setZ Y = Y ∧ Y 13 0 = 0 ∧ Y 13 1 = 0
def Goes (bs : List Int) (Y : Nat → Nat → Int) (M : Nat → Int) (a x y s p : Int) (q : Nat) (f : Bool) (l : Int) (M' : Nat → Int) (a' x' y' s' p' : Int) (q' : Nat) (f' : Bool) (l' cy : Int) : Prop :=
  ∀ (w : World) (b v c d : Nat), HasC w b v c d bs Y M → Calls Tryz.prog 13 #[.agg #[.int .i64 a, .int .i64 x, .int .i64 y, .int .i64 s, .int .i64 p, .int .i64 (8192 + (q : Int)), .bool f, .int .i64 l], .pointer (some ⟨b, 0, none⟩)] w fun e w' => e = Ending.returned (.tuple #[.agg #[.int .i64 a', .int .i64 x', .int .i64 y', .int .i64 s', .int .i64 p', .int .i64 (8192 + (q' : Int)), .bool f', .int .i64 l'], .int .i64 cy]) ∧ HasC w' b v c d bs Y M' ∧ OnlyE (EX b v) w w'
theorem goes_of {bs : List Int} {Y : Nat → Nat → Int} {M M' : Nat → Int} {a x y s p a' x' y' s' p' l l' cy : Int} {q q' n : Nat} {f f' : Bool} (hY : Calm Y) (ha : IsByte a) (hx : IsByte x) (hy : IsByte y) (hs : IsByte s) (hp : IsByte p) (hq : q + 7 ≤ 8192) (hN : M q = (n : Int)) (hn : n < 256) (hm : hasPt (modeOf n) = false) {ZZ : Nat → Nat → Int}
    (hdo : DoZ bs (nameOf n) (iC M (rg a x y s p (8192 + (q : Int))) q n) (beh M (q + 1) (lenOf n - 1).toNat) (hasF p 32) (cz Y M (rg a x y s (anP p 32) (8192 + (q : Int) + lenOf n)) (b2i f) l (cycOf n)) ZZ)
    (hz : ZZ = cz Y M' (rg a' x' y' s' p' (8192 + (q' : Int))) (b2i f') l' cy) : Goes bs Y M a x y s p q f l M' a' x' y' s' p' q' f' l' cy := by
  intro w b v c d ⟨R0, f0, l0, c0, h⟩
  obtain ⟨h9, hs1, h0, h1⟩ := hY
  have k := step_cz h h9 hs1 0 (R := rg a x y s p (8192 + (q : Int))) (rg_cut ha hx hy hs hp (by omega)) f l (fun w hw => by rw [h0, h1]; exact pick_zero _ w hw) (q := q) (n := n) rfl hq hN hn hm (ZZ := ZZ) (by
    rw [rg_up5, rg_up4]
    exact hdo)
  subst hz
  have e : core8 (cz Y M' (rg a' x' y' s' p' (8192 + (q' : Int))) (b2i f') l' cy) = #[.int .i64 a', .int .i64 x', .int .i64 y', .int .i64 s', .int .i64 p', .int .i64 (8192 + (q' : Int)), .bool f', .int .i64 l'] := by
    unfold core8
    rw [cz_20, cz_21, cz_22]
    show #[_, _, _, _, _, _, Value.bool (isB (b2i f')), _] = _
    rw [isB_b2i]
    rfl
  rw [e] at k
  exact k.mono fun e w' ⟨r, m, o⟩ => ⟨r, ⟨_, _, _, _, m⟩, o⟩
theorem jn_z {z : Nat} (hz : z < 256) : jn (z : Int) 0 = z := by
  unfold jn
  omega
theorem zO_z {z : Nat} (hz : z < 256) : zOf (z : Int) 0 = 8192 + (z : Int) := by
  unfold zOf
  omega
theorem i3_0 {M R : Nat → Int} {q n : Nat} (hm : modeOf n = 3) (hl : lenOf n = 2) {z : Nat} (hz : z < 256) (h1 : M (q + 1) = (z : Int)) : iC M R q n 0 = 3 := hm
theorem i3_6 {M R : Nat → Int} {q n : Nat} (hm : modeOf n = 3) (hl : lenOf n = 2) {z : Nat} (hz : z < 256) (h1 : M (q + 1) = (z : Int)) : iC M R q n 6 = 8192 + (z : Int) := by
  unfold iC
  rw [hm, hl]
  show zOf (jn (M (q + 1)) 0) 0 = _
  rw [h1, jn_z hz, zO_z hz]
theorem cz_mV {Y : Nat → Nat → Int} {M R : Nat → Int} {f l c : Int} (bs : List Int) (hY : Calm Y) {I : Nat → Int} {z : Nat} (hz : z < 8192) (h0 : I 0 ≠ 2) (h1 : I 0 ≠ 1) (h6 : I 6 = 8192 + (z : Int)) : mV bs I (cz Y M R f l c) = M z := by
  unfold mV
  rw [if_neg h0, if_neg h1]
  exact cz_rV bs hY.1 h6 hz
theorem cz_mS {Y : Nat → Nat → Int} {M R : Nat → Int} {f l c : Int} (hY : Calm Y) {I : Nat → Int} {z : Nat} (hz : z < 8192) (h0 : I 0 ≠ 2) (h1 : I 0 ≠ 1) (h6 : I 6 = 8192 + (z : Int)) (hc : 0 ≤ c ∧ c < 1000000) : mS I (cz Y M R f l c) = cz Y M R f l c := by
  unfold mS
  rw [if_neg h0, if_neg h1]
  exact cz_rS hY.1 h6 hz hc
theorem go_put {bs : List Int} {Y : Nat → Nat → Int} {M : Nat → Int} {a x y s p l : Int} {q n : Nat} {f : Bool} (hY : Calm Y) (ha : IsByte a) (hx : IsByte x) (hy : IsByte y) (hs : IsByte s) (hp : IsByte p) (hq : q + 7 ≤ 8192) (hN : M q = (n : Int)) (hn : n < 256) (hm : modeOf n = 3) (hl : lenOf n = 2) {z : Nat} (hz : z < 256) (h1 : M (q + 1) = (z : Int)) (hc : cycOf n = 7) (k : Int) (on : Bool) (hp2 : ∀ m, IsByte m → IsByte (putOf m k on))
    (hd : ∀ {bs : List Int} {I B : Nat → Int} {t : Bool} {Z : Nat → Nat → Int}, (I 0 = 2 → IsByte (I 3)) → (∀ m, IsByte m → IsByte (putOf m k on)) → DoZ bs (nameOf n) I B t Z (cbS bs I k on Z)) : Goes bs Y M a x y s p q f l (up M z (putOf (M z) k on % 256)) a x y s (anP p 32) (q + 2) f l 7 := by
  have i0 := i3_0 (R := rg a x y s p (8192 + (q : Int))) hm hl hz h1
  have i6 := i3_6 (R := rg a x y s p (8192 + (q : Int))) hm hl hz h1
  refine goes_of hY ha hx hy hs hp hq hN hn (by rw [hm]; rfl) (hd (fun e => by rw [i0] at e; cases e) hp2) ?_
  unfold cbS chS
  rw [cz_mV bs hY (by omega) (by rw [i0]; decide) (by rw [i0]; decide) i6, cz_mS hY (by omega) (by rw [i0]; decide) (by rw [i0]; decide) i6 (by rw [hc]; decide), if_neg (by rw [i0]; decide), cz_wS hY.1 i6 (by omega) (by rw [hc]; decide), hc, hl]
  rw [show (8192 + (q : Int) + 2) = 8192 + ((q + 2 : Nat) : Int) by omega]
theorem i15_0 {M R : Nat → Int} {q n : Nat} (hm : modeOf n = 15) (hl : lenOf n = 3) {z : Nat} (hz : z < 256) (h1 : M (q + 1) = (z : Int)) : iC M R q n 0 = 15 := hm
theorem i15_6 {M R : Nat → Int} {q n : Nat} (hm : modeOf n = 15) (hl : lenOf n = 3) {z : Nat} (hz : z < 256) (h1 : M (q + 1) = (z : Int)) : iC M R q n 6 = 8192 + (z : Int) := by
  unfold iC
  rw [hm, hl]
  show zOf (M (q + 1)) 0 = _
  rw [h1, zO_z hz]
theorem i15_5 {M R : Nat → Int} {q n : Nat} (hm : modeOf n = 15) (hl : lenOf n = 3) {z : Nat} (hz : z < 256) (h1 : M (q + 1) = (z : Int)) : iC M R q n 5 = M (q + 2) := by
  unfold iC
  rw [hm, hl]
  rfl
theorem go_bb_yes {bs : List Int} {Y : Nat → Nat → Int} {M : Nat → Int} {a x y s p l : Int} {q n : Nat} {f : Bool} (hY : Calm Y) (ha : IsByte a) (hx : IsByte x) (hy : IsByte y) (hs : IsByte s) (hp : IsByte p) (hq : q + 7 ≤ 8192) (hN : M q = (n : Int)) (hn : n < 256) (hm : modeOf n = 15) (hl : lenOf n = 3) {z : Nat} (hz : z < 256) (h1 : M (q + 1) = (z : Int)) (hc : cycOf n = 6) (k : Int) (asked : Bool) (hd : ∀ {bs : List Int} {I B : Nat → Int} {t : Bool} {Z : Nat → Nat → Int}, DoZ bs (nameOf n) I B t Z (brS I (bitOf (mV bs I Z) k == 1) asked (mS I Z))) (on : (bitOf (M z) k == 1) = asked) {q' : Nat} (e : (q' : Int) = q + 3 + signOf (M (q + 2))) (hq' : q' < 8192) : Goes bs Y M a x y s p q f l M a x y s (anP p 32) q' f l 8 := by
  have i0 := i15_0 (R := rg a x y s p (8192 + (q : Int))) hm hl hz h1
  have i6 := i15_6 (R := rg a x y s p (8192 + (q : Int))) hm hl hz h1
  have i5 := i15_5 (R := rg a x y s p (8192 + (q : Int))) hm hl hz h1
  refine goes_of hY ha hx hy hs hp hq hN hn (by rw [hm]; rfl) hd ?_
  rw [cz_mV bs hY (by omega) (by rw [i0]; decide) (by rw [i0]; decide) i6, cz_mS hY (by omega) (by rw [i0]; decide) (by rw [i0]; decide) i6 (by rw [hc]; decide)]
  unfold brS
  rw [if_pos on]
  unfold gfS
  rw [cz_cyc, cz_20, cz_setR, rg_up5, hc, hl, i5]
  have e2 : wOf (rg a x y s (anP p 32) (8192 + (q : Int) + 3) 5) (signOf (M (q + 2))) = 8192 + (q' : Int) := by
    show (8192 + (q : Int) + 3 + signOf (M (q + 2))) % 65536 = _
    omega
  rw [e2, show wrap64 (6 + 2) = 8 by unfold wrap64; omega]
end Go.Proofs.YtoijhhbiknhlnaaGreatDoor.L25
namespace Go.Proofs.YtoijhhbiknhlnaaGreatDoor.L25
set_option maxRecDepth 20000
open A2 B4 C3 G6 I11 J23 K9 L24 M5 N8 O7 P22 R15 T10 V12 W13
open Go.RowKit
set_option linter.unusedVariables false
def dn (k : Nat) : Nat := (k + 255) % 256
end Go.Proofs.YtoijhhbiknhlnaaGreatDoor.L25
namespace Go.Proofs.YtoijhhbiknhlnaaGreatDoor.D24
set_option maxRecDepth 20000
open Go.RowKit
set_option linter.unusedVariables false
def ylens : List Nat := [1, 1, 1, 1, 8, 21, 1, 256, 1, 1, 1, 514, 244, 4, 1, 1, 4, 10, 1]
def IsY (L : List (Nat × (Nat → Value))) : Prop := L.map Prod.fst = ylens
theorem IsY.off {L : List (Nat × (Nat → Value))} (h : IsY L) (k : Nat) {a : Nat} (ha : (ylens.take k).sum = a) : soff L k = a := off_of h k ha
theorem IsY.set {L : List (Nat × (Nat → Value))} (h : IsY L) {k n : Nat} {f : Nat → Value} (hk : L[k]? = some (n, f)) (f' : Nat → Value) : IsY (L.set k (n, f')) := lens_set h hk f'
end Go.Proofs.YtoijhhbiknhlnaaGreatDoor.D24
namespace Go.Proofs.YtoijhhbiknhlnaaGreatDoor.D24
set_option maxRecDepth 20000
open W13
open Go.RowKit
set_option linter.unusedVariables false
def HasY (w : World) (b c d r : Nat) (L : List (Nat × (Nat → Value))) (f : Nat → Int) (wr rd st lo bu : Int) (ram : Nat → Int) : Prop :=
  HasF 141 w b 1072 (segs L) ∧ HasR w c d f wr rd st lo bu ∧ HasF 3 w r 8192 (iv ram) ∧ IsY L ∧ L[6]? = some (1, fun _ => .pointer (some ⟨c, 0, none⟩)) ∧ L[3]? = some (1, fun _ => .slice (some ⟨r, 0, none⟩) 8192 8192) ∧ (b ≠ c ∧ b ≠ d ∧ b ≠ r ∧ c ≠ r ∧ d ≠ r)
theorem HasY.next {w : World} {b c d r : Nat} {L : List (Nat × (Nat → Value))} {f : Nat → Int} {wr rd st lo bu : Int} {ram : Nat → Int} (h : HasY w b c d r L f wr rd st lo bu ram) {w' : World} (k : Below w.heap.size w w') : HasY w' b c d r L f wr rd st lo bu ram := ⟨h.1.next k, h.2.1.next k, h.2.2.1.next k, h.2.2.2⟩
theorem HasY.row {w : World} {b c d r : Nat} {L : List (Nat × (Nat → Value))} {f : Nat → Int} {wr rd st lo bu : Int} {ram : Nat → Int} (h : HasY w b c d r L f wr rd st lo bu ram) {w' : World} {L' : List (Nat × (Nat → Value))} (k : But b w w') (h' : HasF 141 w' b 1072 (segs L')) (y : IsY L') (y6 : L'[6]? = L[6]?) (y3 : L'[3]? = L[3]?) : HasY w' b c d r L' f wr rd st lo bu ram :=
  ⟨h', ⟨k.obj h.2.1.1 (fun e => h.2.2.2.2.2.2.1 e.symm), k.obj h.2.1.2.1 (fun e => h.2.2.2.2.2.2.2.1 e.symm), h.2.1.2.2⟩, k.keep h.2.2.1 (fun e => h.2.2.2.2.2.2.2.2.1 e.symm), y, y6.trans h.2.2.2.2.1, y3.trans h.2.2.2.2.2.1, h.2.2.2.2.2.2⟩
end Go.Proofs.YtoijhhbiknhlnaaGreatDoor.D24
