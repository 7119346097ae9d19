/- The processor at work in Ram: states in which all that an instruction reads and writes is Ram. -/
import Derived.Test.YtoijhhbiknhlnaaGreatDoorCpuTakesJ43
namespace Go.Proofs.YtoijhhbiknhlnaaGreatDoor.L25
set_option maxRecDepth 20000
open A2 B4 C3 G6 I11 J23 K9 L24 M5 N8 O7 P22 R15 T10 V12 W13
open Go.RowKit
set_option linter.unusedVariables false
def rg (a x y s p pc : Int) : Nat → Int := fun j => if j = 0 then a else if j = 1 then x else if j = 2 then y else if j = 3 then s else if j = 4 then p else if j = 5 then pc else 0
theorem rg_up3 (a x y s p pc z : Int) : up (rg a x y s p pc) 3 z = rg a x y z p pc := funext fun j => by by_cases h : j = 3 <;> simp [up, rg, h]
theorem rg_up4 (a x y s p pc z : Int) : up (rg a x y s p pc) 4 z = rg a x y s z pc := funext fun j => by by_cases h : j = 4 <;> simp [up, rg, h]
theorem rg_up5 (a x y s p pc z : Int) : up (rg a x y s p pc) 5 z = rg a x y s p z := funext fun j => by by_cases h : j = 5 <;> simp [up, rg, h]
theorem rg_cut {a x y s p pc : Int} (h0 : IsByte a) (h1 : IsByte x) (h2 : IsByte y) (h3 : IsByte s) (h4 : IsByte p) (h5 : 0 ≤ pc ∧ pc < 65536) : cutR (rg a x y s p pc) = rg a x y s p pc := funext fun j => by
  unfold IsByte at h0 h1 h2 h3 h4
  unfold cutR
  rcases j with _ | _ | _ | _ | _ | _ | j
  · exact Int.emod_eq_of_lt h0.1 (show a < 256 by omega)
  · exact Int.emod_eq_of_lt h1.1 (show x < 256 by omega)
  · exact Int.emod_eq_of_lt h2.1 (show y < 256 by omega)
  · exact Int.emod_eq_of_lt h3.1 (show s < 256 by omega)
  · exact Int.emod_eq_of_lt h4.1 (show p < 256 by omega)
  · exact Int.emod_eq_of_lt h5.1 h5.2
  · simp [rg]
def cz (Y : Nat → Nat → Int) (M R : Nat → Int) (f l c : Int) : Nat → Nat → Int := upZ (upZ (upZ (upZ (upZ Y 8 M) 20 R) 21 (oneV f)) 22 (oneV l)) 23 (oneV c)
theorem cz_8 {Y : Nat → Nat → Int} {M R : Nat → Int} {f l c : Int} : cz Y M R f l c 8 = M := rfl
theorem cz_9 {Y : Nat → Nat → Int} {M R : Nat → Int} {f l c : Int} : cz Y M R f l c 9 = Y 9 := rfl
theorem cz_13 {Y : Nat → Nat → Int} {M R : Nat → Int} {f l c : Int} : cz Y M R f l c 13 = Y 13 := rfl
theorem cz_20 {Y : Nat → Nat → Int} {M R : Nat → Int} {f l c : Int} : cz Y M R f l c 20 = R := rfl
theorem cz_21 {Y : Nat → Nat → Int} {M R : Nat → Int} {f l c : Int} : cz Y M R f l c 21 = oneV f := rfl
theorem cz_22 {Y : Nat → Nat → Int} {M R : Nat → Int} {f l c : Int} : cz Y M R f l c 22 = oneV l := rfl
theorem cz_23 {Y : Nat → Nat → Int} {M R : Nat → Int} {f l c : Int} : cz Y M R f l c 23 = oneV c := rfl
theorem cz_cyc {Y : Nat → Nat → Int} {M R : Nat → Int} {f l c : Int} (n : Int) : cyc (cz Y M R f l c) n = cz Y M R f l (wrap64 (c + n)) := by
  unfold cyc
  rw [cz_23]
  unfold cz
  rw [upZ_upZ]
  rfl
theorem cz_setR {Y : Nat → Nat → Int} {M R : Nat → Int} {f l c : Int} (k : Nat) (x : Int) : setR (cz Y M R f l c) k x = cz Y M (up R k x) f l c := by
  unfold setR
  rw [cz_20]
  unfold cz
  rw [upZ_comm _ 20 23 _ _ (by decide), upZ_comm _ 20 22 _ _ (by decide), upZ_comm _ 20 21 _ _ (by decide), upZ_upZ]
theorem cz_mem {Y : Nat → Nat → Int} {M R : Nat → Int} {f l c : Int} (N : Nat → Int) : upZ (cz Y M R f l c) 8 N = cz Y N R f l c := by
  unfold cz
  rw [upZ_comm _ 8 23 _ _ (by decide), upZ_comm _ 8 22 _ _ (by decide), upZ_comm _ 8 21 _ _ (by decide), upZ_comm _ 8 20 _ _ (by decide), upZ_upZ]
theorem cz_base {Y : Nat → Nat → Int} {M R : Nat → Int} {f l c : Int} (k : Nat) (g : Nat → Int) (h : k < 20) (h8 : k ≠ 8) : upZ (cz Y M R f l c) k g = cz (upZ Y k g) M R f l c := by
  unfold cz
  rw [upZ_comm _ k 23 _ _ (by omega), upZ_comm _ k 22 _ _ (by omega), upZ_comm _ k 21 _ _ (by omega), upZ_comm _ k 20 _ _ (by omega), upZ_comm _ k 8 _ _ (by omega)]
theorem cz_set {Y : Nat → Nat → Int} {M R : Nat → Int} {f l c : Int} : setZ (cz Y M R f l c) = cz (setZ Y) M R f l c := by
  unfold cz
  rw [setZ_up _ _ _ (by decide), setZ_up _ _ _ (by decide), setZ_up _ _ _ (by decide), setZ_up _ _ _ (by decide), setZ_up _ _ _ (by decide)]
theorem inZ_cz {Y : Nat → Nat → Int} {M R0 : Nat → Int} {f0 l0 c0 : Int} (hY : setZ Y = Y) (R : Nat → Int) (f : Bool) (l : Int) : inZ (cz Y M R0 f0 l0 c0) R f l = cz Y M (cutR R) (b2i f) l 0 := by
  unfold inZ
  rw [cz_set, hY]
  funext k
  unfold cz upZ
  by_cases h3 : k = 23
  · simp [h3]
  by_cases h2 : k = 22
  · simp [h2]
  by_cases h1 : k = 21
  · simp [h1]
  by_cases h0 : k = 20
  · simp [h0]
  simp [h0, h1, h2, h3]
theorem ph_ram {Y : Nat → Nat → Int} {M R : Nat → Int} {f l c : Int} (h9 : Y 9 1 = 248) {a : Int} {k : Nat} (ha : a = 8192 + (k : Int)) (hk : k < 8192) : phZ (cz Y M R f l c) a = 2031616 + (k : Int) := by
  subst ha
  unfold phZ physOf
  rw [cz_9, show ((8192 + (k : Int)) % 65536 / 8192).toNat = 1 by omega, h9]
  omega
theorem kw_ram {k : Nat} (hk : k < 8192) : kindW (2031616 + (k : Int)) = 1 := by
  unfold kindW
  rw [if_neg (by omega), if_neg (by omega), if_pos (by omega)]
theorem cz_rV {Y : Nat → Nat → Int} {M R : Nat → Int} {f l c : Int} (bs : List Int) (h9 : Y 9 1 = 248) {a : Int} {k : Nat} (ha : a = 8192 + (k : Int)) (hk : k < 8192) : rV bs (cz Y M R f l c) a = M k := by
  unfold rV
  rw [ph_ram h9 ha hk]
  unfold rdV
  rw [kw_ram hk, if_neg (by decide), if_pos rfl, cz_8, show ((2031616 + (k : Int)) % 8192).toNat = k by omega]
theorem cz_sl {Y : Nat → Nat → Int} {M R : Nat → Int} {f l c : Int} (h9 : Y 9 1 = 248) {a : Int} {k : Nat} (ha : a = 8192 + (k : Int)) (hk : k < 8192) : slZ (cz Y M R f l c) a = 0 := by
  unfold slZ
  rw [ph_ram h9 ha hk, kw_ram hk]
  rfl
theorem w64_small {c : Int} (h : 0 ≤ c ∧ c < 1000000) : wrap64 (c + 0) = c := by unfold wrap64; omega
theorem cz_rS {Y : Nat → Nat → Int} {M R : Nat → Int} {f l c : Int} (h9 : Y 9 1 = 248) {a : Int} {k : Nat} (ha : a = 8192 + (k : Int)) (hk : k < 8192) (hc : 0 ≤ c ∧ c < 1000000) : rS (cz Y M R f l c) a = cz Y M R f l c := by
  unfold rS
  rw [cz_sl h9 ha hk, ph_ram h9 ha hk, cz_cyc, w64_small hc]
  unfold rdZ
  rw [kw_ram hk, if_neg (by decide), if_neg (by decide), if_neg (by decide), if_neg (by decide), if_neg (by decide)]
theorem cz_wS {Y : Nat → Nat → Int} {M R : Nat → Int} {f l c : Int} (h9 : Y 9 1 = 248) {a : Int} {k : Nat} (ha : a = 8192 + (k : Int)) (hk : k < 8192) (hc : 0 ≤ c ∧ c < 1000000) (y : Int) : wS (cz Y M R f l c) a y = cz Y (up M k (y % 256)) R f l c := by
  unfold wS
  rw [cz_sl h9 ha hk, ph_ram h9 ha hk, cz_cyc, w64_small hc]
  unfold wrZ
  rw [kw_ram hk, if_pos rfl, cz_mem, cz_8, show ((2031616 + (k : Int)) % 8192).toNat = k by omega]
def beh (M : Nat → Int) (q k : Nat) : Nat → Int := fun j => if j < k then M (q + j) else 0
theorem up_self (R : Nat → Int) (k : Nat) : up R k (R k) = R := funext fun j => by by_cases h : j = k <;> simp [up, h]
theorem up_up (R : Nat → Int) (k : Nat) (x y : Int) : up (up R k x) k y = up R k y := funext fun j => by by_cases h : j = k <;> simp [up, h]
theorem cz_nV {Y : Nat → Nat → Int} {M R : Nat → Int} {f l c : Int} (bs : List Int) (h9 : Y 9 1 = 248) {q : Nat} (h5 : R 5 = 8192 + (q : Int)) (hq : q < 8192) : nV bs (cz Y M R f l c) = M q := by
  unfold nV
  rw [cz_20]
  exact cz_rV bs h9 h5 hq
theorem cz_nx {Y : Nat → Nat → Int} {M R : Nat → Int} {f l c : Int} (h9 : Y 9 1 = 248) {q : Nat} (h5 : R 5 = 8192 + (q : Int)) (hq : q < 8192) (hc : 0 ≤ c ∧ c < 1000000) : nx (cz Y M R f l c) = cz Y M (up R 5 (8192 + ((q + 1 : Nat) : Int))) f l c := by
  unfold nx
  rw [cz_20, cz_rS h9 h5 hq hc, cz_setR, h5]
  congr 2
  omega
theorem cz_nxN {Y : Nat → Nat → Int} {M R : Nat → Int} {f l c : Int} (h9 : Y 9 1 = 248) {q : Nat} (h5 : R 5 = 8192 + (q : Int)) (hc : 0 ≤ c ∧ c < 1000000) : ∀ k : Nat, q + k ≤ 8192 → nxN (cz Y M R f l c) k = cz Y M (up R 5 (8192 + ((q + k : Nat) : Int))) f l c
  | 0, _ => by
    show cz Y M R f l c = _
    rw [Nat.add_zero, ← h5, up_self]
  | k + 1, hk => by
    show nx (nxN (cz Y M R f l c) k) = _
    rw [cz_nxN h9 h5 hc k (by omega), cz_nx h9 (q := q + k) (up_same _ _ _) (by omega) hc, up_up]
    rfl
theorem cz_beh {Y : Nat → Nat → Int} {M R : Nat → Int} {f l c : Int} (bs : List Int) (h9 : Y 9 1 = 248) {q : Nat} (h5 : R 5 = 8192 + (q : Int)) (hc : 0 ≤ c ∧ c < 1000000) : ∀ k : Nat, q + k ≤ 8192 → behN bs (cz Y M R f l c) k = beh M q k
  | 0, _ => rfl
  | k + 1, hk => by
    show up (behN bs (cz Y M R f l c) k) k (nV bs (nxN (cz Y M R f l c) k)) = _
    rw [cz_beh bs h9 h5 hc k (by omega), cz_nxN h9 h5 hc k (by omega), cz_nV bs h9 (q := q + k) (up_same _ _ _) (by omega)]
    funext j
    unfold up beh
    by_cases e : j = k
    · subst e
      rw [if_pos rfl, if_pos (by omega)]
    · rw [if_neg e]
      by_cases e2 : j < k
      · rw [if_pos e2, if_pos (by omega)]
      · rw [if_neg e2, if_neg (by omega)]
theorem row_in (n : Nat) (hn : n < 256) : (0 ≤ cycOf n ∧ cycOf n < 100) ∧ 1 ≤ lenOf n ∧ lenOf n ≤ 7 := by
  have h : (List.range 256).all (fun b => decide ((0 ≤ cycOf b ∧ cycOf b < 100) ∧ 1 ≤ lenOf b ∧ lenOf b ≤ 7)) = true := by kernel_rfl
  exact of_decide_eq_true (for_all h n hn)
def iC (M R : Nat → Int) (q n : Nat) : Nat → Int := iF (modeOf n) (lenOf n) (cycOf n) (opF (modeOf n) (beh M (q + 1) (lenOf n - 1).toNat)) (mkF (modeOf n) (beh M (q + 1) (lenOf n - 1).toNat)) (frF (modeOf n) (beh M (q + 1) (lenOf n - 1).toNat)) (adrOf (modeOf n) (R 1) (R 2) (opF (modeOf n) (beh M (q + 1) (lenOf n - 1).toNat)) 0)
theorem cz_fN {Y : Nat → Nat → Int} {M R : Nat → Int} {f l : Int} (bs : List Int) (h9 : Y 9 1 = 248) {q n : Nat} (h5 : R 5 = 8192 + (q : Int)) (hq : q + 7 ≤ 8192) (hN : M q = (n : Int)) (hn : n < 256) (hp : hasPt (modeOf n) = false) : fN bs (cz Y M R f l 0) = n := by
  unfold fN
  rw [cz_nV bs h9 h5 (by omega), hN]
  omega
theorem cz_f1 {Y : Nat → Nat → Int} {M R : Nat → Int} {f l : Int} (bs : List Int) (h9 : Y 9 1 = 248) {q n : Nat} (h5 : R 5 = 8192 + (q : Int)) (hq : q + 7 ≤ 8192) (hN : M q = (n : Int)) (hn : n < 256) (hp : hasPt (modeOf n) = false) : f1 bs (cz Y M R f l 0) = cz Y M (up R 5 (8192 + ((q + 1 : Nat) : Int))) f l (cycOf n) := by
  have hr := row_in n hn
  unfold f1
  rw [cz_fN bs h9 h5 hq hN hn hp, cz_nx h9 h5 (by omega) (by decide), cz_cyc]
  congr 1
  unfold wrap64
  omega
theorem cz_fB {Y : Nat → Nat → Int} {M R : Nat → Int} {f l : Int} (bs : List Int) (h9 : Y 9 1 = 248) {q n : Nat} (h5 : R 5 = 8192 + (q : Int)) (hq : q + 7 ≤ 8192) (hN : M q = (n : Int)) (hn : n < 256) (hp : hasPt (modeOf n) = false) : fB bs (cz Y M R f l 0) = (beh M (q + 1) (lenOf n - 1).toNat) := by
  have hr := row_in n hn
  unfold fB
  rw [cz_f1 bs h9 h5 hq hN hn hp, cz_fN bs h9 h5 hq hN hn hp]
  exact cz_beh bs h9 (up_same _ _ _) (by omega) _ (by omega)
theorem cz_f3 {Y : Nat → Nat → Int} {M R : Nat → Int} {f l : Int} (bs : List Int) (h9 : Y 9 1 = 248) {q n : Nat} (h5 : R 5 = 8192 + (q : Int)) (hq : q + 7 ≤ 8192) (hN : M q = (n : Int)) (hn : n < 256) (hp : hasPt (modeOf n) = false) : f3 bs (cz Y M R f l 0) = cz Y M (up (up R 5 (8192 + (q : Int) + lenOf n)) 4 (anP (R 4) 32)) f l (cycOf n) := by
  have hr := row_in n hn
  unfold f3 f2
  rw [cz_f1 bs h9 h5 hq hN hn hp, cz_fN bs h9 h5 hq hN hn hp, cz_nxN h9 (q := q + 1) (up_same _ _ _) (by omega) _ (by omega), cz_setR, up_up, cz_20, show (8192 + ((q + 1 + (lenOf n - 1).toNat : Nat) : Int)) = 8192 + (q : Int) + lenOf n by omega]
theorem cz_f4 {Y : Nat → Nat → Int} {M R : Nat → Int} {f l : Int} (bs : List Int) (h9 : Y 9 1 = 248) {q n : Nat} (h5 : R 5 = 8192 + (q : Int)) (hq : q + 7 ≤ 8192) (hN : M q = (n : Int)) (hn : n < 256) (hp : hasPt (modeOf n) = false) : f4 bs (cz Y M R f l 0) = cz Y M (up (up R 5 (8192 + (q : Int) + lenOf n)) 4 (anP (R 4) 32)) f l (cycOf n) := by
  unfold f4 fM
  rw [cz_fN bs h9 h5 hq hN hn hp, hp, if_neg (by decide), cz_f3 bs h9 h5 hq hN hn hp]
theorem cz_fI {Y : Nat → Nat → Int} {M R : Nat → Int} {f l : Int} (bs : List Int) (h9 : Y 9 1 = 248) {q n : Nat} (h5 : R 5 = 8192 + (q : Int)) (hq : q + 7 ≤ 8192) (hN : M q = (n : Int)) (hn : n < 256) (hp : hasPt (modeOf n) = false) : fI bs (cz Y M R f l 0) = iC M R q n := by
  unfold fI fP fQ fO fK fR fM
  rw [cz_fB bs h9 h5 hq hN hn hp, cz_fN bs h9 h5 hq hN hn hp, hp, if_neg (by decide)]
  rfl
theorem step_cz {w : World} {b v c d : Nat} {bs : List Int} {Y : Nat → Nat → Int} {M R0 : Nat → Int} {f0 l0 c0 : Int} (h : HasM w b v c d bs (cz Y M R0 f0 l0 c0)) (h9 : Y 9 1 = 248) (hs : setZ Y = Y) (px : Int)
    {R : Nat → Int} (hR : cutR R = R) (f : Bool) (l : Int) (KP : ∀ w, HasVec w → Calls Tryz.prog 20 #[.agg (rowF (sv (Y 13 0) (Y 13 1)) 2), .int .i64 (R 4)] w fun e w' => e = Ending.returned (.tuple #[.int .i64 px, .bool false]) ∧ Below w.heap.size w w')
    {q n : Nat} (h5 : R 5 = 8192 + (q : Int)) (hq : q + 7 ≤ 8192) (hN : M q = (n : Int)) (hn : n < 256) (hp : hasPt (modeOf n) = false) {ZZ : Nat → Nat → Int}
    (hdo : DoZ bs (nameOf n) (iC M R q n) (beh M (q + 1) (lenOf n - 1).toNat) (hasF (R 4) 32) (cz Y M (up (up R 5 (8192 + (q : Int) + lenOf n)) 4 (anP (R 4) 32)) (b2i f) l (cycOf n)) ZZ) :
    Calls Tryz.prog 13 #[.agg #[.int .i64 (R 0), .int .i64 (R 1), .int .i64 (R 2), .int .i64 (R 3), .int .i64 (R 4), .int .i64 (R 5), .bool f, .int .i64 l], .pointer (some ⟨b, 0, none⟩)] w fun e w' => e = Ending.returned (.tuple #[.agg (core8 ZZ), .int .i64 (ZZ 23 0)]) ∧ HasM w' b v c d bs ZZ ∧ OnlyE (EX b v) w w' := by
  have e4 : R 4 % 256 = R 4 := congrFun hR 4
  have ei := inZ_cz (M := M) (R0 := R0) (f0 := f0) (l0 := l0) (c0 := c0) hs R f l
  rw [hR] at ei
  refine step_ins h R f l px ?_ ?_
  · rw [cz_set, hs, cz_13, e4]
    exact KP
  · rw [ei, cz_fN bs h9 h5 hq hN hn hp, cz_fI bs h9 h5 hq hN hn hp, cz_fB bs h9 h5 hq hN hn hp, cz_f4 bs h9 h5 hq hN hn hp]
    exact hdo
end Go.Proofs.YtoijhhbiknhlnaaGreatDoor.L25
