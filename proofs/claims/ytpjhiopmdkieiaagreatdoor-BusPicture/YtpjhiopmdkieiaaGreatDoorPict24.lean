/- The program's machine: writes to the picture's registers and reads of its memory, by the ports. -/
import Derived.Test.YtpjhiopmdkieiaaGreatDoorBus24c
import Derived.Test.YtpjhiopmdkieiaaGreatDoorBus24v
import Derived.Test.YtpjhiopmdkieiaaGreatDoorL15
namespace Go.Proofs.YtpjhiopmdkieiaaGreatDoor.L24
open Go.Proofs.YtpjhiopmdkieiaaGreatDoor.B4 Go.Proofs.YtpjhiopmdkieiaaGreatDoor.C3 Go.Proofs.YtpjhiopmdkieiaaGreatDoor.G6 Go.Proofs.YtpjhiopmdkieiaaGreatDoor.I11 Go.Proofs.YtpjhiopmdkieiaaGreatDoor.J23 Go.Proofs.YtpjhiopmdkieiaaGreatDoor.M5 Go.Proofs.YtpjhiopmdkieiaaGreatDoor.P22 Go.Proofs.YtpjhiopmdkieiaaGreatDoor.R15 Go.Proofs.YtpjhiopmdkieiaaGreatDoor.T10 Go.Proofs.YtpjhiopmdkieiaaGreatDoor.V12 Go.Proofs.YtpjhiopmdkieiaaGreatDoor.W13
open Go.RowKit
set_option linter.unusedVariables false

def gF (s : Int) (R : Nat → Int) : Nat → Int := fun j => if j = 0 then s else R (j - 1)
theorem gF_row (s : Int) (R : Nat → Int) : rowF (iv (gF s R)) 21 = R15.rowG s R := by
  apply Array.ext_getElem?
  intro j
  by_cases h : j < 21
  · rw [rowF_at _ _ _ h]
    unfold iv gF
    rcases j with _ | j
    · exact (R15.rowG_0 s R).symm
    · rw [if_neg (by omega), show j + 1 = 1 + j by omega, R15.rowG_at s R j (by omega), show 1 + j - 1 = j by omega]
  · rw [rowF_none _ _ _ h, Array.getElem?_eq_none (by rw [R15.rowG_size]; omega)]
theorem g0_gF : (iv fun _ => 0) = iv (gF 0 fun _ => 0) := by
  congr 1
  funext j
  unfold gF
  split <;> rfl
/-! ### By the ports -/
theorem wr_sel {w : World} {b v c d : Nat} {L : List (Nat × (Nat → Value))} {bs : List Int} {f : Nat → Int} {wr rd st lo bu : Int} (h : HasX w b v c d L bs f wr rd st lo bu) (p g n x : Int) (hk : kindW p = 2) (hg : pageW p = g) (ha : atW p = 0) (hx : n % 32 = x) {s : Int} {R : Nat → Int} {mv : Bool} (h0 : L[0]? = some (21, iv (gF s R))) (h5 : L[5]? = some (1, fun _ => .bool mv)) :
    Calls Tryz.prog 13 #[.pointer (some ⟨b, 0, none⟩), .int .i64 p, .int .i64 n] w fun e w' => e = Ending.returned (.tuple #[]) ∧ HasX w' b v c d (L.set 0 (21, iv (gF x R))) bs f wr rd st lo bu ∧ OnlyE (EX b v) w w' := by
  refine write_vdc h p n g 0 (where_at p 2 g 0 hk hg ha) (n % 256) rfl (R := fun w' => HasX w' b v c d (L.set 0 (21, iv (gF x R))) bs f wr rd st lo bu) fun w1 h1 => ?_
  refine writeVdc_is h1 0 (n % 256) h0 h5 (rg' := gF x R) (br := 0) (fun w _ => by rw [gF_row, gF_row]; exact R15.write_sel s (n % 256) x R (by omega) w) fun w2 h2 => ?_
  have e : mvB mv (gF x R 0) 0 = mv := by unfold mvB; simp
  rw [e, set_id (set_other h5 _ (by decide))] at h2
  exact (bring_none 0 (n % 256) (.inl (by decide))).mono fun e w' ⟨e1, hw⟩ => by subst hw; exact ⟨e1, h2, OnlyE.of (Below.refl _ _)⟩
theorem wr_reg {w : World} {b v c d : Nat} {L : List (Nat × (Nat → Value))} {bs : List Int} {f : Nat → Int} {wr rd st lo bu : Int} (h : HasX w b v c d L bs f wr rd st lo bu) (p g a n y : Int) (hk : kindW p = 2) (hg : pageW p = g) (ha : atW p = a) (h23 : a = 2 ∨ a = 3) (hy : n % 256 = y) (i : Nat) (hi : i < 20) {R : Nat → Int} {mv : Bool} (h0 : L[0]? = some (21, iv (gF (i : Int) R))) (h5 : L[5]? = some (1, fun _ => .bool mv))
    (z br : Int) (hz : bits .and .i64 (R15.halfOf (R i) a y) (R15.mk i) = z) (hb : R15.bringsOf (i : Int) a = br) {Q : World → Prop}
    (KB : ∀ w, HasX w b v c d ((L.set 0 (21, iv (gF (i : Int) (R15.upd R i z)))).set 5 (1, fun _ => .bool (mvB mv (i : Int) a))) bs f wr rd st lo bu → Calls Tryz.prog 97 #[.pointer (some ⟨b, 0, none⟩), .int .i64 br, .int .i64 y] w fun e w' => e = Ending.returned (.tuple #[]) ∧ Q w' ∧ OnlyE (EX b v) w w') :
    Calls Tryz.prog 13 #[.pointer (some ⟨b, 0, none⟩), .int .i64 p, .int .i64 n] w fun e w' => e = Ending.returned (.tuple #[]) ∧ Q w' ∧ OnlyE (EX b v) w w' := by
  refine write_vdc h p n g a (where_at p 2 g a hk hg ha) y hy fun w1 h1 => ?_
  exact writeVdc_is h1 a y h0 h5 (rg' := gF (i : Int) (R15.upd R i z)) (br := br) (fun w hm => by rw [gF_row, gF_row]; exact R15.write_at i hi a y _ _ z br R h23 rfl rfl hz hb w hm) KB
theorem rd_low {w : World} {b v c d : Nat} {L : List (Nat × (Nat → Value))} {bs : List Int} {f : Nat → Int} {wr rd st lo bu : Int} (h : HasX w b v c d L bs f wr rd st lo bu) (p g : Int) (hk : kindW p = 2) (hg : pageW p = g) (ha : atW p = 2) {x : Int} (hx : bu % 256 = x) : Calls Tryz.prog 11 #[.pointer (some ⟨b, 0, none⟩), .int .i64 p] w fun e w' => e = Ending.returned (.int .i64 x) ∧ HasX w' b v c d L bs f wr rd st lo bu ∧ OnlyE (EX b v) w w' := by
  refine read_vdc h p g 2 (where_at p 2 g 2 hk hg ha) (R := fun w' => HasX w' b v c d L bs f wr rd st lo bu ∧ OnlyE (EX b v) w w') fun w1 b1 => ?_
  exact (readVdc_2 (h.next b1) 2 g 2 rfl hx).mono fun e w' ⟨e1, x2, o2⟩ => ⟨e1, x2, (ex_below b1).trans o2⟩
theorem rd_high {w : World} {b v c d : Nat} {L : List (Nat × (Nat → Value))} {bs : List Int} {f : Nat → Int} {wr rd st lo bu : Int} (h : HasX w b v c d L bs f wr rd st lo bu) (p g : Int) (hk : kindW p = 2) (hg : pageW p = g) (ha : atW p = 3) {x y z : Int} (r0 : 0 ≤ rd) (r1 : rd < 65536) (s0 : 0 ≤ st) (s1 : st < 65536) (hx : bu / 256 % 256 = x) (hy : (rd + st) % 65536 = y) (hz : wordAt f y = z) : Calls Tryz.prog 11 #[.pointer (some ⟨b, 0, none⟩), .int .i64 p] w fun e w' => e = Ending.returned (.int .i64 x) ∧ HasX w' b v c d L bs f wr y st lo z ∧ OnlyE (EX b v) w w' := by
  refine read_vdc h p g 3 (where_at p 2 g 3 hk hg ha) (R := fun w' => HasX w' b v c d L bs f wr y st lo z ∧ OnlyE (EX b v) w w') fun w1 b1 => ?_
  exact (readVdc_3 (h.next b1) 2 g 3 rfl r0 r1 s0 s1 hx hy hz).mono fun e w' ⟨e1, x2, o2⟩ => ⟨e1, x2, (ex_below b1).trans o2⟩
/-! ### The law's own states -/
def PL (v c : Nat) (s : Int) (R : Nat → Int) : List (Nat × (Nat → Value)) := ML v c (gF s R) 0 false 0 (fun _ => .int .u8 0) (iv freshF) (tv 0 0 false 0) p0C 0 0 255 0
theorem lb_pl (v c : Nat) : LB v c = PL v c 0 fun _ => 0 := by
  rw [lb_ml]
  unfold PL ML
  rw [← g0_gF]
theorem p_sel {w : World} {b v c d : Nat} {bs : List Int} {f : Nat → Int} {wr rd st lo bu : Int} {R : Nat → Int} {s : Int} (h : HasX w b v c d (PL v c s R) bs f wr rd st lo bu) (n x : Int) (hx : n % 32 = x) : Calls Tryz.prog 13 #[.pointer (some ⟨b, 0, none⟩), .int .i64 2088960, .int .i64 n] w fun e w' => e = Ending.returned (.tuple #[]) ∧ HasX w' b v c d (PL v c x R) bs f wr rd st lo bu ∧ OnlyE (EX b v) w w' := wr_sel h 2088960 0 n x (by decide) (by decide) (by decide) hx rfl rfl
theorem p_low5 {w : World} {b v c d : Nat} {bs : List Int} {f : Nat → Int} {wr rd st lo bu : Int} {R : Nat → Int} (h : HasX w b v c d (PL v c 5 R) bs f wr rd st lo bu) (n y z : Int) (hy : n % 256 = y) (hz : bits .and .i64 (R15.halfOf (R 5) 2 y) (R15.mk 5) = z)   : Calls Tryz.prog 13 #[.pointer (some ⟨b, 0, none⟩), .int .i64 2088962, .int .i64 n] w fun e w' => e = Ending.returned (.tuple #[]) ∧ HasX w' b v c d (PL v c 5 (R15.upd R 5 z)) bs f wr rd st lo bu ∧ OnlyE (EX b v) w w' := by
  refine wr_reg h 2088962 0 2 n y (by decide) (by decide) (by decide) (by decide) hy 5 (by decide) rfl rfl z 0 hz (by decide) (Q := fun w' => HasX w' b v c d (PL v c 5 (R15.upd R 5 z)) bs f wr rd st lo bu) fun w1 h1 => ?_
  replace h1 : HasX w1 b v c d (PL v c 5 (R15.upd R 5 z)) bs f wr rd st lo bu := h1
  exact (bring_none 0 y (.inl (by decide))).mono fun e w' ⟨e1, hw⟩ => by subst hw; exact ⟨e1, h1, OnlyE.of (Below.refl _ _)⟩
theorem p_low1 {w : World} {b v c d : Nat} {bs : List Int} {f : Nat → Int} {wr rd st lo bu : Int} {R : Nat → Int} (h : HasX w b v c d (PL v c 1 R) bs f wr rd st lo bu) (n y z : Int) (hy : n % 256 = y) (hz : bits .and .i64 (R15.halfOf (R 1) 2 y) (R15.mk 1) = z)   : Calls Tryz.prog 13 #[.pointer (some ⟨b, 0, none⟩), .int .i64 2088962, .int .i64 n] w fun e w' => e = Ending.returned (.tuple #[]) ∧ HasX w' b v c d (PL v c 1 (R15.upd R 1 z)) bs f wr rd st lo bu ∧ OnlyE (EX b v) w w' := by
  refine wr_reg h 2088962 0 2 n y (by decide) (by decide) (by decide) (by decide) hy 1 (by decide) rfl rfl z 0 hz (by decide) (Q := fun w' => HasX w' b v c d (PL v c 1 (R15.upd R 1 z)) bs f wr rd st lo bu) fun w1 h1 => ?_
  replace h1 : HasX w1 b v c d (PL v c 1 (R15.upd R 1 z)) bs f wr rd st lo bu := h1
  exact (bring_none 0 y (.inl (by decide))).mono fun e w' ⟨e1, hw⟩ => by subst hw; exact ⟨e1, h1, OnlyE.of (Below.refl _ _)⟩
theorem p_low0 {w : World} {b v c d : Nat} {bs : List Int} {f : Nat → Int} {wr rd st lo bu : Int} {R : Nat → Int} (h : HasX w b v c d (PL v c 0 R) bs f wr rd st lo bu) (n y z : Int) (hy : n % 256 = y) (hz : bits .and .i64 (R15.halfOf (R 0) 2 y) (R15.mk 0) = z) (x : Int) (hx : z % 65536 = x) : Calls Tryz.prog 13 #[.pointer (some ⟨b, 0, none⟩), .int .i64 2088962, .int .i64 n] w fun e w' => e = Ending.returned (.tuple #[]) ∧ HasX w' b v c d (PL v c 0 (R15.upd R 0 z)) bs f x rd st lo bu ∧ OnlyE (EX b v) w w' := by
  refine wr_reg h 2088962 0 2 n y (by decide) (by decide) (by decide) (by decide) hy 0 (by decide) rfl rfl z 1 hz (by decide) (Q := fun w' => HasX w' b v c d (PL v c 0 (R15.upd R 0 z)) bs f x rd st lo bu) fun w1 h1 => ?_
  replace h1 : HasX w1 b v c d (PL v c 0 (R15.upd R 0 z)) bs f wr rd st lo bu := h1
  exact bring_setWrite h1 y x (rg := gF 0 (R15.upd R 0 z)) rfl (by rw [← hx]; rfl)
theorem p_high0 {w : World} {b v c d : Nat} {bs : List Int} {f : Nat → Int} {wr rd st lo bu : Int} {R : Nat → Int} (h : HasX w b v c d (PL v c 0 R) bs f wr rd st lo bu) (n y z : Int) (hy : n % 256 = y) (hz : bits .and .i64 (R15.halfOf (R 0) 3 y) (R15.mk 0) = z) (x : Int) (hx : z % 65536 = x) : Calls Tryz.prog 13 #[.pointer (some ⟨b, 0, none⟩), .int .i64 2088963, .int .i64 n] w fun e w' => e = Ending.returned (.tuple #[]) ∧ HasX w' b v c d (PL v c 0 (R15.upd R 0 z)) bs f x rd st lo bu ∧ OnlyE (EX b v) w w' := by
  refine wr_reg h 2088963 0 3 n y (by decide) (by decide) (by decide) (by decide) hy 0 (by decide) rfl rfl z 1 hz (by decide) (Q := fun w' => HasX w' b v c d (PL v c 0 (R15.upd R 0 z)) bs f x rd st lo bu) fun w1 h1 => ?_
  replace h1 : HasX w1 b v c d (PL v c 0 (R15.upd R 0 z)) bs f wr rd st lo bu := h1
  exact bring_setWrite h1 y x (rg := gF 0 (R15.upd R 0 z)) rfl (by rw [← hx]; rfl)
theorem p_high1 {w : World} {b v c d : Nat} {bs : List Int} {f : Nat → Int} {wr rd st lo bu : Int} {R : Nat → Int} (h : HasX w b v c d (PL v c 1 R) bs f wr rd st lo bu) (n y z : Int) (hy : n % 256 = y) (hz : bits .and .i64 (R15.halfOf (R 1) 3 y) (R15.mk 1) = z) (x u : Int) (hx : z % 65536 = x) (hu : wordAt f x = u) : Calls Tryz.prog 13 #[.pointer (some ⟨b, 0, none⟩), .int .i64 2088963, .int .i64 n] w fun e w' => e = Ending.returned (.tuple #[]) ∧ HasX w' b v c d (PL v c 1 (R15.upd R 1 z)) bs f wr x st lo u ∧ OnlyE (EX b v) w w' := by
  refine wr_reg h 2088963 0 3 n y (by decide) (by decide) (by decide) (by decide) hy 1 (by decide) rfl rfl z 2 hz (by decide) (Q := fun w' => HasX w' b v c d (PL v c 1 (R15.upd R 1 z)) bs f wr x st lo u) fun w1 h1 => ?_
  replace h1 : HasX w1 b v c d (PL v c 1 (R15.upd R 1 z)) bs f wr rd st lo bu := h1
  exact bring_setRead h1 y x u (rg := gF 1 (R15.upd R 1 z)) rfl (by rw [← hx]; rfl) hu
theorem p_high5 {w : World} {b v c d : Nat} {bs : List Int} {f : Nat → Int} {wr rd st lo bu : Int} {R : Nat → Int} (h : HasX w b v c d (PL v c 5 R) bs f wr rd st lo bu) (n y z : Int) (hy : n % 256 = y) (hz : bits .and .i64 (R15.halfOf (R 5) 3 y) (R15.mk 5) = z) (x0 : R15.farOf (R15.pairOf z 11) % 65536 = R15.farOf (R15.pairOf z 11)) (x1 : R15.farOf (R15.pairOf z 11) ≠ 0) : Calls Tryz.prog 13 #[.pointer (some ⟨b, 0, none⟩), .int .i64 2088963, .int .i64 n] w fun e w' => e = Ending.returned (.tuple #[]) ∧ HasX w' b v c d (PL v c 5 (R15.upd R 5 z)) bs f wr rd (R15.farOf (R15.pairOf z 11)) lo bu ∧ OnlyE (EX b v) w w' := by
  refine wr_reg h 2088963 0 3 n y (by decide) (by decide) (by decide) (by decide) hy 5 (by decide) rfl rfl z 5 hz (by decide) (Q := fun w' => HasX w' b v c d (PL v c 5 (R15.upd R 5 z)) bs f wr rd (R15.farOf (R15.pairOf z 11)) lo bu) fun w1 h1 => ?_
  replace h1 : HasX w1 b v c d (PL v c 5 (R15.upd R 5 z)) bs f wr rd st lo bu := h1
  exact bring_step h1 y (R15.farOf (R15.pairOf z 11)) (R15.farOf (R15.pairOf z 11)) (rg := gF 5 (R15.upd R 5 z)) rfl (fun w => by rw [gF_row]; exact R15.far_any 5 (R15.upd R 5 z) _ rfl w) x0 x1
theorem p_low2 {w : World} {b v c d : Nat} {bs : List Int} {f : Nat → Int} {wr rd st lo bu : Int} {R : Nat → Int} (h : HasX w b v c d (PL v c 2 R) bs f wr rd st lo bu) (n y z : Int) (hy : n % 256 = y) (hz : bits .and .i64 (R15.halfOf (R 2) 2 y) (R15.mk 2) = z) (x : Int) (hx : y % 256 = x) : Calls Tryz.prog 13 #[.pointer (some ⟨b, 0, none⟩), .int .i64 2088962, .int .i64 n] w fun e w' => e = Ending.returned (.tuple #[]) ∧ HasX w' b v c d (PL v c 2 (R15.upd R 2 z)) bs f wr rd st x bu ∧ OnlyE (EX b v) w w' := by
  refine wr_reg h 2088962 0 2 n y (by decide) (by decide) (by decide) (by decide) hy 2 (by decide) rfl rfl z 3 hz (by decide) (Q := fun w' => HasX w' b v c d (PL v c 2 (R15.upd R 2 z)) bs f wr rd st x bu) fun w1 h1 => ?_
  replace h1 : HasX w1 b v c d (PL v c 2 (R15.upd R 2 z)) bs f wr rd st lo bu := h1
  exact bring_putLow h1 y x hx
theorem p_high2 {w : World} {b v c d : Nat} {bs : List Int} {f : Nat → Int} {wr rd st lo bu : Int} {R : Nat → Int} (h : HasX w b v c d (PL v c 2 R) bs f wr rd st lo bu) (n y z : Int) (hy : n % 256 = y) (hz : bits .and .i64 (R15.halfOf (R 2) 3 y) (R15.mk 2) = z) (x u : Int) (F : Nat → Int) (hx : lo % 256 + 256 * (y % 256) = x) (hF : pokeAt f wr x = F) (e0 : 0 ≤ wr) (e1 : wr < 65536) (s0 : 0 ≤ st) (s1 : st < 65536) (hu : (wr + st) % 65536 = u) : Calls Tryz.prog 13 #[.pointer (some ⟨b, 0, none⟩), .int .i64 2088963, .int .i64 n] w fun e w' => e = Ending.returned (.tuple #[]) ∧ HasX w' b v c d (PL v c 2 (R15.upd R 2 z)) bs F u rd st lo bu ∧ OnlyE (EX b v) w w' := by
  refine wr_reg h 2088963 0 3 n y (by decide) (by decide) (by decide) (by decide) hy 2 (by decide) rfl rfl z 4 hz (by decide) (Q := fun w' => HasX w' b v c d (PL v c 2 (R15.upd R 2 z)) bs F u rd st lo bu) fun w1 h1 => ?_
  replace h1 : HasX w1 b v c d (PL v c 2 (R15.upd R 2 z)) bs f wr rd st lo bu := h1
  exact bring_putHigh h1 y x u F hx hF e0 e1 s0 s1 hu
/-! ### The law's own closure -/
theorem reg_any {w : World} {b v g : Nat} (k n : Int) (A0 A1 A2 A3 : World → Prop) (hg : g ≠ b ∧ g ≠ v) (cg : w.heap[g]? = some (.cells #[.pointer (some ⟨b, 0, none⟩)] 24 (0, 0))) (h : A0 w)
    (K1 : ∀ w, A0 w → Calls Tryz.prog 13 #[.pointer (some ⟨b, 0, none⟩), .int .i64 2088960, .int .i64 k] w fun e w' => e = Ending.returned (.tuple #[]) ∧ A1 w' ∧ OnlyE (EX b v) w w')
    (K2 : ∀ w, A1 w → Calls Tryz.prog 13 #[.pointer (some ⟨b, 0, none⟩), .int .i64 2088962, .int .i64 n] w fun e w' => e = Ending.returned (.tuple #[]) ∧ A2 w' ∧ OnlyE (EX b v) w w')
    (K3 : ∀ w, A2 w → Calls Tryz.prog 13 #[.pointer (some ⟨b, 0, none⟩), .int .i64 2088963, .int .i64 (n / 256)] w fun e w' => e = Ending.returned (.tuple #[]) ∧ A3 w' ∧ OnlyE (EX b v) w w') :
    Calls Tryz.prog 23 #[.int .i64 k, .int .i64 n, .pointer (some ⟨g, 0, none⟩)] w fun e w' => e = Ending.returned (.tuple #[]) ∧ A3 w' ∧ OnlyE (EX b v) w w' := by
  have c0 := (cell_of_row w g 0 _ _ _ cg).trans rfl
  have NG := hide (show ¬ EX b v g from fun e => by rcases e with e | e; exact hg.1 e; exact hg.2 e)
  have G0 := hide cg
  have H0 := hide h
  have L1 := hide K1
  have L2 := hide K2
  have L3 := hide K3
  clear hg cg h K1 K2 K3
  set_option maxRecDepth 20000 in
  go_enter Tryz.func23, Tryz.ntmps23
  set_option maxRecDepth 20000 in
  go_wp2_with fail
  refine (L1.out _ H0.out).mono ?_
  rintro e w1 ⟨rfl, h1, o1⟩
  have G1 := hide (o1.obj G0.out NG.out)
  have H1 := hide h1
  have O1 := hide o1
  clear h1 o1 H0 G0 c0 L1
  have c0 := (cell_of_row w1 g 0 _ _ _ G1.out).trans rfl
  set_option maxRecDepth 20000 in
  go_wp2_with fail
  refine (L2.out _ H1.out).mono ?_
  rintro e w2 ⟨rfl, h2, o2⟩
  have G2 := hide (o2.obj G1.out NG.out)
  have H2 := hide h2
  have O2 := hide (O1.out.trans o2)
  clear h2 o2 H1 G1 c0 L2 O1
  have c0 := (cell_of_row w2 g 0 _ _ _ G2.out).trans rfl
  set_option maxRecDepth 20000 in
  go_wp2_with fail
  refine (L3.out _ H2.out).mono ?_
  rintro e w3 ⟨rfl, h3, o3⟩
  have H3 := hide h3
  have O3 := hide (O2.out.trans o3)
  clear h3 o3 H2 G2 c0 L3 O2
  set_option maxRecDepth 20000 in
  go_wp2
  set_option maxRecDepth 20000 in
  go_end0
  exact ⟨rfl, H3.out, O3.out⟩
end Go.Proofs.YtpjhiopmdkieiaaGreatDoor.L24
