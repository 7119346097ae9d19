/- Texts put together. -/
import Derived.Test.YtkpcpjneeinkdaaGreatDoorCpuBranchesJ46
import Derived.Test.YtkpcpjneeinkdaaGreatDoorCpuBranchesJ49
namespace Go.Proofs.YtkpcpjneeinkdaaGreatDoor.L25
open Go.Proofs.YtkpcpjneeinkdaaGreatDoor.A2 Go.Proofs.YtkpcpjneeinkdaaGreatDoor.B4 Go.Proofs.YtkpcpjneeinkdaaGreatDoor.C3 Go.Proofs.YtkpcpjneeinkdaaGreatDoor.G6 Go.Proofs.YtkpcpjneeinkdaaGreatDoor.I11 Go.Proofs.YtkpcpjneeinkdaaGreatDoor.J23 Go.Proofs.YtkpcpjneeinkdaaGreatDoor.K9 Go.Proofs.YtkpcpjneeinkdaaGreatDoor.L24 Go.Proofs.YtkpcpjneeinkdaaGreatDoor.M5 Go.Proofs.YtkpcpjneeinkdaaGreatDoor.N8 Go.Proofs.YtkpcpjneeinkdaaGreatDoor.O7 Go.Proofs.YtkpcpjneeinkdaaGreatDoor.P22 Go.Proofs.YtkpcpjneeinkdaaGreatDoor.R15 Go.Proofs.YtkpcpjneeinkdaaGreatDoor.T10 Go.Proofs.YtkpcpjneeinkdaaGreatDoor.V12 Go.Proofs.YtkpcpjneeinkdaaGreatDoor.W13
open Go.RowKit
set_option linter.unusedVariables false
def HasC (w : World) (b v c d : Nat) (bs : List Int) (Y : Nat → Nat → Int) (M : Nat → Int) : Prop := ∃ R0 f0 l0 c0, HasM w b v c d bs (cz Y M R0 f0 l0 c0)
theorem HasC.next {w w' : World} {b v c d : Nat} {bs : List Int} {Y : Nat → Nat → Int} {M : Nat → Int} (h : HasC w b v c d bs Y M) (k : Below w.heap.size w w') : HasC w' b v c d bs Y M := by
  obtain ⟨R0, f0, l0, c0, h⟩ := h
  exact ⟨R0, f0, l0, c0, h.next k⟩
def Calm (Y : Nat → Nat → Int) : Prop := Y 9 1 = 248 ∧ setZ Y = Y ∧ Y 13 0 = 0 ∧ Y 13 1 = 0
def Goes (bs : List Int) (Y : Nat → Nat → Int) (M : Nat → Int) (a x y s p : Int) (q : Nat) (f : Bool) (l : Int) (M' : Nat → Int) (a' x' y' s' p' : Int) (q' : Nat) (f' : Bool) (l' cy : Int) : Prop :=
  ∀ (w : World) (b v c d : Nat), HasC w b v c d bs Y M → Calls Tryz.prog 13 #[.agg #[.int .i64 a, .int .i64 x, .int .i64 y, .int .i64 s, .int .i64 p, .int .i64 (8192 + (q : Int)), .bool f, .int .i64 l], .pointer (some ⟨b, 0, none⟩)] w fun e w' => e = Ending.returned (.tuple #[.agg #[.int .i64 a', .int .i64 x', .int .i64 y', .int .i64 s', .int .i64 p', .int .i64 (8192 + (q' : Int)), .bool f', .int .i64 l'], .int .i64 cy]) ∧ HasC w' b v c d bs Y M' ∧ OnlyE (EX b v) w w'
theorem goes_of {bs : List Int} {Y : Nat → Nat → Int} {M M' : Nat → Int} {a x y s p a' x' y' s' p' l l' cy : Int} {q q' n : Nat} {f f' : Bool} (hY : Calm Y) (ha : IsByte a) (hx : IsByte x) (hy : IsByte y) (hs : IsByte s) (hp : IsByte p) (hq : q + 7 ≤ 8192) (hN : M q = (n : Int)) (hn : n < 256) (hm : hasPt (modeOf n) = false) {ZZ : Nat → Nat → Int}
    (hdo : DoZ bs (nameOf n) (iC M (rg a x y s p (8192 + (q : Int))) q n) (beh M (q + 1) (lenOf n - 1).toNat) (hasF p 32) (cz Y M (rg a x y s (anP p 32) (8192 + (q : Int) + lenOf n)) (b2i f) l (cycOf n)) ZZ)
    (hz : ZZ = cz Y M' (rg a' x' y' s' p' (8192 + (q' : Int))) (b2i f') l' cy) : Goes bs Y M a x y s p q f l M' a' x' y' s' p' q' f' l' cy := by
  intro w b v c d ⟨R0, f0, l0, c0, h⟩
  obtain ⟨h9, hs1, h0, h1⟩ := hY
  have k := step_cz h h9 hs1 0 (R := rg a x y s p (8192 + (q : Int))) (rg_cut ha hx hy hs hp (by omega)) f l (fun w hw => by rw [h0, h1]; exact pick_zero _ w hw) (q := q) (n := n) rfl hq hN hn hm (ZZ := ZZ) (by
    rw [rg_up5, rg_up4]
    exact hdo)
  subst hz
  have e : core8 (cz Y M' (rg a' x' y' s' p' (8192 + (q' : Int))) (b2i f') l' cy) = #[.int .i64 a', .int .i64 x', .int .i64 y', .int .i64 s', .int .i64 p', .int .i64 (8192 + (q' : Int)), .bool f', .int .i64 l'] := by
    unfold core8
    rw [cz_20, cz_21, cz_22]
    show #[_, _, _, _, _, _, Value.bool (isB (b2i f')), _] = _
    rw [isB_b2i]
    rfl
  rw [e] at k
  exact k.mono fun e w' ⟨r, m, o⟩ => ⟨r, ⟨_, _, _, _, m⟩, o⟩
theorem go_br_yes {bs : List Int} {Y : Nat → Nat → Int} {M : Nat → Int} {a x y s p l : Int} {q n : Nat} {f : Bool} (hY : Calm Y) (ha : IsByte a) (hx : IsByte x) (hy : IsByte y) (hs : IsByte s) (hp : IsByte p) (hq : q + 7 ≤ 8192) (hN : M q = (n : Int)) (hn : n < 256) (hm : modeOf n = 14) (hl : lenOf n = 2) (hc : cycOf n = 2) (fl : Int) (asked : Bool) (hd : ∀ {bs : List Int} {I B : Nat → Int} {t : Bool} {Z : Nat → Nat → Int}, DoZ bs (nameOf n) I B t Z (brS I (hasF (Z 20 4) fl) asked Z)) (on : hasF (anP p 32) fl = asked) {q' : Nat} (e : (q' : Int) = q + 2 + signOf (M (q + 1))) (hq' : q' < 8192) : Goes bs Y M a x y s p q f l M a x y s (anP p 32) q' f l 4 := by
  refine goes_of hY ha hx hy hs hp hq hN hn (by rw [hm]; rfl) hd ?_
  have on' : (hasF ((cz Y M (rg a x y s (anP p 32) (8192 + (q : Int) + lenOf n)) (b2i f) l (cycOf n)) 20 4) fl) = asked := on
  unfold brS
  rw [if_pos on']
  unfold gfS
  rw [cz_cyc, cz_20, cz_setR, rg_up5, hc, hl]
  have e1 : iC M (rg a x y s p (8192 + (q : Int))) q n 5 = M (q + 1) := by
    unfold iC
    rw [hm, hl]
    rfl
  have e2 : wOf (rg a x y s (anP p 32) (8192 + (q : Int) + 2) 5) (signOf (iC M (rg a x y s p (8192 + (q : Int))) q n 5)) = 8192 + (q' : Int) := by
    rw [e1]
    show (8192 + (q : Int) + 2 + signOf (M (q + 1))) % 65536 = _
    omega
  rw [e2, show wrap64 (2 + 2) = 4 by unfold wrap64; omega]
theorem go_br_no {bs : List Int} {Y : Nat → Nat → Int} {M : Nat → Int} {a x y s p l : Int} {q n : Nat} {f : Bool} (hY : Calm Y) (ha : IsByte a) (hx : IsByte x) (hy : IsByte y) (hs : IsByte s) (hp : IsByte p) (hq : q + 7 ≤ 8192) (hN : M q = (n : Int)) (hn : n < 256) (hm : modeOf n = 14) (hl : lenOf n = 2) (hc : cycOf n = 2) (fl : Int) (asked : Bool) (hd : ∀ {bs : List Int} {I B : Nat → Int} {t : Bool} {Z : Nat → Nat → Int}, DoZ bs (nameOf n) I B t Z (brS I (hasF (Z 20 4) fl) asked Z)) (on : ¬ hasF (anP p 32) fl = asked) : Goes bs Y M a x y s p q f l M a x y s (anP p 32) (q + 2) f l 2 := by
  refine goes_of hY ha hx hy hs hp hq hN hn (by rw [hm]; rfl) hd ?_
  have on' : ¬ (hasF ((cz Y M (rg a x y s (anP p 32) (8192 + (q : Int) + lenOf n)) (b2i f) l (cycOf n)) 20 4) fl) = asked := on
  unfold brS
  rw [if_neg on', hc, hl]
  rw [show (8192 + (q : Int) + 2) = 8192 + ((q + 2 : Nat) : Int) by omega]
end Go.Proofs.YtkpcpjneeinkdaaGreatDoor.L25
namespace Go.Proofs.YtkpcpjneeinkdaaGreatDoor.L25
open Go.Proofs.YtkpcpjneeinkdaaGreatDoor.A2 Go.Proofs.YtkpcpjneeinkdaaGreatDoor.B4 Go.Proofs.YtkpcpjneeinkdaaGreatDoor.C3 Go.Proofs.YtkpcpjneeinkdaaGreatDoor.D24 Go.Proofs.YtkpcpjneeinkdaaGreatDoor.G6 Go.Proofs.YtkpcpjneeinkdaaGreatDoor.I11 Go.Proofs.YtkpcpjneeinkdaaGreatDoor.J23 Go.Proofs.YtkpcpjneeinkdaaGreatDoor.K9 Go.Proofs.YtkpcpjneeinkdaaGreatDoor.L24 Go.Proofs.YtkpcpjneeinkdaaGreatDoor.M5 Go.Proofs.YtkpcpjneeinkdaaGreatDoor.N8 Go.Proofs.YtkpcpjneeinkdaaGreatDoor.O7 Go.Proofs.YtkpcpjneeinkdaaGreatDoor.P22 Go.Proofs.YtkpcpjneeinkdaaGreatDoor.R15 Go.Proofs.YtkpcpjneeinkdaaGreatDoor.T10 Go.Proofs.YtkpcpjneeinkdaaGreatDoor.V12 Go.Proofs.YtkpcpjneeinkdaaGreatDoor.W13
open Go.RowKit
set_option linter.unusedVariables false
theorem zB : IsByte 0 := ⟨by decide, by decide⟩
theorem mB : IsByte 255 := ⟨by decide, by decide⟩
def Yp : Nat → Nat → Int := Z0 (keyF 0 0 0 0 0) 5
theorem calm_p : Calm Yp := ⟨rfl, set_0 _ _, rfl, rfl⟩
theorem cz_low {Y : Nat → Nat → Int} {M R : Nat → Int} {f l c : Int} (k : Nat) (hk : k < 20) : cz Y M R f l c k = upZ Y 8 M k := by
  unfold cz
  rw [upZ_other _ _ _ _ (by omega), upZ_other _ _ _ _ (by omega), upZ_other _ _ _ _ (by omega), upZ_other _ _ _ _ (by omega)]
theorem rg_good {a x y s p pc : Int} (h0 : IsByte a) (h1 : IsByte x) (h2 : IsByte y) (h3 : IsByte s) (h4 : IsByte p) (h5 : 0 ≤ pc ∧ pc < 65536) : GZ 20 (rg a x y s p pc) := by
  rw [← rg_cut h0 h1 h2 h3 h4 h5]
  exact cutR_good _
theorem put_hasC {w : World} {b v c d n m : Nat} {bs : List Int} {C D : Nat → Int} (h : HasP w b v c d bs (putZ C D n m)) (ct : CT w) (hl : bs.length = 16384) (gb : 8 ≤ b ∧ 8 ≤ v) (hM : ∀ j, 0 ≤ putM C D n m j ∧ putM C D n m j < 256) : HasC w b v c d bs Yp (putM C D n m) :=
  ⟨rg 0 0 0 0 0 0, 0, 0, 0, hasP_low h (fun k hk => cz_low k hk), ct,
    good_up (good_up (good_up (good_up (good_up (gz_0 _ _) 8 _ hM) 20 _ (rg_good zB zB zB zB zB (by decide))) 21 _ trivial) 22 _ trivial) 23 _ trivial, gb, by rw [hl]; rfl, by rw [hl]; decide⟩
theorem putM_in {w : World} {sc sd : Option Addr} {lc ld : Nat} {C D : Nat → Int} (hC : SlB w sc lc C) (hD : SlB w sd ld D) (j : Nat) : 0 ≤ putM C D lc ld j ∧ putM C D lc ld j < 256 := by
  unfold putM
  by_cases h1 : j < ld
  · rw [if_pos h1]
    obtain ⟨_, _, _, _, _, a, b⟩ := hD.2 j h1
    exact ⟨a, b⟩
  rw [if_neg h1]
  by_cases h2 : 1024 ≤ j ∧ j < 1024 + lc
  · rw [if_pos h2]
    obtain ⟨_, _, _, _, _, a, b⟩ := hC.2 (j - 1024) (by omega)
    exact ⟨a, b⟩
  · rw [if_neg h2]
    decide
theorem put_is {C D : Nat → Int} {sc sd : Option Addr} {lc ld cc cd : Nat} {w : World} (hL : Tabs w ∧ HasErr w ∧ CT w) (hC : SlB w sc lc C) (hD : SlB w sd ld D) (hlc : lc ≤ 200) (hld : ld ≤ 256) :
    Calls Tryz.prog 16 #[.slice sc lc cc, .slice sd ld cd] w fun e w' => ∃ b v c d bs, e = Ending.returned (.tuple #[.pointer (some ⟨b, 0, none⟩), .agg #[.int .i64 0, .int .i64 0, .int .i64 0, .int .i64 255, .int .i64 0, .int .i64 9216, .bool false, .int .i64 0]]) ∧ HasC w' b v c d bs Yp (putM C D lc ld) ∧ (w.heap.size ≤ b ∧ w.heap.size ≤ v) ∧ Below w.heap.size w w' := by
  refine (put_walk hL.1 hL.2.1 hC hD hlc hld).mono ?_
  rintro e w' ⟨b, v, c, d, bs, r, hl, hp, hb, bw⟩
  have sz := laid_size hL
  exact ⟨b, v, c, d, bs, r, put_hasC hp (hL.2.2.next bw) hl (by omega) (putM_in hC hD), hb, bw⟩
theorem lit_slb {w : World} {g : Nat} {l : List Int} {t : TypeId} {fr : Nat × Nat} (h : w.heap[g]? = some (.cells (l.map (Value.int .u8)).toArray t fr)) (hl : l.length ≤ 9223372036854775807) (hb : ∀ x ∈ l, 0 ≤ x ∧ x < 256) : SlB w (some ⟨g, 0, none⟩) l.length (fun i => l.getD i 0) := by
  refine ⟨hl, fun i hi => ⟨g, 0, rfl, ?_, lt_of_block h, ?_⟩⟩
  · rw [Nat.zero_add]
    refine (cell_of_row w g i _ _ _ h).trans ?_
    simp [hi]
  · have e : l.getD i 0 = l[i] := by simp [hi]
    show 0 ≤ l.getD i 0 ∧ l.getD i 0 < 256
    rw [e]
    exact hb _ (List.getElem_mem hi)
theorem nil_slb (w : World) (C : Nat → Int) : SlB w none 0 C := ⟨by decide, fun i hi => absurd hi (Nat.not_lt_zero i)⟩
end Go.Proofs.YtkpcpjneeinkdaaGreatDoor.L25
