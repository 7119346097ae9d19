/- The chips' contracts over rows under a letter. -/
import Derived.Test.YtpjhiopmdkieiabGreatDoorBus24z
import Derived.Test.YtpjhiopmdkieiabGreatDoorL12
import Derived.Test.YtpjhiopmdkieiabGreatDoorPad23
import Derived.Test.YtpjhiopmdkieiabGreatDoorL22a
namespace Go.Proofs.YtpjhiopmdkieiabGreatDoor.L24
open Go.Proofs.YtpjhiopmdkieiabGreatDoor.B4 Go.Proofs.YtpjhiopmdkieiabGreatDoor.C3 Go.Proofs.YtpjhiopmdkieiabGreatDoor.G6 Go.Proofs.YtpjhiopmdkieiabGreatDoor.I11 Go.Proofs.YtpjhiopmdkieiabGreatDoor.J23 Go.Proofs.YtpjhiopmdkieiabGreatDoor.M5 Go.Proofs.YtpjhiopmdkieiabGreatDoor.P22 Go.Proofs.YtpjhiopmdkieiabGreatDoor.R15 Go.Proofs.YtpjhiopmdkieiabGreatDoor.T10 Go.Proofs.YtpjhiopmdkieiabGreatDoor.V12 Go.Proofs.YtpjhiopmdkieiabGreatDoor.W13
open Go.RowKit
set_option linter.unusedVariables false

theorem and_le (n m : Int) (m0 : 0 ≤ m) (m1 : m < 2 ^ 62) : 0 ≤ bits .and .i64 n m ∧ bits .and .i64 n m ≤ m := by
  obtain ⟨m, rfl⟩ := Int.eq_ofNat_of_zero_le m0
  have e : (BitVec.ofInt 64 n &&& BitVec.ofInt 64 (m : Int)).toNat ≤ m := by
    rw [BitVec.toNat_and, BitVec.ofInt_natCast, BitVec.toNat_ofNat, Nat.mod_eq_of_lt (by omega : m < 2 ^ 64)]
    exact Nat.and_le_right
  show 0 ≤ IntKind.i64.wrap ((BitVec.ofInt 64 n &&& BitVec.ofInt 64 (m : Int)).toNat : Nat) ∧ IntKind.i64.wrap ((BitVec.ofInt 64 n &&& BitVec.ofInt 64 (m : Int)).toNat : Nat) ≤ m
  generalize (BitVec.ofInt 64 n &&& BitVec.ofInt 64 (m : Int)).toNat = x at *
  rw [i64_small _ (by omega) (by omega)]
  omega
/-! ### The colours -/
def vF (c a : Int) (f : Nat → Int) : Nat → Int := fun j => if j = 0 then c else if j = 1 then a else f (j - 2)
theorem vF_row (c a : Int) (f : Nat → Int) : rowF (iv (vF c a f)) 514 = V12.rowV c a f := by
  apply Array.ext_getElem?
  intro j
  by_cases h : j < 514
  · rw [rowF_at _ _ _ h]
    unfold iv vF
    rcases j with _ | _ | j
    · exact (V12.rowV_0 c a f).symm
    · exact (V12.rowV_1 c a f).symm
    · rw [if_neg (by omega), if_neg (by omega), show j + 1 + 1 = 2 + j by omega, V12.rowV_at c a f j (by omega), show 2 + j - 2 = j by omega]
  · rw [rowF_none _ _ _ h, Array.getElem?_eq_none (by rw [V12.rowV_size]; omega)]
theorem v0_vF : (iv fun _ => 0) = iv (vF 0 0 fun _ => 0) := by
  congr 1
  funext j
  unfold vF
  split
  · rfl
  · split <;> rfl
theorem iv_one (f : Nat → Int) (N : Nat) : ∀ j, j < N → (iv f j).oneCell' = true := fun _ _ => rfl
/-! ### The pads' port -/
def pv (s c d : Bool) (i : Int) : Nat → Value := fun j => if j = 0 then .bool s else if j = 1 then .bool c else if j = 2 then .bool d else .int .i64 i
theorem pv_row (s c d : Bool) (i : Int) : rowF (pv s c d i) 4 = #[.bool s, .bool c, .bool d, .int .i64 i] := rfl
theorem pv_one (s c d : Bool) (i : Int) : ∀ j, j < 4 → (pv s c d i j).oneCell' = true := fun j _ => by
  unfold pv
  split
  · rfl
  · split
    · rfl
    · split <;> rfl
theorem p0_pv : p0C = pv false false false 0 := funext fun j => by
  unfold p0C pv
  rcases j with _ | _ | _ | j
  · rfl
  · rfl
  · rfl
  · rw [if_neg (by omega), if_neg (by omega), if_neg (by omega), if_neg (by omega)]
/-! ### Reads and writes -/
theorem rd_hold {w : World} {b v c d : Nat} {L : List (Nat × (Nat → Value))} {bs : List Int} {f : Nat → Int} {wr rd st lo bu : Int} (h : HasX w b v c d L bs f wr rd st lo bu) (p g a : Int) (hk : kindW p = 4) (hg : pageW p = g) (ha : atW p = a) {x : Int} (h16 : L[16]? = some (1, fun _ => Value.int .i64 x)) : Calls Tryz.prog 6 #[.pointer (some ⟨b, 0, none⟩), .int .i64 p] w fun e w' => e = Ending.returned (.int .i64 x) ∧ HasX w' b v c d L bs f wr rd st lo bu ∧ OnlyE (EX b v) w w' := by
  refine read_psg h p g a (where_at p 4 g a hk hg ha) (R := fun w' => HasX w' b v c d L bs f wr rd st lo bu ∧ OnlyE (EX b v) w w') fun w1 b1 => ?_
  exact (readHold_is (h.next b1) 4 g a h16).mono fun e w' ⟨e1, x2, o2⟩ => ⟨e1, x2, (ex_below b1).trans o2⟩
theorem rd_vce_no {w : World} {b v c d : Nat} {L : List (Nat × (Nat → Value))} {bs : List Int} {f : Nat → Int} {wr rd st lo bu : Int} (h : HasX w b v c d L bs f wr rd st lo bu) (p g a : Int) (hk : kindW p = 3) (hg : pageW p = g) (ha : atW p = a) (h4 : ¬ a = 4) (h5 : ¬ a = 5) {C A : Int} {F : Nat → Int} (h10 : L[10]? = some (514, iv (vF C A F))) {x : Int} (hx : x = 255) : Calls Tryz.prog 6 #[.pointer (some ⟨b, 0, none⟩), .int .i64 p] w fun e w' => e = Ending.returned (.int .i64 x) ∧ HasX w' b v c d L bs f wr rd st lo bu ∧ OnlyE (EX b v) w w' := by
  subst hx
  have h' : L.set 10 (514, iv (vF C A F)) = L := set_id h10
  refine read_vce h p g a (where_at p 3 g a hk hg ha) (R := fun w' => HasX w' b v c d L bs f wr rd st lo bu ∧ OnlyE (EX b v) w w') fun w1 b1 => ?_
  have k := readVce_is (h.next b1) 3 g a (x := 255) h10 (q' := iv (vF C A F)) (fun w => by rw [vF_row]; exact V12.read_no a C A F (A % 512).toNat (by omega) h4 h5 w) (iv_one _ _)
  rw [h'] at k
  exact k.mono fun e w' ⟨e1, x2, o2⟩ => ⟨e1, x2, (ex_below b1).trans o2⟩
theorem wr_psg {w : World} {b v c d : Nat} {L : List (Nat × (Nat → Value))} {bs : List Int} {f : Nat → Int} {wr rd st lo bu : Int} (h : HasX w b v c d L bs f wr rd st lo bu) (p g a i y : Int) (hk : kindW p = 4) (hg : pageW p = g) (ha : atW p = a) (hy : i % 256 = y) {q : Nat → Int} (h11 : L[11]? = some (244, iv q)) (ok : P22.okP q) {hd : Int} (h16 : L[16]? = some (1, fun _ => Value.int .i64 hd)) : Calls Tryz.prog 5 #[.pointer (some ⟨b, 0, none⟩), .int .i64 p, .int .i64 i] w fun e w' => e = Ending.returned (.tuple #[]) ∧ HasX w' b v c d ((L.set 11 (244, iv (P22.wrF q a y))).set 16 (1, fun _ => Value.int .i64 y)) bs f wr rd st lo bu ∧ OnlyE (EX b v) w w' :=
  write_psg h p i g a (where_at p 4 g a hk hg ha) y hy h11 (fun w => P22.write_any q a y ok w) (iv_one _ _) h16
theorem wr_pad {w : World} {b v c d : Nat} {L : List (Nat × (Nat → Value))} {bs : List Int} {f : Nat → Int} {wr rd st lo bu : Int} (h : HasX w b v c d L bs f wr rd st lo bu) (p g a i y : Int) (hk : kindW p = 6) (hg : pageW p = g) (ha : atW p = a) (hy : i % 256 = y) {S C D : Bool} {I : Int} (h14 : L[14]? = some (4, pv S C D I)) {hd : Int} (h16 : L[16]? = some (1, fun _ => Value.int .i64 hd)) : Calls Tryz.prog 5 #[.pointer (some ⟨b, 0, none⟩), .int .i64 p, .int .i64 i] w fun e w' => e = Ending.returned (.tuple #[]) ∧ HasX w' b v c d ((L.set 14 (4, pv (J23.selB y) (J23.clrB y) (J23.nxD C D (J23.clrB y)) (J23.nxI S (J23.selB y) (J23.clrB y) I))).set 16 (1, fun _ => Value.int .i64 y)) bs f wr rd st lo bu ∧ OnlyE (EX b v) w w' :=
  write_pad h p i g a (where_at p 6 g a hk hg ha) y hy h14 (fun w => by rw [pv_row, pv_row]; exact J23.write_any S C D I y w) (pv_one _ _ _ _) h16
end Go.Proofs.YtpjhiopmdkieiabGreatDoor.L24
