/- Texts without a word of the program, one behind the other. -/
import Derived.Test.YtpjhiopmdkieiabGreatDoorPlainBits
import Derived.Test.YtpjhiopmdkieiabGreatDoorBits
import Derived.Laws.StructEq
import Derived.Laws.Rows
import Derived.Laws.Tables
import Derived.Laws.ResultCell
import Derived.Laws.CopyOwn
import Derived.Deep.Quiet
import Derived.Deep.MidRow
import Derived.BigFrame
import Derived.WalkMore
import Derived.OneCell
import Derived.Handy
/- Plain facts on words under a mask: 'and', 'and not', and the document's sum of bits. No word of the program is in it. -/
namespace Go.Proofs.YtpjhiopmdkieiabGreatDoor.R15

/-- The bits of a word that a mask has. -/
def andW (n m : Int) : Int := (((n % 65536).toNat &&& m.toNat : Nat) : Int)
def IsMask (m : Int) : Prop := 0 ≤ m ∧ m < 65536
theorem and_word (n m : Int) (h : IsMask m) : bits .and .i64 n m = andW n m := by
  obtain ⟨h0, h1⟩ := h
  obtain ⟨m, rfl⟩ := Int.eq_ofNat_of_zero_le h0
  have e : (BitVec.ofInt 64 n &&& BitVec.ofInt 64 (m : Int)).toNat = (n % 65536).toNat &&& m := by
    rw [BitVec.toNat_and, BitVec.ofInt_natCast, BitVec.toNat_ofNat, Nat.mod_eq_of_lt (by omega : m < 2 ^ 64), BitVec.toNat_ofInt]
    have h2 : m = m % 2 ^ 16 := (Nat.mod_eq_of_lt (by omega)).symm
    have h3 : (n % 65536).toNat = (n % ((2 ^ 64 : Nat) : Int)).toNat % 2 ^ 16 := by omega
    rw [h3]
    generalize (n % ((2 ^ 64 : Nat) : Int)).toNat = x
    conv => rhs; rw [h2, ← Nat.and_mod_two_pow]
    exact (Nat.mod_eq_of_lt (Nat.and_lt_two_pow _ (by omega))).symm
  show IntKind.i64.wrap ((BitVec.ofInt 64 n &&& BitVec.ofInt 64 (m : Int)).toNat : Nat) = _
  rw [e]
  have hl := Nat.and_lt_two_pow (n % 65536).toNat (n := 16) (y := m) (by omega)
  rw [i64_small _ (by omega) (by omega)]
  unfold andW
  simp
theorem andW_mask (n m : Int) (h : IsMask m) : IsMask (andW n m) := by
  obtain ⟨h0, h1⟩ := h
  unfold andW IsMask
  have hl := Nat.and_lt_two_pow (n % 65536).toNat (n := 16) (y := m.toNat) (by omega)
  omega
theorem andW_mod (n m : Int) : andW (n % 65536) m = andW n m := by unfold andW; rw [Int.emod_emod]
theorem andW_self (n m : Int) (h : IsMask m) : andW (andW n m) m = andW n m := by
  have k := andW_mask n m h
  have e : (andW n m % 65536).toNat = (n % 65536).toNat &&& m.toNat := by
    have : andW n m % 65536 = andW n m := Int.emod_eq_of_lt k.1 k.2
    rw [this]; unfold andW; simp
  show ((((andW n m) % 65536).toNat &&& m.toNat : Nat) : Int) = _
  rw [e, Nat.and_assoc, Nat.and_self]
  rfl

/-- The document's own: bit by bit, the lowest k of them. -/
def onlyTo (n m : Int) : Nat → Int
  | 0 => 0
  | k + 1 => onlyTo n m k + bitOf n k * bitOf m k * 2 ^ k
theorem only_mod (n m : Int) (h : IsMask m) : ∀ k : Nat, k ≤ 16 → onlyTo n m k = ((((n % 65536).toNat &&& m.toNat) % 2 ^ k : Nat) : Int)
  | 0, _ => by simp [onlyTo, Nat.mod_one]
  | k + 1, hk => by
    have ih := only_mod n m h k (by omega)
    have b1 := bitOf_test n k (by omega) (by omega)
    have b2 := bitOf_test m k (by omega) (by omega)
    have hm : m % 65536 = m := Int.emod_eq_of_lt h.1 h.2
    rw [hm] at b2
    simp only [Int.toNat_natCast] at b1 b2
    simp only [onlyTo]
    rw [ih, b1, b2, Nat.mod_pow_succ, ← Nat.toNat_testBit, Nat.testBit_and]
    by_cases c1 : (n % 65536).toNat.testBit k = true <;> by_cases c2 : m.toNat.testBit k = true <;> simp [c1, c2]
theorem only_16 (n m : Int) (h : IsMask m) : onlyTo n m 16 = andW n m := by
  rw [only_mod n m h 16 (by omega), Nat.mod_eq_of_lt (Nat.and_lt_two_pow _ (by have := h.1; have := h.2; omega))]
  rfl
theorem only_le (n m : Int) : ∀ k : Nat, k ≤ 16 → 0 ≤ onlyTo n m k ∧ onlyTo n m k < 2 ^ k
  | 0, _ => by simp [onlyTo]
  | k + 1, hk => by
    have ih := only_le n m k (by omega)
    have b1 := bitOf_01 n k
    have b2 := bitOf_01 m k
    have e : (2 : Int) ^ (k + 1) = 2 ^ k * 2 := by rw [Int.pow_succ]
    simp only [onlyTo, e]
    have c1 : bitOf n k = 0 ∨ bitOf n k = 1 := by omega
    have c2 : bitOf m k = 0 ∨ bitOf m k = 1 := by omega
    rcases c1 with c1 | c1 <;> rcases c2 with c2 | c2 <;> rw [c1, c2] <;> omega

/-- No bit beside the mask's. -/
def fits (n m : Int) : Bool := decide (0 ≤ n ∧ n ≤ 65535 ∧ andW n m = n)
theorem bic_fits (n m : Int) (hn : (Lit.int .i64 n).wf = true) (h : IsMask m) : (bits .andNot .i64 n m != 0) = !fits n m := by
  have hw : IntKind.i64.wrap n = n := by
    have k : IntKind.i64.min ≤ n ∧ n ≤ 9223372036854775807 := by simpa [Lit.wf] using hn
    rw [show IntKind.i64.min = -9223372036854775808 by decide] at k
    rw [IntKind.wrap_i64]
    omega
  have hand := and_word n m h
  have hm := andW_mask n m h
  have hs := bv_whole (BitVec.ofInt 64 n) (BitVec.ofInt 64 m)
  have hb : bits .andNot .i64 n m = IntKind.i64.wrap ((BitVec.ofInt 64 n &&& ~~~ BitVec.ofInt 64 m).toNat : Nat) := rfl
  have ha : bits .and .i64 n m = IntKind.i64.wrap ((BitVec.ofInt 64 n &&& BitVec.ofInt 64 m).toNat : Nat) := rfl
  have hx : ((BitVec.ofInt 64 n).toNat : Int) = n % ((2 ^ 64 : Nat) : Int) := by
    rw [BitVec.toNat_ofInt]
    exact Int.toNat_of_nonneg (Int.emod_nonneg _ (by decide))
  have ht := BitVec.toNat_add_of_and_eq_zero (bv_apart (BitVec.ofInt 64 n) (BitVec.ofInt 64 m))
  rw [hs] at ht
  rw [hand] at ha
  have l1 := (BitVec.ofInt 64 n &&& ~~~ BitVec.ofInt 64 m).isLt
  have l2 := (BitVec.ofInt 64 n &&& BitVec.ofInt 64 m).isLt
  have l3 := (BitVec.ofInt 64 n).isLt
  rw [hb]
  obtain ⟨m0, m1⟩ := hm
  generalize (BitVec.ofInt 64 n &&& ~~~ BitVec.ofInt 64 m).toNat = a at *
  generalize (BitVec.ofInt 64 n &&& BitVec.ofInt 64 m).toNat = b at *
  generalize (BitVec.ofInt 64 n).toNat = c at *
  rw [IntKind.wrap_i64] at ha hw ⊢
  unfold fits
  generalize andW n m = d at *
  by_cases hq : 0 ≤ n ∧ n ≤ 65535 ∧ d = n
  · rw [decide_eq_true hq]
    have : (a : Int) = 0 := by omega
    rw [this]
    decide
  · rw [decide_eq_false hq]
    have : ((a : Int) + 2 ^ 63) % 2 ^ 64 - 2 ^ 63 ≠ 0 := by omega
    simpa using this

/-- A word of two bytes, one of them new. -/
def lowOf (n b : Int) : Int := b % 256 + 256 * (n / 256 % 256)
def highOf (n b : Int) : Int := n % 256 + 256 * (b % 256)
theorem andW_two (x y m : Int) (hx : 0 ≤ x ∧ x < 256) (hy : 0 ≤ y ∧ y < 256) (h : IsMask m) : andW (x + 256 * y) m = ((x.toNat &&& (m.toNat % 256) : Nat) : Int) + 256 * ((y.toNat &&& (m.toNat / 256) : Nat) : Int) := by
  obtain ⟨m0, m1⟩ := h
  obtain ⟨x, rfl⟩ := Int.eq_ofNat_of_zero_le hx.1
  obtain ⟨y, rfl⟩ := Int.eq_ofNat_of_zero_le hy.1
  obtain ⟨m, rfl⟩ := Int.eq_ofNat_of_zero_le m0
  unfold andW
  have e : (((x : Int) + 256 * (y : Int)) % 65536).toNat = x + 256 * y := by omega
  rw [e]
  simp only [Int.toNat_natCast]
  have hmod : (((x + 256 * y) &&& m) % 2 ^ 8) = x &&& (m % 256) := by
    rw [Nat.and_mod_two_pow]
    congr 1
    omega
  have hdiv : (((x + 256 * y) &&& m) / 2 ^ 8) = y &&& (m / 256) := by
    rw [Nat.and_div_two_pow]
    congr 1
    omega
  omega
/-- Written whole, the low byte first. -/
theorem whole_word (w m : Int) (h : IsMask m) : andW (highOf (andW (lowOf 0 w) m) (w / 256)) m = andW w m := by
  have h0 := h
  obtain ⟨m0, m1⟩ := h0
  have e1 : lowOf 0 w = w % 256 + 256 * 0 := by unfold lowOf; omega
  have e2 : andW w m = andW (w % 256 + 256 * (w / 256 % 256)) m := by rw [← andW_mod]; congr 1; omega
  rw [e1, e2, andW_two _ _ m (by omega) (by omega) h, andW_two _ _ m (by omega) (by omega) h]
  have hl : (w % 256).toNat &&& (m.toNat % 256) < 2 ^ 8 := Nat.and_lt_two_pow _ (by omega)
  have e3 : highOf (((((w % 256).toNat &&& (m.toNat % 256) : Nat) : Int)) + 256 * (((0 : Int).toNat &&& (m.toNat / 256) : Nat) : Int)) (w / 256) = (((w % 256).toNat &&& (m.toNat % 256) : Nat) : Int) + 256 * (w / 256 % 256) := by
    unfold highOf
    simp
    omega
  rw [e3, andW_two _ _ m (by omega) (by omega) h]
  simp only [Int.toNat_natCast]
  rw [Nat.and_assoc, Nat.and_self]

/-- The bits that each register may have. -/
def maskL : List Int := [65535, 65535, 65535, 0, 0, 8191, 1023, 1023, 511, 255, 32543, 32639, 65311, 511, 255, 31, 65535, 65535, 65535, 65535]
def mk (k : Nat) : Int := maskL.getD k 0
theorem mk_all : ∀ k : Fin 20, 0 ≤ mk k.val ∧ mk k.val < 65536 ∧ andW (highOf (andW (lowOf 0 255) (mk k.val)) 255) (mk k.val) = mk k.val := by decide +kernel
theorem mk_mask (k : Nat) : IsMask (mk k) := by
  by_cases h : k < 20
  · have := mk_all ⟨k, h⟩
    exact ⟨this.1, this.2.1⟩
  · have e : mk k = 0 := by
      unfold mk
      rw [List.getD_eq_getElem?_getD, List.getElem?_eq_none (by simp [maskL]; omega)]
      rfl
    rw [e]
    exact ⟨by decide, by decide⟩
theorem whole_all (k : Nat) (h : k < 20) : andW (highOf (andW (lowOf 0 255) (mk k)) 255) (mk k) = mk k := (mk_all ⟨k, h⟩).2.2
/-- All registers may be. -/
def okTo (f : Nat → Int) : Nat → Bool
  | 0 => true
  | k + 1 => okTo f k && fits (f k) (mk k)
theorem okTo_iff (f : Nat → Int) : ∀ n : Nat, okTo f n = true ↔ ∀ k, k < n → fits (f k) (mk k) = true
  | 0 => by simp [okTo]
  | n + 1 => by
    simp only [okTo, Bool.and_eq_true, okTo_iff f n]
    constructor
    · rintro ⟨a, b⟩ k hk
      by_cases e : k = n
      · subst e; exact b
      · exact a k (by omega)
    · intro a
      exact ⟨fun k hk => a k (by omega), a n (by omega)⟩
def okR (s : Int) (f : Nat → Int) : Bool := okTo f 20 && decide (0 ≤ s ∧ s ≤ 31)
theorem fits_and (n : Int) (m : Int) (h : IsMask m) : fits (andW n m) m = true := by
  have k := andW_mask n m h
  unfold fits
  rw [andW_self n m h]
  exact decide_eq_true ⟨k.1, by have := k.2; omega, rfl⟩
theorem fits_0 (k : Nat) : fits 0 (mk k) = true := by
  unfold fits
  exact decide_eq_true ⟨by decide, by decide, by simp [andW]⟩
end Go.Proofs.YtpjhiopmdkieiabGreatDoor.R15

/- The registers: a struct of a number and an array of 20, its row under letters; '==' of two that are the same; loads of it and of its array. -/
namespace Go.Proofs.YtpjhiopmdkieiabGreatDoor.R15
open Go.RowKit
set_option linter.unusedVariables false

def rowG (s : Int) (f : Nat → Int) : Array Value := (.int .i64 s :: (List.range 20).map fun j => Value.int .i64 (f j)).toArray
theorem rowG_size (s : Int) (f : Nat → Int) : (rowG s f).size = 21 := by simp [rowG]
theorem rowG_0 (s : Int) (f : Nat → Int) : (rowG s f)[0]? = some (.int .i64 s) := by simp [rowG]
theorem rowG_at (s : Int) (f : Nat → Int) (j : Nat) (h : j < 20) : (rowG s f)[1 + j]? = some (.int .i64 (f j)) := by
  rw [show 1 + j = j + 1 by omega]
  simp [rowG, h]
/-- Block b holds such a struct. -/
def HasG (T : TypeId) (w : World) (b : Nat) (s : Int) (f : Nat → Int) : Prop := w.heap[b]? = some (.cells (rowG s f) T (0, 0))
theorem HasG.next {T : TypeId} {w w' : World} {b : Nat} {s : Int} {f : Nat → Int} (h : HasG T w b s f) (k : Below w.heap.size w w') : HasG T w' b s f := (k.block b (lt_of_block h)).trans h
theorem HasG.alloc {T : TypeId} {w : World} {b : Nat} {s : Int} {f : Nat → Int} (h : HasG T w b s f) (x : Obj) : HasG T (w.alloc x) b s f := h.next ((Below.refl _ w).alloc (Nat.le_refl _) _)
theorem hasG_new (T : TypeId) (w : World) (s : Int) (f : Nat → Int) : HasG T (w.alloc (.cells (rowG s f) T)) w.heap.size s f := heap_alloc_new _ _
theorem HasG.lt {T : TypeId} {w : World} {b : Nat} {s : Int} {f : Nat → Int} (h : HasG T w b s f) : b < w.heap.size := lt_of_block h
theorem HasG.c0 {T : TypeId} {w : World} {b : Nat} {s : Int} {f : Nat → Int} (h : HasG T w b s f) : w.cell? ⟨b, 0, none⟩ = some (.int .i64 s) := (cell_of_row w b 0 _ _ _ h).trans (rowG_0 s f)
theorem HasG.at {T : TypeId} {w : World} {b : Nat} {s : Int} {f : Nat → Int} (h : HasG T w b s f) (j : Nat) (hj : j < 20) : w.cell? ⟨b, 1 + j, none⟩ = some (.int .i64 (f j)) := (cell_of_row w b (1 + j) _ _ _ h).trans (rowG_at s f j hj)
theorem HasG.frozen {T : TypeId} {w : World} {b : Nat} {s : Int} {f : Nat → Int} (h : HasG T w b s f) (j : Nat) : w.frozen? ⟨b, j, none⟩ = false := frozen_of_row w b j _ _ h

def upd (f : Nat → Int) (i : Nat) (v : Int) : Nat → Int := fun j => if j = i then v else f j
theorem upd_same (f : Nat → Int) (i : Nat) (v : Int) : upd f i v i = v := by simp [upd]
theorem upd_other (f : Nat → Int) (i j : Nat) (v : Int) (h : ¬ j = i) : upd f i v j = f j := by simp [upd, h]
theorem rowG_set0 (s x : Int) (f : Nat → Int) : (rowG s f).setIfInBounds 0 (.int .i64 x) = rowG x f := by
  unfold rowG
  rw [List.setIfInBounds_toArray]
  rfl
theorem map_set (N i : Nat) (x : Int) (f : Nat → Int) : ((List.range N).map fun j => Value.int .i64 (f j)).set i (.int .i64 x) = (List.range N).map fun j => Value.int .i64 (upd f i x j) := by
  apply List.ext_getElem?
  intro j
  rw [List.getElem?_set]
  simp only [List.getElem?_map, List.length_map, List.length_range]
  by_cases h : i = j
  · subst h
    by_cases k : i < N
    · simp [k, upd]
    · simp [k]
  · rw [if_neg h]
    by_cases k : j < N
    · simp [k, upd, show ¬ j = i from fun e => h e.symm]
    · simp [k]
theorem rowG_set (s x : Int) (f : Nat → Int) (i : Nat) : (rowG s f).setIfInBounds (1 + i) (.int .i64 x) = rowG s (upd f i x) := by
  unfold rowG
  rw [List.setIfInBounds_toArray, show 1 + i = i + 1 by omega, List.set_cons_succ, map_set]
theorem rowG_one (s : Int) (f : Nat → Int) : (rowG s f).all (·.oneCell') = true := by
  unfold rowG
  rw [← Array.all_toList]
  simp [Value.oneCell']
theorem rowG_ext (s : Int) (f g : Nat → Int) (h : ∀ j, j < 20 → f j = g j) : rowG s f = rowG s g := by
  unfold rowG
  congr 2
  apply List.map_congr_left
  intro j hj
  rw [h j (List.mem_range.1 hj)]
theorem HasG.set0 {T : TypeId} {w : World} {b : Nat} {s : Int} {f : Nat → Int} (h : HasG T w b s f) (x : Int) : HasG T (w.setCell ⟨b, 0, none⟩ (.int .i64 x)) b x f := by
  have k := heap_setCell_same w b 0 _ _ (.int .i64 x) h
  rw [rowG_set0] at k
  exact k
theorem HasG.set {T : TypeId} {w : World} {b : Nat} {s : Int} {f : Nat → Int} (h : HasG T w b s f) (i : Nat) (x : Int) : HasG T (w.setCell ⟨b, 1 + i, none⟩ (.int .i64 x)) b s (upd f i x) := by
  have k := heap_setCell_same w b (1 + i) _ _ (.int .i64 x) h
  rw [rowG_set] at k
  exact k
theorem HasG.other {T : TypeId} {w : World} {b : Nat} {s : Int} {f : Nat → Int} (h : HasG T w b s f) (p : Addr) (v : Value) (hb : b ≠ p.block) : HasG T (w.setCell p v) b s f := (heap_setCell_other w p b v hb).trans h
theorem HasG.row {T : TypeId} {w : World} {b g : Nat} {s : Int} {f : Nat → Int} (h : HasG T w b s f) (cs : Array Value) (hb : b ≠ g) : HasG T (w.setRow g cs) b s f := (setRow_other w g b cs hb).trans h
/-- The zero value's cells. -/
def zeroG : Array Value := rowG 0 (fun _ => 0)
theorem zero_lit : (#[.int .i64 0, .int .i64 0, .int .i64 0, .int .i64 0, .int .i64 0, .int .i64 0, .int .i64 0, .int .i64 0, .int .i64 0, .int .i64 0, .int .i64 0, .int .i64 0, .int .i64 0, .int .i64 0, .int .i64 0, .int .i64 0, .int .i64 0, .int .i64 0, .int .i64 0, .int .i64 0, .int .i64 0] : Array Value) = rowG 0 (fun _ => 0) := rfl
theorem info_G (s : Int) (f : Nat → Int) : (Tryz.prog.info? 27).map (·.size) = some (rowG s f).size := by
  rw [rowG_size]
  kernel_rfl
theorem agg_0 (s : Int) (f : Nat → Int) : ((rowG s f)[0]?).getD undef = .int .i64 s := by rw [rowG_0]; rfl

/-! ### '==' -/
def listG (f : Nat → Int) : List Int := (List.range 20).map f
theorem listG_length (f : Nat → Int) : (listG f).length = 20 := by simp [listG]
theorem rowG_extract (s : Int) (f : Nat → Int) : (rowG s f).extract 1 21 = ((listG f).map (Value.int .i64)).toArray := by
  apply Array.ext_getElem?
  intro j
  rw [Array.getElem?_extract]
  have hs := rowG_size s f
  by_cases h : j < 20
  · rw [if_pos (by omega), rowG_at s f j h]
    simp [listG, h]
  · rw [if_neg (by omega)]
    exact (Array.getElem?_eq_none (by simp [listG]; omega)).symm
theorem part_0 (s : Int) (f : Nat → Int) (w : World) : (part 3 (rowG s f) 0).run Tryz.prog w = .ok (.int .i64 s) w := by
  have h := rowG_0 s f
  simp [part, isAgg, run_underlying Tryz.underlying3, h]
theorem size_tab (w : World) : (sizeOf 25).run Tryz.prog w = .ok 20 w := by
  have h : (Tryz.prog.info? 25).map (·.size) = some 20 := by kernel_rfl
  cases hq : Tryz.prog.info? 25 with
  | none => rw [hq] at h; cases h
  | some i =>
    rw [hq] at h
    have : i.size = 20 := by simpa using h
    simp [sizeOf, typeInfo, hq, this]
theorem size_int (w : World) : (sizeOf 3).run Tryz.prog w = .ok 1 w := by
  have h : (Tryz.prog.info? 3).map (·.size) = some 1 := by kernel_rfl
  cases hq : Tryz.prog.info? 3 with
  | none => rw [hq] at h; cases h
  | some i =>
    rw [hq] at h
    have : i.size = 1 := by simpa using h
    simp [sizeOf, typeInfo, hq, this]
theorem part_1 (s : Int) (f : Nat → Int) (w : World) : (part 25 (rowG s f) 1).run Tryz.prog w = .ok (.agg ((listG f).map (Value.int .i64)).toArray) w := by
  have h := rowG_extract s f
  have hs := rowG_size s f
  simp [part, isAgg, run_underlying Tryz.underlying25, h, hs]
theorem same_tab (f : Nat → Int) (d : Nat) (w : World) : (Op.equalIn (d + 2) 25 (.agg ((listG f).map (Value.int .i64)).toArray) (.agg ((listG f).map (Value.int .i64)).toArray)).run Tryz.prog w = .ok true w := by
  rw [run_equalIn_ints w d 25 3 20 Tryz.underlying25 Tryz.underlying3 size_int _ _ (listG_length f) (listG_length f), beq_self_eq_true]
theorem eqG_self (s : Int) (f : Nat → Int) (w : World) : (binOp .eql 27 (.agg (rowG s f)) (.agg (rowG s f))).run Tryz.prog w = .ok (.bool true) w := by
  rw [run_eql_struct, run_equalIn_struct w 9999 27 _ _ (by kernel_rfl) (by kernel_rfl)]
  simp only [Program.fieldsOf, Tryz.underlying27, Op.eqFields]
  have i0 : ∀ w, (Op.equalIn 9999 3 (.int .i64 s) (.int .i64 s)).run Tryz.prog w = .ok true w := fun w => by
    rw [run_equalIn_int w 9998 3 .i64 .i64 _ _ Tryz.underlying3]
    simp
  have i1 := same_tab f 9997
  simp [Sem.run_bind, part_0, part_1, i0, i1]
theorem eqT_self (f : Nat → Int) (w : World) : (binOp .eql 25 (.agg ((listG f).map (Value.int .i64)).toArray) (.agg ((listG f).map (Value.int .i64)).toArray)).run Tryz.prog w = .ok (.bool true) w := by
  rw [run_eql_ints w 25 3 20 Tryz.underlying25 Tryz.underlying3 size_int _ _ (listG_length f) (listG_length f), beq_self_eq_true]

/-! ### Loads -/
theorem HasG.range {T : TypeId} {w : World} {b : Nat} {s : Int} {f : Nat → Int} (h : HasG T w b s f) : w.rangeAt b 1 ((listG f).map (Value.int .i64)) := by
  intro j v hv
  obtain ⟨hj, he⟩ := List.getElem?_eq_some_iff.1 hv
  have h5 : j < 20 := by simpa [listG_length] using hj
  rw [h.at j h5, ← he]
  simp [listG]
theorem info_T (f : Nat → Int) : (Tryz.prog.info? 25).map (·.size) = some ((listG f).map (Value.int .i64)).length := by
  rw [List.length_map, listG_length]
  kernel_rfl
theorem wpList_mid_want {P : Program} {ops : Array Oper} {rest : List Oper} {op : Oper} {a : Act} {w : World} {Q : Exit → Act → World → Prop} (hw : Region.wanted op (yielded ops a.tmps) = true) (ty : TypeId) (x : Operand) (ho : op.op = .load ty x)
    (b o : Nat) (hx : a.eval x = .pointer (some ⟨b, o, none⟩)) (cs : List Value) (d : TypeDesc) (hc : w.rangeAt b o cs)
    (hu : P.underlying ty = some d) (hd : d.isRow = true) (hi : (P.info? ty).map (·.size) = some cs.length)
    (h : wpList P ops Q rest (a.put op.dst (.agg cs.toArray)) w) : wpList P ops Q (op :: rest) a w :=
  BigFrame.wpList_want hw fun _ hK => wp_load_mid ty x ho b o hx cs d hc hu hd hi (hK _ _ h)
/-- A load of a whole row that is guarded, and wanted. -/
theorem wpList_load_want {P : Program} {ops : Array Oper} {rest : List Oper} {o : Oper} {a : Act} {w : World} {Q : Exit → Act → World → Prop} (hw : Region.wanted o (yielded ops a.tmps) = true) (ty : TypeId) (x : Operand) (ho : o.op = .load ty x)
    (g : Nat) (hx : a.eval x = .pointer (some ⟨g, 0, none⟩)) (t : TypeId) (cs : Array Value) (fr : Nat × Nat) (d : TypeDesc) (hg : w.heap[g]? = some (.cells cs t fr))
    (hu : P.underlying ty = some d) (hd : (match d with | .struct _ | .array _ _ => true | _ => false) = true) (hi : (P.info? ty).map (·.size) = some cs.size)
    (h : wpList P ops Q rest (a.put o.dst (.agg cs)) w) : wpList P ops Q (o :: rest) a w :=
  BigFrame.wpList_want hw fun _ hK => wp_load_row ty x ho g hx t cs fr d hg hu hd hi (hK _ _ h)
theorem wpQuiet_row {P : Program} {ops : Array Oper} {C : World → Prop} {Q : Act → Prop} {a : Act} {o : Oper} {rest : List Oper} (hw : Region.wanted o (yielded ops a.tmps) = true) (ty : TypeId) (x : Operand) (ho : o.op = .load ty x)
    (g : Nat) (hx : a.eval x = .pointer (some ⟨g, 0, none⟩)) (t : TypeId) (cs : Array Value) (fr : Nat × Nat) (d : TypeDesc) (hg : ∀ w, C w → w.heap[g]? = some (.cells cs t fr))
    (hu : P.underlying ty = some d) (hd : (match d with | .struct _ | .array _ _ => true | _ => false) = true) (hi : (P.info? ty).map (·.size) = some cs.size)
    (h : wpQuiet P ops C Q rest (a.put o.dst (.agg cs))) : wpQuiet P ops C Q (o :: rest) a := by
  unfold wpQuiet
  rw [if_pos hw]
  refine ⟨.agg cs, fun w hC => ?_, h⟩
  unfold Oper.quietAt execOp
  simp only [ho, hx, Instr.loadAt, Instr.sureAddr, Sem.run_bind, Sem.run_pure, Result.andThen_ok, run_loadVar_row w g t ty cs fr d (hg w hC) hu hd hi]
  exact ⟨rfl, rfl⟩
/-- An element of the array, by a number under a letter. -/
theorem tab_index (f : Nat → Int) (k : Nat) (hk : k < 20) (w : World) : (Instr.index 25 (.agg ((listG f).map (Value.int .i64)).toArray) (.int .i64 (k : Int))).run Tryz.prog w = .ok (.int .i64 (f k)) w := by
  have e : ((listG f).map (Value.int .i64)).toArray[k]? = some (.int .i64 (f k)) := by simp [listG, hk]
  have h0 : (0 : Int) ≤ k ∧ (k : Int) < ((20 : Nat) : Int) := by omega
  have h1 : (k : Int) < 20 := by omega
  have hs := size_int w
  generalize ((listG f).map (Value.int .i64)).toArray = cs at e ⊢
  simp only [Instr.index, asIntOf, part]
  simp only [run_underlying Tryz.underlying25, Sem.run_bind, Result.andThen]
  simp [h0, h1, hs, e, isAgg, run_underlying Tryz.underlying3, Result.andThen]
end Go.Proofs.YtpjhiopmdkieiabGreatDoor.R15

/- Package regs: the contracts of half, brings, Fresh, Write, Valid. -/
namespace Go.Proofs.YtpjhiopmdkieiabGreatDoor.R15
open Go.RowKit
set_option linter.unusedVariables false

/-- The table of the bits that each register may have, as its cells lie. -/
def maskCells : Array Value := (maskL.map (Value.int .i64)).toArray
def HasMask (w : World) : Prop := ∃ t fr, w.heap[3]? = some (.cells maskCells t fr)
theorem HasMask.pos {w : World} (h : HasMask w) : 3 < w.heap.size := by
  obtain ⟨t, fr, e⟩ := h
  exact lt_of_block e
theorem HasMask.next {w w' : World} (h : HasMask w) (b : Below w.heap.size w w') : HasMask w' := by
  have k := h.pos
  obtain ⟨t, fr, e⟩ := h
  exact ⟨t, fr, (b.block 3 k).trans e⟩
theorem mask_cell : ∀ k : Fin 20, maskL[k.val]? = some (mk k.val) := by decide +kernel
theorem HasMask.at {w : World} (h : HasMask w) (k : Nat) (hk : k < 20) : w.cell? ⟨3, k, none⟩ = some (.int .i64 (mk k)) := by
  obtain ⟨t, fr, e⟩ := h
  rw [cell_of_row w 3 k _ _ _ e]
  have := mask_cell ⟨k, hk⟩
  simp only at this
  simp [maskCells, this]

def halfOf (n a b : Int) : Int := if a = 2 then lowOf n b else highOf n b
theorem half_any (n a b x : Int) (hx : halfOf n a b = x) (w : World) : Calls Tryz.prog 71 #[.int .i64 n, .int .i64 a, .int .i64 b] w fun e w' => e = .returned (.int .i64 x) ∧ Below w.heap.size w w' := by
  unfold halfOf lowOf highOf at hx
  have HX := hide hx
  clear hx
  by_cases h : a = 2
  · have HH := hide h
    go_enter Tryz.func71, Tryz.ntmps71
    go_wp2_with (first | (go_at_call 84; refine (split_any _ _).mono ?_; rintro e w' ⟨rfl, hw⟩; subst w') | (go_at_call 79; refine (join_any _ _ _).mono ?_; rintro e w' ⟨rfl, bw⟩))
    go_ret
    exact ⟨ret_int (by rw [← HX.out, if_pos HH.out]), bw⟩
  · have HH := hide h
    go_enter Tryz.func71, Tryz.ntmps71
    go_wp2_with (first | (go_at_call 84; refine (split_any _ _).mono ?_; rintro e w' ⟨rfl, hw⟩; subst w') | (go_at_call 79; refine (join_any _ _ _).mono ?_; rintro e w' ⟨rfl, bw⟩))
    go_ret
    exact ⟨ret_int (by rw [← HX.out, if_neg HH.out]), bw⟩

def bringsOf (s a : Int) : Int := if s = 0 then 1 else if a = 2 then (if s = 2 then 3 else 0) else if s = 1 then 2 else if s = 2 then 4 else if s = 5 then 5 else if s = 18 then 6 else if s = 19 then 7 else 0
theorem brings_any (s a x : Int) (hx : bringsOf s a = x) (w : World) : Calls Tryz.prog 72 #[.int .i64 s, .int .i64 a] w fun e w' => e = .returned (.int .i64 x) ∧ w' = w := by
  unfold bringsOf at hx
  have HX := hide hx
  clear hx
  by_cases h0 : s = 0
  · rw [if_pos h0] at HX
    subst h0
    go_enter Tryz.func72, Tryz.ntmps72
    go_wp2
    go_ret
    exact ⟨ret_int HX.out, rfl⟩
  · rw [if_neg h0] at HX
    by_cases ha : a = 2
    · rw [if_pos ha] at HX
      subst ha
      by_cases h2 : s = 2
      · rw [if_pos h2] at HX
        subst h2
        go_enter Tryz.func72, Tryz.ntmps72
        go_wp2
        go_ret
        exact ⟨ret_int HX.out, rfl⟩
      · rw [if_neg h2] at HX
        go_enter Tryz.func72, Tryz.ntmps72
        go_wp2
        go_ret
        exact ⟨ret_int HX.out, rfl⟩
    · rw [if_neg ha] at HX
      have ha2 : (a == 2) = false := by simpa using ha
      by_cases h1 : s = 1
      · subst h1
        go_enter Tryz.func72, Tryz.ntmps72
        go_wp2
        go_ret
        exact ⟨ret_int HX.out, rfl⟩
      · by_cases h2 : s = 2
        · subst h2
          go_enter Tryz.func72, Tryz.ntmps72
          go_wp2
          go_ret
          exact ⟨ret_int HX.out, rfl⟩
        · by_cases h5 : s = 5
          · subst h5
            go_enter Tryz.func72, Tryz.ntmps72
            go_wp2
            go_ret
            exact ⟨ret_int HX.out, rfl⟩
          · by_cases h8 : s = 18
            · subst h8
              go_enter Tryz.func72, Tryz.ntmps72
              go_wp2
              go_ret
              exact ⟨ret_int HX.out, rfl⟩
            · by_cases h9 : s = 19
              · subst h9
                go_enter Tryz.func72, Tryz.ntmps72
                go_wp2
                go_ret
                exact ⟨ret_int HX.out, rfl⟩
              · rw [if_neg h1, if_neg h2, if_neg h5, if_neg h8, if_neg h9] at HX
                go_enter Tryz.func72, Tryz.ntmps72
                go_wp2
                go_ret
                exact ⟨ret_int HX.out, rfl⟩

end Go.Proofs.YtpjhiopmdkieiabGreatDoor.R15

/- Package regs: the contract of Write. -/
namespace Go.Proofs.YtpjhiopmdkieiabGreatDoor.R15
open Go.RowKit
set_option linter.unusedVariables false

theorem and_31 (n : Int) : bits .and .i64 n 31 = n % 32 := and_mask 5 (by decide) n
theorem write_sel (s b x : Int) (f : Nat → Int) (hx : b % 32 = x) (w : World) : Calls Tryz.prog 43 #[.agg (rowG s f), .int .i64 0, .int .i64 b] w fun e w' => e = .returned (.tuple #[.agg (rowG x f), .int .i64 0]) ∧ Below w.heap.size w w' := by
  have e5 := and_31 b
  rw [hx] at e5
  clear hx
  have V0 := (hasG_new 27 w s f).alloc (.cells #[.int .i64 0, .int .i64 0, .int .i64 0, .int .i64 0, .int .i64 0, .int .i64 0, .int .i64 0, .int .i64 0, .int .i64 0, .int .i64 0, .int .i64 0, .int .i64 0, .int .i64 0, .int .i64 0, .int .i64 0, .int .i64 0, .int .i64 0, .int .i64 0, .int .i64 0, .int .i64 0, .int .i64 0] 27)
  have Z0 := heap_alloc2_new w (.cells (rowG s f) 27) (.cells #[.int .i64 0, .int .i64 0, .int .i64 0, .int .i64 0, .int .i64 0, .int .i64 0, .int .i64 0, .int .i64 0, .int .i64 0, .int .i64 0, .int .i64 0, .int .i64 0, .int .i64 0, .int .i64 0, .int .i64 0, .int .i64 0, .int .i64 0, .int .i64 0, .int .i64 0, .int .i64 0, .int .i64 0] 27)
  have B0 := ((Below.refl _ w).alloc (Nat.le_refl _) (.cells (rowG s f) 27)).alloc (by simp) (.cells #[.int .i64 0, .int .i64 0, .int .i64 0, .int .i64 0, .int .i64 0, .int .i64 0, .int .i64 0, .int .i64 0, .int .i64 0, .int .i64 0, .int .i64 0, .int .i64 0, .int .i64 0, .int .i64 0, .int .i64 0, .int .i64 0, .int .i64 0, .int .i64 0, .int .i64 0, .int .i64 0, .int .i64 0] 27)
  have c0 := V0.c0
  have z0 := V0.frozen 0
  clear V0 Z0 B0
  have hr := rowG_set0 s x f
  have V1 := hide ((hasG_new 27 w x f).alloc (.cells #[.int .i64 0, .int .i64 0, .int .i64 0, .int .i64 0, .int .i64 0, .int .i64 0, .int .i64 0, .int .i64 0, .int .i64 0, .int .i64 0, .int .i64 0, .int .i64 0, .int .i64 0, .int .i64 0, .int .i64 0, .int .i64 0, .int .i64 0, .int .i64 0, .int .i64 0, .int .i64 0, .int .i64 0] 27))
  have Z1 := hide (heap_alloc2_new w (.cells (rowG x f) 27) (.cells #[.int .i64 0, .int .i64 0, .int .i64 0, .int .i64 0, .int .i64 0, .int .i64 0, .int .i64 0, .int .i64 0, .int .i64 0, .int .i64 0, .int .i64 0, .int .i64 0, .int .i64 0, .int .i64 0, .int .i64 0, .int .i64 0, .int .i64 0, .int .i64 0, .int .i64 0, .int .i64 0, .int .i64 0] 27))
  have B1 := hide (((Below.refl _ w).alloc (Nat.le_refl _) (.cells (rowG x f) 27)).alloc (by simp) (.cells #[.int .i64 0, .int .i64 0, .int .i64 0, .int .i64 0, .int .i64 0, .int .i64 0, .int .i64 0, .int .i64 0, .int .i64 0, .int .i64 0, .int .i64 0, .int .i64 0, .int .i64 0, .int .i64 0, .int .i64 0, .int .i64 0, .int .i64 0, .int .i64 0, .int .i64 0, .int .i64 0, .int .i64 0] 27))
  go_enter Tryz.func43, Tryz.ntmps43
  go_wp2_with (first
    | (refine wpList_load_row rfl 27 (.tmp 3) rfl w.heap.size rfl 27 _ (0, 0) _ V1.out Tryz.underlying27 rfl (info_G _ _) ?_)
    | (refine wpList_store_row rfl 27 (.tmp 6) (.tmp 14) rfl (w.heap.size + 1) _ rfl rfl 27 _ Z1.out (info_G _ _) (by rw [rowG_size]; rfl) (rowG_one _ _) ?_)
    | (refine bodyPost_ret (results_agg_tmp rfl _ _ (w.heap.size + 1) 27 _ (0, 0) _ rfl (setRow_heap _ _ _ _ _ _ Z1.out) Tryz.underlying27 rfl (info_G _ _)) rfl ⟨rfl, below_setRow B1.out (Nat.le_succ _) _⟩))
theorem write_no (a s b : Int) (f : Nat → Int) (h : a ≠ 0 ∧ (a = 2 ∨ a = 3 → s < 0 ∨ 20 ≤ s)) (w : World) : Calls Tryz.prog 43 #[.agg (rowG s f), .int .i64 a, .int .i64 b] w fun e w' => e = .returned (.tuple #[.agg (rowG s f), .int .i64 0]) ∧ Below w.heap.size w w' := by
  obtain ⟨h0, hs⟩ := h
  by_cases h2 : a = 2
  · subst h2
    rcases hs (.inl rfl) with k | k
    · clear hs
      have V0 := (hasG_new 27 w s f).alloc (.cells #[.int .i64 0, .int .i64 0, .int .i64 0, .int .i64 0, .int .i64 0, .int .i64 0, .int .i64 0, .int .i64 0, .int .i64 0, .int .i64 0, .int .i64 0, .int .i64 0, .int .i64 0, .int .i64 0, .int .i64 0, .int .i64 0, .int .i64 0, .int .i64 0, .int .i64 0, .int .i64 0, .int .i64 0] 27)
      have Z0 := heap_alloc2_new w (.cells (rowG s f) 27) (.cells #[.int .i64 0, .int .i64 0, .int .i64 0, .int .i64 0, .int .i64 0, .int .i64 0, .int .i64 0, .int .i64 0, .int .i64 0, .int .i64 0, .int .i64 0, .int .i64 0, .int .i64 0, .int .i64 0, .int .i64 0, .int .i64 0, .int .i64 0, .int .i64 0, .int .i64 0, .int .i64 0, .int .i64 0] 27)
      have B0 := ((Below.refl _ w).alloc (Nat.le_refl _) (.cells (rowG s f) 27)).alloc (by simp) (.cells #[.int .i64 0, .int .i64 0, .int .i64 0, .int .i64 0, .int .i64 0, .int .i64 0, .int .i64 0, .int .i64 0, .int .i64 0, .int .i64 0, .int .i64 0, .int .i64 0, .int .i64 0, .int .i64 0, .int .i64 0, .int .i64 0, .int .i64 0, .int .i64 0, .int .i64 0, .int .i64 0, .int .i64 0] 27)
      have c0 := V0.c0
      have z0 := V0.frozen 0
      have V1 := hide V0
      have Z1 := hide Z0
      have B1 := hide B0
      clear V0 Z0 B0
      go_enter Tryz.func43, Tryz.ntmps43
      go_wp2_with (first
        | (refine wpList_load_row rfl 27 (.tmp 3) rfl w.heap.size rfl 27 _ (0, 0) _ V1.out Tryz.underlying27 rfl (info_G _ _) ?_)
        | (refine wpList_store_row rfl 27 (.tmp 6) (.tmp 48) rfl (w.heap.size + 1) _ rfl rfl 27 _ Z1.out (info_G _ _) (by rw [rowG_size]; rfl) (rowG_one _ _) ?_)
        | (refine bodyPost_ret (results_agg_tmp rfl _ _ (w.heap.size + 1) 27 _ (0, 0) _ rfl (setRow_heap _ _ _ _ _ _ Z1.out) Tryz.underlying27 rfl (info_G _ _)) rfl ⟨rfl, below_setRow B1.out (Nat.le_succ _) _⟩))
    · clear hs
      have V0 := (hasG_new 27 w s f).alloc (.cells #[.int .i64 0, .int .i64 0, .int .i64 0, .int .i64 0, .int .i64 0, .int .i64 0, .int .i64 0, .int .i64 0, .int .i64 0, .int .i64 0, .int .i64 0, .int .i64 0, .int .i64 0, .int .i64 0, .int .i64 0, .int .i64 0, .int .i64 0, .int .i64 0, .int .i64 0, .int .i64 0, .int .i64 0] 27)
      have Z0 := heap_alloc2_new w (.cells (rowG s f) 27) (.cells #[.int .i64 0, .int .i64 0, .int .i64 0, .int .i64 0, .int .i64 0, .int .i64 0, .int .i64 0, .int .i64 0, .int .i64 0, .int .i64 0, .int .i64 0, .int .i64 0, .int .i64 0, .int .i64 0, .int .i64 0, .int .i64 0, .int .i64 0, .int .i64 0, .int .i64 0, .int .i64 0, .int .i64 0] 27)
      have B0 := ((Below.refl _ w).alloc (Nat.le_refl _) (.cells (rowG s f) 27)).alloc (by simp) (.cells #[.int .i64 0, .int .i64 0, .int .i64 0, .int .i64 0, .int .i64 0, .int .i64 0, .int .i64 0, .int .i64 0, .int .i64 0, .int .i64 0, .int .i64 0, .int .i64 0, .int .i64 0, .int .i64 0, .int .i64 0, .int .i64 0, .int .i64 0, .int .i64 0, .int .i64 0, .int .i64 0, .int .i64 0] 27)
      have c0 := V0.c0
      have z0 := V0.frozen 0
      have V1 := hide V0
      have Z1 := hide Z0
      have B1 := hide B0
      clear V0 Z0 B0
      go_enter Tryz.func43, Tryz.ntmps43
      go_wp2_with (first
        | (refine wpList_load_row rfl 27 (.tmp 3) rfl w.heap.size rfl 27 _ (0, 0) _ V1.out Tryz.underlying27 rfl (info_G _ _) ?_)
        | (refine wpList_store_row rfl 27 (.tmp 6) (.tmp 48) rfl (w.heap.size + 1) _ rfl rfl 27 _ Z1.out (info_G _ _) (by rw [rowG_size]; rfl) (rowG_one _ _) ?_)
        | (refine bodyPost_ret (results_agg_tmp rfl _ _ (w.heap.size + 1) 27 _ (0, 0) _ rfl (setRow_heap _ _ _ _ _ _ Z1.out) Tryz.underlying27 rfl (info_G _ _)) rfl ⟨rfl, below_setRow B1.out (Nat.le_succ _) _⟩))
  · by_cases h3 : a = 3
    · subst h3
      rcases hs (.inr rfl) with k | k
      · clear hs
        have V0 := (hasG_new 27 w s f).alloc (.cells #[.int .i64 0, .int .i64 0, .int .i64 0, .int .i64 0, .int .i64 0, .int .i64 0, .int .i64 0, .int .i64 0, .int .i64 0, .int .i64 0, .int .i64 0, .int .i64 0, .int .i64 0, .int .i64 0, .int .i64 0, .int .i64 0, .int .i64 0, .int .i64 0, .int .i64 0, .int .i64 0, .int .i64 0] 27)
        have Z0 := heap_alloc2_new w (.cells (rowG s f) 27) (.cells #[.int .i64 0, .int .i64 0, .int .i64 0, .int .i64 0, .int .i64 0, .int .i64 0, .int .i64 0, .int .i64 0, .int .i64 0, .int .i64 0, .int .i64 0, .int .i64 0, .int .i64 0, .int .i64 0, .int .i64 0, .int .i64 0, .int .i64 0, .int .i64 0, .int .i64 0, .int .i64 0, .int .i64 0] 27)
        have B0 := ((Below.refl _ w).alloc (Nat.le_refl _) (.cells (rowG s f) 27)).alloc (by simp) (.cells #[.int .i64 0, .int .i64 0, .int .i64 0, .int .i64 0, .int .i64 0, .int .i64 0, .int .i64 0, .int .i64 0, .int .i64 0, .int .i64 0, .int .i64 0, .int .i64 0, .int .i64 0, .int .i64 0, .int .i64 0, .int .i64 0, .int .i64 0, .int .i64 0, .int .i64 0, .int .i64 0, .int .i64 0] 27)
        have c0 := V0.c0
        have z0 := V0.frozen 0
        have V1 := hide V0
        have Z1 := hide Z0
        have B1 := hide B0
        clear V0 Z0 B0
        go_enter Tryz.func43, Tryz.ntmps43
        go_wp2_with (first
          | (refine wpList_load_row rfl 27 (.tmp 3) rfl w.heap.size rfl 27 _ (0, 0) _ V1.out Tryz.underlying27 rfl (info_G _ _) ?_)
          | (refine wpList_store_row rfl 27 (.tmp 6) (.tmp 48) rfl (w.heap.size + 1) _ rfl rfl 27 _ Z1.out (info_G _ _) (by rw [rowG_size]; rfl) (rowG_one _ _) ?_)
          | (refine bodyPost_ret (results_agg_tmp rfl _ _ (w.heap.size + 1) 27 _ (0, 0) _ rfl (setRow_heap _ _ _ _ _ _ Z1.out) Tryz.underlying27 rfl (info_G _ _)) rfl ⟨rfl, below_setRow B1.out (Nat.le_succ _) _⟩))
      · clear hs
        have V0 := (hasG_new 27 w s f).alloc (.cells #[.int .i64 0, .int .i64 0, .int .i64 0, .int .i64 0, .int .i64 0, .int .i64 0, .int .i64 0, .int .i64 0, .int .i64 0, .int .i64 0, .int .i64 0, .int .i64 0, .int .i64 0, .int .i64 0, .int .i64 0, .int .i64 0, .int .i64 0, .int .i64 0, .int .i64 0, .int .i64 0, .int .i64 0] 27)
        have Z0 := heap_alloc2_new w (.cells (rowG s f) 27) (.cells #[.int .i64 0, .int .i64 0, .int .i64 0, .int .i64 0, .int .i64 0, .int .i64 0, .int .i64 0, .int .i64 0, .int .i64 0, .int .i64 0, .int .i64 0, .int .i64 0, .int .i64 0, .int .i64 0, .int .i64 0, .int .i64 0, .int .i64 0, .int .i64 0, .int .i64 0, .int .i64 0, .int .i64 0] 27)
        have B0 := ((Below.refl _ w).alloc (Nat.le_refl _) (.cells (rowG s f) 27)).alloc (by simp) (.cells #[.int .i64 0, .int .i64 0, .int .i64 0, .int .i64 0, .int .i64 0, .int .i64 0, .int .i64 0, .int .i64 0, .int .i64 0, .int .i64 0, .int .i64 0, .int .i64 0, .int .i64 0, .int .i64 0, .int .i64 0, .int .i64 0, .int .i64 0, .int .i64 0, .int .i64 0, .int .i64 0, .int .i64 0] 27)
        have c0 := V0.c0
        have z0 := V0.frozen 0
        have V1 := hide V0
        have Z1 := hide Z0
        have B1 := hide B0
        clear V0 Z0 B0
        go_enter Tryz.func43, Tryz.ntmps43
        go_wp2_with (first
          | (refine wpList_load_row rfl 27 (.tmp 3) rfl w.heap.size rfl 27 _ (0, 0) _ V1.out Tryz.underlying27 rfl (info_G _ _) ?_)
          | (refine wpList_store_row rfl 27 (.tmp 6) (.tmp 48) rfl (w.heap.size + 1) _ rfl rfl 27 _ Z1.out (info_G _ _) (by rw [rowG_size]; rfl) (rowG_one _ _) ?_)
          | (refine bodyPost_ret (results_agg_tmp rfl _ _ (w.heap.size + 1) 27 _ (0, 0) _ rfl (setRow_heap _ _ _ _ _ _ Z1.out) Tryz.underlying27 rfl (info_G _ _)) rfl ⟨rfl, below_setRow B1.out (Nat.le_succ _) _⟩))
    · clear hs
      have V0 := (hasG_new 27 w s f).alloc (.cells #[.int .i64 0, .int .i64 0, .int .i64 0, .int .i64 0, .int .i64 0, .int .i64 0, .int .i64 0, .int .i64 0, .int .i64 0, .int .i64 0, .int .i64 0, .int .i64 0, .int .i64 0, .int .i64 0, .int .i64 0, .int .i64 0, .int .i64 0, .int .i64 0, .int .i64 0, .int .i64 0, .int .i64 0] 27)
      have Z0 := heap_alloc2_new w (.cells (rowG s f) 27) (.cells #[.int .i64 0, .int .i64 0, .int .i64 0, .int .i64 0, .int .i64 0, .int .i64 0, .int .i64 0, .int .i64 0, .int .i64 0, .int .i64 0, .int .i64 0, .int .i64 0, .int .i64 0, .int .i64 0, .int .i64 0, .int .i64 0, .int .i64 0, .int .i64 0, .int .i64 0, .int .i64 0, .int .i64 0] 27)
      have B0 := ((Below.refl _ w).alloc (Nat.le_refl _) (.cells (rowG s f) 27)).alloc (by simp) (.cells #[.int .i64 0, .int .i64 0, .int .i64 0, .int .i64 0, .int .i64 0, .int .i64 0, .int .i64 0, .int .i64 0, .int .i64 0, .int .i64 0, .int .i64 0, .int .i64 0, .int .i64 0, .int .i64 0, .int .i64 0, .int .i64 0, .int .i64 0, .int .i64 0, .int .i64 0, .int .i64 0, .int .i64 0] 27)
      have c0 := V0.c0
      have z0 := V0.frozen 0
      have V1 := hide V0
      have Z1 := hide Z0
      have B1 := hide B0
      clear V0 Z0 B0
      go_enter Tryz.func43, Tryz.ntmps43
      go_wp2_with (first
        | (refine wpList_load_row rfl 27 (.tmp 3) rfl w.heap.size rfl 27 _ (0, 0) _ V1.out Tryz.underlying27 rfl (info_G _ _) ?_)
        | (refine wpList_store_row rfl 27 (.tmp 6) (.tmp 48) rfl (w.heap.size + 1) _ rfl rfl 27 _ Z1.out (info_G _ _) (by rw [rowG_size]; rfl) (rowG_one _ _) ?_)
        | (refine bodyPost_ret (results_agg_tmp rfl _ _ (w.heap.size + 1) 27 _ (0, 0) _ rfl (setRow_heap _ _ _ _ _ _ Z1.out) Tryz.underlying27 rfl (info_G _ _)) rfl ⟨rfl, below_setRow B1.out (Nat.le_succ _) _⟩))

theorem write_at (i : Nat) (hi : i < 20) (a b h m y x : Int) (f : Nat → Int) (ha : a = 2 ∨ a = 3) (hh : halfOf (f i) a b = h) (hm : mk i = m) (hy : bits .and .i64 h m = y) (hx : bringsOf (i : Int) a = x) (w : World) (hM : HasMask w) :
    Calls Tryz.prog 43 #[.agg (rowG (i : Int) f), .int .i64 a, .int .i64 b] w fun e w' => e = .returned (.tuple #[.agg (rowG (i : Int) (upd f i y)), .int .i64 x]) ∧ Below w.heap.size w w' := by
  have CH := hide (half_any (f i) a b h hh)
  have CB := hide (brings_any (i : Int) a x hx)
  clear hh hx
  have V0 := (hasG_new 27 w (i : Int) f).alloc (.cells #[.int .i64 0, .int .i64 0, .int .i64 0, .int .i64 0, .int .i64 0, .int .i64 0, .int .i64 0, .int .i64 0, .int .i64 0, .int .i64 0, .int .i64 0, .int .i64 0, .int .i64 0, .int .i64 0, .int .i64 0, .int .i64 0, .int .i64 0, .int .i64 0, .int .i64 0, .int .i64 0, .int .i64 0] 27)
  have Z0 := heap_alloc2_new w (.cells (rowG (i : Int) f) 27) (.cells #[.int .i64 0, .int .i64 0, .int .i64 0, .int .i64 0, .int .i64 0, .int .i64 0, .int .i64 0, .int .i64 0, .int .i64 0, .int .i64 0, .int .i64 0, .int .i64 0, .int .i64 0, .int .i64 0, .int .i64 0, .int .i64 0, .int .i64 0, .int .i64 0, .int .i64 0, .int .i64 0, .int .i64 0] 27)
  have B0 := ((Below.refl _ w).alloc (Nat.le_refl _) (.cells (rowG (i : Int) f) 27)).alloc (by simp) (.cells #[.int .i64 0, .int .i64 0, .int .i64 0, .int .i64 0, .int .i64 0, .int .i64 0, .int .i64 0, .int .i64 0, .int .i64 0, .int .i64 0, .int .i64 0, .int .i64 0, .int .i64 0, .int .i64 0, .int .i64 0, .int .i64 0, .int .i64 0, .int .i64 0, .int .i64 0, .int .i64 0, .int .i64 0] 27)
  have M0 := hM.next B0
  have c0 := V0.c0
  rcases ha with rfl | rfl
  · go_enter Tryz.func43, Tryz.ntmps43
    go_wp2_with fail
    obtain ⟨wr, hwr⟩ : ∃ wr, wr = (w.alloc (.cells (rowG (i : Int) f) 27)).alloc (.cells #[.int .i64 0, .int .i64 0, .int .i64 0, .int .i64 0, .int .i64 0, .int .i64 0, .int .i64 0, .int .i64 0, .int .i64 0, .int .i64 0, .int .i64 0, .int .i64 0, .int .i64 0, .int .i64 0, .int .i64 0, .int .i64 0, .int .i64 0, .int .i64 0, .int .i64 0, .int .i64 0, .int .i64 0] 27) := ⟨_, rfl⟩
    rw [← hwr] at V0 Z0 B0 M0 c0 ⊢
    clear hwr
    have k0 := kept_cell c0 V0.lt
    have ki := kept_cell (V0.at i hi) V0.lt
    have km := kept_cell (M0.at i hi) M0.pos
    rw [hm] at km
    have V := hide V0
    have Z := hide Z0
    have B := hide B0
    clear V0 Z0 B0 M0 c0 hM
    haveI := kept_some wr
    refine wp_region_kept_shut _ _ (show _ = [_, _, _, _, _, _, _, _, _, _, _, _, _, _, _, _, _] ++ [_] from rfl) (by kernel_rfl) (by kernel_rfl) (by kernel_rfl) ?_
    repeat (go_big_quiet_step ((go_at_call 71; exact kept_call (CH.out _))))
    refine wpQuiet_nil ?_
    rintro _ ⟨wk, rfl⟩
    have VK := V.out.next wk.below
    have ZK := (wk.block (w.heap.size + 1) (lt_of_block Z.out)).trans Z.out
    have BK := bnext B.out wk.below
    have ci := VK.at i hi
    have zi := VK.frozen (1 + i)
    have V1 := hide (VK.set i y)
    have Z1 := hide ((heap_setCell_other _ ⟨w.heap.size, 1 + i, none⟩ (w.heap.size + 1) (.int .i64 y) (by simp)).trans ZK)
    have B1 := hide (BK.setCell (p := ⟨w.heap.size, 1 + i, none⟩) (Nat.le_refl _) (.int .i64 y))
    clear VK ZK BK V Z B k0 ki km CH
    go_wp2_with fail
    obtain ⟨wt, hwt⟩ : ∃ wt, wt = wk.val.setCell ⟨w.heap.size, 1 + i, none⟩ (.int .i64 y) := ⟨_, rfl⟩
    rw [← hwt] at V1 Z1 B1 ⊢
    clear hwt ci zi
    have k0 := kept_cell V1.out.c0 V1.out.lt
    haveI := kept_some wt
    refine wp_region_kept_shut2 _ _ _ (show _ = ([_, _, _, _, _] ++ [_]) ++ [_] from rfl) (by kernel_rfl) (by kernel_rfl) (by kernel_rfl) (by kernel_rfl) ?_
    repeat (first
      | (refine wpQuiet_row rfl 27 (.tmp 3) rfl w.heap.size rfl 27 _ (0, 0) _ (fun w' ⟨x, hx⟩ => by rw [hx]; exact (x.block _ V1.out.lt).trans V1.out) Tryz.underlying27 rfl (info_G _ _) ?_; simp only [Act.put, List.setIfInBounds_toArray, List.set_cons_succ, List.set_cons_zero])
      | go_big_quiet_step ((go_at_call 72; exact kept_same (CB.out _))))
    refine wpQuiet_nil ?_
    rintro _ ⟨wj, rfl⟩
    have Z2 := hide ((wj.block (w.heap.size + 1) (lt_of_block Z1.out)).trans Z1.out)
    have B2 := hide (bnext B1.out wj.below)
    clear V1 Z1 B1 k0 CB
    go_wp2_with (first
      | (refine wpList_store_row rfl 27 (.tmp 6) (.tmp 43) rfl (w.heap.size + 1) _ rfl rfl 27 _ Z2.out (info_G _ _) (by rw [rowG_size]; rfl) (rowG_one _ _) ?_)
      | (refine bodyPost_ret (results_agg_tmp rfl _ _ (w.heap.size + 1) 27 _ (0, 0) _ rfl (setRow_heap _ _ _ _ _ _ Z2.out) Tryz.underlying27 rfl (info_G _ _)) rfl ⟨rfl, below_setRow B2.out (Nat.le_succ _) _⟩))
  · go_enter Tryz.func43, Tryz.ntmps43
    go_wp2_with fail
    obtain ⟨wr, hwr⟩ : ∃ wr, wr = (w.alloc (.cells (rowG (i : Int) f) 27)).alloc (.cells #[.int .i64 0, .int .i64 0, .int .i64 0, .int .i64 0, .int .i64 0, .int .i64 0, .int .i64 0, .int .i64 0, .int .i64 0, .int .i64 0, .int .i64 0, .int .i64 0, .int .i64 0, .int .i64 0, .int .i64 0, .int .i64 0, .int .i64 0, .int .i64 0, .int .i64 0, .int .i64 0, .int .i64 0] 27) := ⟨_, rfl⟩
    rw [← hwr] at V0 Z0 B0 M0 c0 ⊢
    clear hwr
    have k0 := kept_cell c0 V0.lt
    have ki := kept_cell (V0.at i hi) V0.lt
    have km := kept_cell (M0.at i hi) M0.pos
    rw [hm] at km
    have V := hide V0
    have Z := hide Z0
    have B := hide B0
    clear V0 Z0 B0 M0 c0 hM
    haveI := kept_some wr
    refine wp_region_kept_shut _ _ (show _ = [_, _, _, _, _, _, _, _, _, _, _, _, _, _, _, _, _] ++ [_] from rfl) (by kernel_rfl) (by kernel_rfl) (by kernel_rfl) ?_
    repeat (go_big_quiet_step ((go_at_call 71; exact kept_call (CH.out _))))
    refine wpQuiet_nil ?_
    rintro _ ⟨wk, rfl⟩
    have VK := V.out.next wk.below
    have ZK := (wk.block (w.heap.size + 1) (lt_of_block Z.out)).trans Z.out
    have BK := bnext B.out wk.below
    have ci := VK.at i hi
    have zi := VK.frozen (1 + i)
    have V1 := hide (VK.set i y)
    have Z1 := hide ((heap_setCell_other _ ⟨w.heap.size, 1 + i, none⟩ (w.heap.size + 1) (.int .i64 y) (by simp)).trans ZK)
    have B1 := hide (BK.setCell (p := ⟨w.heap.size, 1 + i, none⟩) (Nat.le_refl _) (.int .i64 y))
    clear VK ZK BK V Z B k0 ki km CH
    go_wp2_with fail
    obtain ⟨wt, hwt⟩ : ∃ wt, wt = wk.val.setCell ⟨w.heap.size, 1 + i, none⟩ (.int .i64 y) := ⟨_, rfl⟩
    rw [← hwt] at V1 Z1 B1 ⊢
    clear hwt ci zi
    have k0 := kept_cell V1.out.c0 V1.out.lt
    haveI := kept_some wt
    refine wp_region_kept_shut2 _ _ _ (show _ = ([_, _, _, _, _] ++ [_]) ++ [_] from rfl) (by kernel_rfl) (by kernel_rfl) (by kernel_rfl) (by kernel_rfl) ?_
    repeat (first
      | (refine wpQuiet_row rfl 27 (.tmp 3) rfl w.heap.size rfl 27 _ (0, 0) _ (fun w' ⟨x, hx⟩ => by rw [hx]; exact (x.block _ V1.out.lt).trans V1.out) Tryz.underlying27 rfl (info_G _ _) ?_; simp only [Act.put, List.setIfInBounds_toArray, List.set_cons_succ, List.set_cons_zero])
      | go_big_quiet_step ((go_at_call 72; exact kept_same (CB.out _))))
    refine wpQuiet_nil ?_
    rintro _ ⟨wj, rfl⟩
    have Z2 := hide ((wj.block (w.heap.size + 1) (lt_of_block Z1.out)).trans Z1.out)
    have B2 := hide (bnext B1.out wj.below)
    clear V1 Z1 B1 k0 CB
    go_wp2_with (first
      | (refine wpList_store_row rfl 27 (.tmp 6) (.tmp 43) rfl (w.heap.size + 1) _ rfl rfl 27 _ Z2.out (info_G _ _) (by rw [rowG_size]; rfl) (rowG_one _ _) ?_)
      | (refine bodyPost_ret (results_agg_tmp rfl _ _ (w.heap.size + 1) 27 _ (0, 0) _ rfl (setRow_heap _ _ _ _ _ _ Z2.out) Tryz.underlying27 rfl (info_G _ _)) rfl ⟨rfl, below_setRow B2.out (Nat.le_succ _) _⟩))
end Go.Proofs.YtpjhiopmdkieiabGreatDoor.R15

/- Package regs: the contract of Valid. -/
namespace Go.Proofs.YtpjhiopmdkieiabGreatDoor.R15
open Go.RowKit
set_option linter.unusedVariables false

theorem okR_no (s : Int) (f : Nat → Int) (k : Nat) (hk : k < 20) (h : fits (f k) (mk k) = false) : okR s f = false := by
  have e : okTo f 20 = false := by
    cases c : okTo f 20 with
    | false => rfl
    | true =>
      rw [(okTo_iff f 20).1 c k hk] at h
      cases h
  unfold okR
  rw [e]
  rfl
theorem okR_sel (s : Int) (f : Nat → Int) (h : ∀ k, k < 20 → fits (f k) (mk k) = true) : okR s f = decide (0 ≤ s ∧ s ≤ 31) := by
  unfold okR
  rw [(okTo_iff f 20).2 h]
  rfl
end Go.Proofs.YtpjhiopmdkieiabGreatDoor.R15

/- Package regs: the contract of Fresh. -/
namespace Go.Proofs.YtpjhiopmdkieiabGreatDoor.R15
open Go.RowKit
set_option linter.unusedVariables false

theorem fresh_any (w : World) : Calls Tryz.prog 35 #[] w fun e w' => e = .returned (.agg (rowG 0 (fun _ => 0))) ∧ Below w.heap.size w w' := by
  have Z0 := hide (show (w.alloc (.cells #[.int .i64 0, .int .i64 0, .int .i64 0, .int .i64 0, .int .i64 0, .int .i64 0, .int .i64 0, .int .i64 0, .int .i64 0, .int .i64 0, .int .i64 0, .int .i64 0, .int .i64 0, .int .i64 0, .int .i64 0, .int .i64 0, .int .i64 0, .int .i64 0, .int .i64 0, .int .i64 0, .int .i64 0] 27)).heap[w.heap.size]? = some (.cells #[.int .i64 0, .int .i64 0, .int .i64 0, .int .i64 0, .int .i64 0, .int .i64 0, .int .i64 0, .int .i64 0, .int .i64 0, .int .i64 0, .int .i64 0, .int .i64 0, .int .i64 0, .int .i64 0, .int .i64 0, .int .i64 0, .int .i64 0, .int .i64 0, .int .i64 0, .int .i64 0, .int .i64 0] 27 (0, 0)) from heap_alloc_new _ _)
  rw [← zero_lit]
  go_enter Tryz.func35, Tryz.ntmps35
  go_wp2_with (first
    | (refine wpList_store_row rfl 27 (.tmp 0) (.tmp 1) rfl w.heap.size _ rfl rfl 27 _ Z0.out (by kernel_rfl) rfl (by kernel_rfl) ?_)
    | (refine bodyPost_ret (results_cell_row rfl _ _ w.heap.size 27 _ (0, 0) _ rfl (setRow_heap _ _ _ _ _ _ Z0.out) Tryz.underlying27 rfl (by kernel_rfl)) rfl ⟨rfl, below_setRow ((Below.refl _ w).alloc (Nat.le_refl _) _) (Nat.le_refl _) _⟩))
end Go.Proofs.YtpjhiopmdkieiabGreatDoor.R15

/- Package regs: the contracts of pair, Far, On, Map, Raster. -/
namespace Go.Proofs.YtpjhiopmdkieiabGreatDoor.R15
open Go.RowKit
set_option linter.unusedVariables false

/-- A world under a name. -/
theorem named_calls {P : Program} {f : FuncId} {args : Array Value} {w : World} {Q : Ending → World → Prop} (h : ∀ u, u = w → Calls P f args u Q) : Calls P f args w Q := h w rfl
theorem named_code {P : Program} {c : Code} {Q : Exit → Act → World → Prop} {a : Act} {w : World} (h : ∀ u, u = w → Code.wp P c Q a u) : Code.wp P c Q a w := h w rfl
/-- Two bits, as a number. -/
def pairOf (n k : Int) : Nat := (bitOf n k + 2 * bitOf n (k + 1)).toNat
theorem pairOf_lt (n k : Int) : pairOf n k < 4 := by
  have h1 := bitOf_01 n k
  have h2 := bitOf_01 n (k + 1)
  unfold pairOf
  omega
theorem pairOf_is (n k : Int) : bitOf n k + 2 * bitOf n (k + 1) = (pairOf n k : Int) := by
  have h1 := bitOf_01 n k
  have h2 := bitOf_01 n (k + 1)
  unfold pairOf
  omega
theorem pair_any (n k : Int) (h0 : 0 ≤ k) (h1 : k < 15) (p : Nat) (hp : pairOf n k = p) (w : World) : Calls Tryz.prog 102 #[.int .i64 n, .int .i64 k] w fun e w' => e = .returned (.int .i64 (p : Int)) ∧ w' = w := by
  have b1 := bitOf_01 n k
  have b2 := bitOf_01 n (k + 1)
  have HP := hide (show bitOf n k + 2 * bitOf n (k + 1) = (p : Int) by rw [← hp]; exact pairOf_is n k)
  clear hp
  go_enter Tryz.func102, Tryz.ntmps102
  go_wp2_with (first | (go_at_call 53; refine (bit_any _ _ _).mono ?_; rintro e w' ⟨rfl, hw⟩; subst w'))
  go_ret
  exact ⟨ret_int HP.out, rfl⟩

def farL : List Int := [1, 32, 64, 128]
def wideL : List Int := [32, 64, 128, 128]
def highL : List Int := [32, 64]
def farOf (p : Nat) : Int := farL.getD p 0
def wideOf (p : Nat) : Int := wideL.getD p 0
def highOf2 (p : Nat) : Int := highL.getD p 0
theorem four_at (L : List Int) (hL : L.length = 4) (p : Nat) (hp : p < 4) : ((L.map (Value.int .i64)).toArray)[p]? = some (.int .i64 (L.getD p 0)) := by
  simp [List.getD, List.getElem?_eq_getElem (show p < L.length by omega)]
theorem two_at (L : List Int) (hL : L.length = 2) (p : Nat) (hp : p < 2) : ((L.map (Value.int .i64)).toArray)[p]? = some (.int .i64 (L.getD p 0)) := by
  simp [List.getD, List.getElem?_eq_getElem (show p < L.length by omega)]
theorem far_any (s : Int) (f : Nat → Int) (p : Nat) (hp : pairOf (f 5) 11 = p) (w : World) : Calls Tryz.prog 77 #[.agg (rowG s f)] w fun e w' => e = .returned (.int .i64 (farOf p)) ∧ Below w.heap.size w w' := by
  have CP := hide (pair_any (f 5) 11 (by decide) (by decide) p hp)
  have hp4 : p < 4 := by rw [← hp]; exact pairOf_lt _ _
  clear hp
  have c5 : ((w.alloc (.cells (rowG s f) 27)).alloc (.cells #[.int .i64 1, .int .i64 32, .int .i64 64, .int .i64 128] 174)).cell? ⟨w.heap.size, 6, none⟩ = some (.int .i64 (f 5)) := ((hasG_new 27 w s f).alloc _).at 5 (by decide)
  have Z := hide (heap_alloc2_new w (.cells (rowG s f) 27) (.cells #[.int .i64 1, .int .i64 32, .int .i64 64, .int .i64 128] 174))
  have B := hide (((Below.refl _ w).alloc (Nat.le_refl _) (.cells (rowG s f) 27)).alloc (by simp) (.cells #[.int .i64 1, .int .i64 32, .int .i64 64, .int .i64 128] 174))
  go_enter Tryz.func77, Tryz.ntmps77
  go_wp2_with fail
  refine (CP.out _).mono ?_
  rintro e w' ⟨rfl, hw⟩
  subst w'
  have hl := four_at farL rfl p hp4
  have hz := (cell_of_row _ (w.heap.size + 1) p _ _ _ Z.out).trans hl
  clear hl c5
  generalize hx : farL.getD p 0 = x at hz
  have HX := hide (show farOf p = x from hx)
  clear hx
  go_wp2_with fail
  go_ret
  exact ⟨ret_int HX.out.symm, B.out⟩
/-- Is the line the one that is told? -/
def rasOf (t l : Int) : Bool := decide (64 ≤ t ∧ l = t - 64)
end Go.Proofs.YtpjhiopmdkieiabGreatDoor.R15

/- The document's own answer for layer 15: the contract of Map. -/
namespace Go.Proofs.YtpjhiopmdkieiabGreatDoor.R15
open Go.RowKit
set_option linter.unusedVariables false

end Go.Proofs.YtpjhiopmdkieiabGreatDoor.R15

/- The document's own answer for layer 15: the contracts of mask, only, effect, Valid, Write. -/
namespace Go.Proofs.YtpjhiopmdkieiabGreatDoor.R15
open Go.RowKit
set_option linter.unusedVariables false

theorem lit_is : (#[.int .i64 65535, .int .i64 65535, .int .i64 65535, .int .i64 0, .int .i64 0, .int .i64 8191, .int .i64 1023, .int .i64 1023, .int .i64 511, .int .i64 255, .int .i64 32543, .int .i64 32639, .int .i64 65311, .int .i64 511, .int .i64 255, .int .i64 31, .int .i64 65535, .int .i64 65535, .int .i64 65535, .int .i64 65535] : Array Value) = maskCells := rfl
theorem lit_at (k : Nat) (hk : k < 20) : (#[.int .i64 65535, .int .i64 65535, .int .i64 65535, .int .i64 0, .int .i64 0, .int .i64 8191, .int .i64 1023, .int .i64 1023, .int .i64 511, .int .i64 255, .int .i64 32543, .int .i64 32639, .int .i64 65311, .int .i64 511, .int .i64 255, .int .i64 31, .int .i64 65535, .int .i64 65535, .int .i64 65535, .int .i64 65535] : Array Value)[k]? = some (.int .i64 (mk k)) := by
  rw [lit_is]
  have := mask_cell ⟨k, hk⟩
  simp only at this
  simp [maskCells, this]
end Go.Proofs.YtpjhiopmdkieiabGreatDoor.R15

/- The document's own answer for layer 15: the contracts of Far, Map, Raster, effect. -/
namespace Go.Proofs.YtpjhiopmdkieiabGreatDoor.R15
open Go.RowKit
set_option linter.unusedVariables false

end Go.Proofs.YtpjhiopmdkieiabGreatDoor.R15

/- The document's own answer for layer 15: the contract of Write. -/
namespace Go.Proofs.YtpjhiopmdkieiabGreatDoor.R15
open Go.RowKit
set_option linter.unusedVariables false

end Go.Proofs.YtpjhiopmdkieiabGreatDoor.R15
