/- Texts without a word of the program, one behind the other. -/
import Derived.Test.YtpjhiopmdkieiabGreatDoorRows
import Derived.Laws.StructEq
import Derived.Laws.Rows
import Derived.Laws.Tables
import Derived.Laws.ResultCell
import Derived.Laws.CopyOwn
import Derived.RegionTactic
import Derived.LaidEql
import Derived.WalkMore
import Derived.WalkKit
import Derived.Below
import Derived.OneCell
import Derived.Handy
import Derived.Test.YtpjhiopmdkieiabGreatDoorBits
/- Plain facts on three bits: what is raised and not masked, and which of it is the first. No word of the program is in it. -/
namespace Go.Proofs.YtpjhiopmdkieiabGreatDoor.I11

theorem wrap_mod8 (y : Int) : IntKind.i64.wrap y % 8 = y % 8 := by rw [IntKind.wrap_i64]; omega
theorem low_mod8 (n : Int) : (n % ((2 ^ 64 : Nat) : Int)).toNat % 2 ^ 3 = (n % 8).toNat := by omega
/-- Either, and one without the other, of the lowest three bits. -/
def or3 (a b : Int) : Int := (((a % 8).toNat ||| (b % 8).toNat : Nat) : Int)
def bic3 (a b : Int) : Int := (((a % 8).toNat ^^^ ((a % 8).toNat &&& (b % 8).toNat) : Nat) : Int)
def and3 (a b : Int) : Int := (((a % 8).toNat &&& (b % 8).toNat : Nat) : Int)
theorem or_mod8 (a b : Int) : bits .or .i64 a b % 8 = or3 a b := by
  have e : (BitVec.ofInt 64 a ||| BitVec.ofInt 64 b).toNat % 2 ^ 3 = (a % 8).toNat ||| (b % 8).toNat := by
    rw [BitVec.toNat_or, BitVec.toNat_ofInt, BitVec.toNat_ofInt, Nat.or_mod_two_pow, low_mod8, low_mod8]
  show IntKind.i64.wrap ((BitVec.ofInt 64 a ||| BitVec.ofInt 64 b).toNat : Nat) % 8 = _
  rw [wrap_mod8]
  unfold or3
  rw [← e]
  omega
theorem bic_mod8 (a b : Int) : bits .andNot .i64 a b % 8 = bic3 a b := by
  have k : BitVec.ofInt 64 a &&& ~~~ BitVec.ofInt 64 b = BitVec.ofInt 64 a ^^^ (BitVec.ofInt 64 a &&& BitVec.ofInt 64 b) := by
    ext i hi
    simp only [BitVec.getElem_and, BitVec.getElem_not, BitVec.getElem_xor]
    cases (BitVec.ofInt 64 a)[i] <;> cases (BitVec.ofInt 64 b)[i] <;> rfl
  have e : (BitVec.ofInt 64 a &&& ~~~ BitVec.ofInt 64 b).toNat % 2 ^ 3 = (a % 8).toNat ^^^ ((a % 8).toNat &&& (b % 8).toNat) := by
    rw [k, BitVec.toNat_xor, BitVec.toNat_and, BitVec.toNat_ofInt, BitVec.toNat_ofInt, Nat.xor_mod_two_pow, Nat.and_mod_two_pow, low_mod8, low_mod8]
  show IntKind.i64.wrap ((BitVec.ofInt 64 a &&& ~~~ BitVec.ofInt 64 b).toNat : Nat) % 8 = _
  rw [wrap_mod8]
  unfold bic3
  rw [← e]
  omega
/-- A mask of three bits sees three bits alone. -/
theorem and_low3 (n m : Int) (h0 : 0 ≤ m) (h1 : m < 8) : bits .and .i64 n m = and3 n m := by
  obtain ⟨m, rfl⟩ := Int.eq_ofNat_of_zero_le h0
  have hm8 : ((m : Int) % 8).toNat = m := by omega
  have e : (BitVec.ofInt 64 n &&& BitVec.ofInt 64 (m : Int)).toNat = (n % 8).toNat &&& m := by
    rw [BitVec.toNat_and, BitVec.ofInt_natCast, BitVec.toNat_ofNat, Nat.mod_eq_of_lt (by omega : m < 2 ^ 64), BitVec.toNat_ofInt]
    have h2 : m = m % 2 ^ 3 := (Nat.mod_eq_of_lt (by omega)).symm
    rw [← low_mod8]
    generalize (n % ((2 ^ 64 : Nat) : Int)).toNat = x
    conv => rhs; rw [h2, ← Nat.and_mod_two_pow]
    exact (Nat.mod_eq_of_lt (Nat.and_lt_two_pow _ (by omega))).symm
  show IntKind.i64.wrap ((BitVec.ofInt 64 n &&& BitVec.ofInt 64 (m : Int)).toNat : Nat) = _
  rw [e]
  have := Nat.and_lt_two_pow (n % 8).toNat (n := 3) (y := m) (by omega)
  rw [i64_small _ (by omega) (by omega)]
  unfold and3
  rw [hm8]
theorem mod_mod8 (n : Int) : n % 8 % 8 = n % 8 := by omega
theorem or3_mod (a b : Int) : or3 a b = or3 (a % 8) (b % 8) := by unfold or3; rw [mod_mod8, mod_mod8]
theorem bic3_mod (a b : Int) : bic3 a b = bic3 (a % 8) (b % 8) := by unfold bic3; rw [mod_mod8, mod_mod8]
theorem and3_mod (a b : Int) : and3 a b = and3 (a % 8) (b % 8) := by unfold and3; rw [mod_mod8, mod_mod8]
/-- Numbers of three bits, one by one. -/
theorem all_8 {p : Int → Prop} (h : ∀ x : Fin 8, p (x.val : Int)) {n : Int} (h0 : 0 ≤ n) (h1 : n < 8) : p n := by
  have := h ⟨n.toNat, by omega⟩
  have e : ((n.toNat : Nat) : Int) = n := by omega
  simpa only [e] using this
theorem all_88 {p : Int → Int → Prop} (h : ∀ x y : Fin 8, p (x.val : Int) (y.val : Int)) {a b : Int} (a0 : 0 ≤ a) (a1 : a < 8) (b0 : 0 ≤ b) (b1 : b < 8) : p a b :=
  all_8 (p := fun a => p a b) (fun x => all_8 (p := fun b => p (x.val : Int) b) (fun y => h x y) b0 b1) a0 a1
theorem mod8_in (n : Int) : 0 ≤ n % 8 ∧ n % 8 < 8 := by omega
theorem or3_in (a b : Int) : 0 ≤ or3 a b ∧ or3 a b < 8 := by
  rw [or3_mod]
  exact all_88 (p := fun a b => 0 ≤ or3 a b ∧ or3 a b < 8) (by decide +kernel) (mod8_in a).1 (mod8_in a).2 (mod8_in b).1 (mod8_in b).2
theorem bic3_in (a b : Int) : 0 ≤ bic3 a b ∧ bic3 a b < 8 := by
  rw [bic3_mod]
  exact all_88 (p := fun a b => 0 ≤ bic3 a b ∧ bic3 a b < 8) (by decide +kernel) (mod8_in a).1 (mod8_in a).2 (mod8_in b).1 (mod8_in b).2
/-- Which vector is that of the first of the lines x; whether there is one. -/
def vecOf (x : Int) : Int := if 4 ≤ x % 8 then 65530 else if 2 ≤ x % 8 then 65528 else if 1 ≤ x % 8 then 65526 else 0
def anyOf (x : Int) : Bool := decide (1 ≤ x % 8)
theorem and_4 (n : Int) : bits .and .i64 n 4 = if 4 ≤ n % 8 then 4 else 0 := by
  rw [and_low3 n 4 (by decide) (by decide), and3_mod]
  exact all_8 (p := fun x => and3 x (4 % 8) = if 4 ≤ x then 4 else 0) (by decide +kernel) (mod8_in n).1 (mod8_in n).2
theorem and_2 (n : Int) : bits .and .i64 n 2 = if 2 ≤ n % 4 then 2 else 0 := by
  rw [and_low3 n 2 (by decide) (by decide), and3_mod, show n % 4 = n % 8 % 4 by omega]
  exact all_8 (p := fun x => and3 x (2 % 8) = if 2 ≤ x % 4 then 2 else 0) (by decide +kernel) (mod8_in n).1 (mod8_in n).2
theorem or_low3 (a b : Int) (a0 : 0 ≤ a) (a1 : a < 8) (b0 : 0 ≤ b) (b1 : b < 8) : bits .or .i64 a b = or3 a b := by
  obtain ⟨a, rfl⟩ := Int.eq_ofNat_of_zero_le a0
  obtain ⟨b, rfl⟩ := Int.eq_ofNat_of_zero_le b0
  rw [(and_or_nat a b (by omega) (by omega)).2]
  unfold or3
  rw [show ((a : Int) % 8).toNat = a by omega, show ((b : Int) % 8).toNat = b by omega]
theorem bic_low3 (a b : Int) (a0 : 0 ≤ a) (a1 : a < 8) : bits .andNot .i64 a b = bic3 a b := by
  have h := bic_mod8 a b
  obtain ⟨x, rfl⟩ := Int.eq_ofNat_of_zero_le a0
  have e : (BitVec.ofInt 64 (x : Int) &&& ~~~ BitVec.ofInt 64 b).toNat < 8 := by
    rw [BitVec.toNat_and]
    refine Nat.lt_of_le_of_lt Nat.and_le_left ?_
    rw [BitVec.ofInt_natCast, BitVec.toNat_ofNat]
    exact Nat.lt_of_le_of_lt (Nat.mod_le _ _) (by omega)
  have k : bits .andNot .i64 (x : Int) b = (((BitVec.ofInt 64 (x : Int) &&& ~~~ BitVec.ofInt 64 b).toNat : Nat) : Int) := by
    show IntKind.i64.wrap ((BitVec.ofInt 64 (x : Int) &&& ~~~ BitVec.ofInt 64 b).toNat : Nat) = _
    exact i64_small _ (by omega) (by omega)
  rw [k] at h ⊢
  omega
/-- Which of the three lines a number means. -/
theorem line_of (k : Int) : ∃ y j, k.tmod 3 = y ∧ (y + 3).tmod 3 = j ∧ -3 < y ∧ y < 3 ∧ (j = 0 ∨ j = 1 ∨ j = 2) := by
  have h1 := Int.lt_tmod_of_pos k (b := 3) (by decide)
  have h2 := Int.tmod_lt_of_pos k (b := 3) (by decide)
  have h3 : (k.tmod 3 + 3).tmod 3 = (k.tmod 3 + 3) % 3 := Int.tmod_eq_emod_of_nonneg (by omega)
  exact ⟨_, _, rfl, rfl, h1, h2, by omega⟩
end Go.Proofs.YtpjhiopmdkieiabGreatDoor.I11

/- Contracts of package irq: what each of its functions returns. -/
namespace Go.Proofs.YtpjhiopmdkieiabGreatDoor.I11
open Go.RowKit
set_option linter.unusedVariables false

/-- Two states are alike, field by field. -/
def sameS (m l m' l' : Int) : Bool := (m == m') && (l == l')
theorem eqS (m l m' l' : Int) (w : World) : (binOp .eql 48 (.agg #[.int .i64 m, .int .i64 l]) (.agg #[.int .i64 m', .int .i64 l'])).run Tryz.prog w = .ok (.bool (sameS m l m' l')) w := by
  rw [run_eql_struct, run_equalIn_struct w 9999 48 _ _ (by kernel_rfl) (by kernel_rfl)]
  unfold sameS
  simp [Program.fieldsOf, Tryz.underlying48, Op.eqFields, part, isAgg, run_underlying Tryz.underlying3, run_equalIn_int _ _ _ _ _ _ _ Tryz.underlying3]
  by_cases h1 : m = m' <;> by_cases h2 : l = l' <;> simp [h1, h2]
/-- Block b holds a state. -/
def HasS (w : World) (b : Nat) (m l : Int) : Prop := w.heap[b]? = some (.cells #[.int .i64 m, .int .i64 l] 48 (0, 0))
theorem HasS.next {w w' : World} {b : Nat} {m l : Int} (h : HasS w b m l) (k : Below w.heap.size w w') : HasS w' b m l := (k.block b (lt_of_block h)).trans h
theorem HasS.alloc {w : World} {b : Nat} {m l : Int} (h : HasS w b m l) (x : Obj) : HasS (w.alloc x) b m l := h.next ((Below.refl _ w).alloc (Nat.le_refl _) _)
theorem hasS_new (w : World) (m l : Int) : HasS (w.alloc (.cells #[.int .i64 m, .int .i64 l] 48)) w.heap.size m l := heap_alloc_new _ _
theorem HasS.lt {w : World} {b : Nat} {m l : Int} (h : HasS w b m l) : b < w.heap.size := lt_of_block h
theorem HasS.c0 {w : World} {b : Nat} {m l : Int} (h : HasS w b m l) : w.cell? ⟨b, 0, none⟩ = some (.int .i64 m) := (cell_of_row w b 0 _ _ _ h).trans rfl
theorem HasS.c1 {w : World} {b : Nat} {m l : Int} (h : HasS w b m l) : w.cell? ⟨b, 1, none⟩ = some (.int .i64 l) := (cell_of_row w b 1 _ _ _ h).trans rfl

theorem cut_any (m l : Int) (w : World) : Calls Tryz.prog 55 #[.int .i64 m, .int .i64 l] w fun e w' => e = .returned (.agg #[.int .i64 (m % 8), .int .i64 (l % 8)]) ∧ Below w.heap.size w w' := by
  have e1 := and_7 m
  have e2 := and_7 l
  go_enter Tryz.func55, Tryz.ntmps55
  go_wp2
  go_returns
  exact ⟨rfl, (Below.refl _ w).alloc (Nat.le_refl _) _⟩
/-- The lines with a line raised, or not. -/
def liftOf (l n : Int) (on : Bool) : Int := if on then or3 l n else bic3 l n
theorem raise_any (m l n : Int) (on : Bool) (w : World) : Calls Tryz.prog 51 #[.agg #[.int .i64 m, .int .i64 l], .int .i64 n, .bool on] w fun e w' =>
    e = .returned (.agg #[.int .i64 (m % 8), .int .i64 (liftOf l n on)]) ∧ Below w.heap.size w w' := by
  cases on
  · show Calls Tryz.prog 51 _ w fun e w' => e = .returned (.agg #[.int .i64 (m % 8), .int .i64 (bic3 l n)]) ∧ Below w.heap.size w w'
    have C := hide (cut_any m (bits .andNot .i64 l n))
    rw [bic_mod8] at C
    generalize bic3 l n = q at *
    generalize m % 8 = r at *
    go_enter Tryz.func51, Tryz.ntmps51
    go_wp2_with fail
    refine (C.out _).mono ?_
    rintro e w1 ⟨rfl, b1⟩
    have R3 := hide ((b1.block (w.heap.size + 1) (by simp)).trans (heap_alloc2_new _ _ _))
    have B3 := hide (bnext (((Below.refl _ w).alloc (Nat.le_refl _) _).alloc (by simp) _) b1)
    clear b1 C
    go_wp2_with (first
      | (refine wpList_store_row rfl 48 (.tmp 6) (.tmp 21) rfl (w.heap.size + 1) _ rfl rfl 48 _ R3.out (by kernel_rfl) rfl (by kernel_rfl) ?_))
    (try simp only [Exit.inBlock, Exit.then])
    refine bodyPost_ret (results_cell_row rfl _ _ (w.heap.size + 1) 48 _ (0, 0) _ rfl (setRow_heap _ _ _ _ _ _ R3.out) Tryz.underlying48 rfl (by kernel_rfl)) rfl ?_
    exact ⟨rfl, below_setRow B3.out (Nat.le_succ _) _⟩
  · show Calls Tryz.prog 51 _ w fun e w' => e = .returned (.agg #[.int .i64 (m % 8), .int .i64 (or3 l n)]) ∧ Below w.heap.size w w'
    have C := hide (cut_any m (bits .or .i64 l n))
    rw [or_mod8] at C
    generalize or3 l n = q at *
    generalize m % 8 = r at *
    go_enter Tryz.func51, Tryz.ntmps51
    go_wp2_with fail
    refine (C.out _).mono ?_
    rintro e w1 ⟨rfl, b1⟩
    have R3 := hide ((b1.block (w.heap.size + 1) (by simp)).trans (heap_alloc2_new _ _ _))
    have B3 := hide (bnext (((Below.refl _ w).alloc (Nat.le_refl _) _).alloc (by simp) _) b1)
    clear b1 C
    go_wp2_with (first
      | (refine wpList_store_row rfl 48 (.tmp 6) (.tmp 14) rfl (w.heap.size + 1) _ rfl rfl 48 _ R3.out (by kernel_rfl) rfl (by kernel_rfl) ?_))
    (try simp only [Exit.inBlock, Exit.then])
    refine bodyPost_ret (results_cell_row rfl _ _ (w.heap.size + 1) 48 _ (0, 0) _ rfl (setRow_heap _ _ _ _ _ _ R3.out) Tryz.underlying48 rfl (by kernel_rfl)) rfl ?_
    exact ⟨rfl, below_setRow B3.out (Nat.le_succ _) _⟩
theorem write_2 (m l b : Int) (w : World) : Calls Tryz.prog 21 #[.agg #[.int .i64 m, .int .i64 l], .int .i64 2, .int .i64 b] w fun e w' =>
    e = .returned (.agg #[.int .i64 (b % 8), .int .i64 (l % 8)]) ∧ Below w.heap.size w w' := by
  have C := hide (cut_any b l)
  generalize b % 8 = q at *
  generalize l % 8 = r at *
  go_enter Tryz.func21, Tryz.ntmps21
  go_wp2_with fail
  refine (C.out _).mono ?_
  rintro e w1 ⟨rfl, b1⟩
  have R3 := hide ((b1.block (w.heap.size + 1) (by simp)).trans (heap_alloc2_new _ _ _))
  have B3 := hide (bnext (((Below.refl _ w).alloc (Nat.le_refl _) _).alloc (by simp) _) b1)
  clear b1 C
  go_wp2_with (first
    | (refine wpList_store_row rfl 48 (.tmp 6) (.tmp 13) rfl (w.heap.size + 1) _ rfl rfl 48 _ R3.out (by kernel_rfl) rfl (by kernel_rfl) ?_))
  (try simp only [Exit.inBlock, Exit.then])
  refine bodyPost_ret (results_cell_row rfl _ _ (w.heap.size + 1) 48 _ (0, 0) _ rfl (setRow_heap _ _ _ _ _ _ R3.out) Tryz.underlying48 rfl (by kernel_rfl)) rfl ?_
  exact ⟨rfl, below_setRow B3.out (Nat.le_succ _) _⟩
theorem write_3 (m l b : Int) (w : World) : Calls Tryz.prog 21 #[.agg #[.int .i64 m, .int .i64 l], .int .i64 3, .int .i64 b] w fun e w' =>
    e = .returned (.agg #[.int .i64 (m % 8), .int .i64 (bic3 l 4)]) ∧ Below w.heap.size w w' := by
  have C := hide (raise_any m l 4 false)
  rw [show liftOf l 4 false = bic3 l 4 from rfl] at C
  generalize bic3 l 4 = q at *
  generalize m % 8 = r at *
  go_enter Tryz.func21, Tryz.ntmps21
  go_wp2_with fail
  refine (C.out _).mono ?_
  rintro e w1 ⟨rfl, b1⟩
  have R3 := hide ((b1.block (w.heap.size + 1) (by simp)).trans (heap_alloc2_new _ _ _))
  have B3 := hide (bnext (((Below.refl _ w).alloc (Nat.le_refl _) _).alloc (by simp) _) b1)
  clear b1 C
  go_wp2_with (first
    | (refine wpList_store_row rfl 48 (.tmp 6) (.tmp 17) rfl (w.heap.size + 1) _ rfl rfl 48 _ R3.out (by kernel_rfl) rfl (by kernel_rfl) ?_))
  (try simp only [Exit.inBlock, Exit.then])
  refine bodyPost_ret (results_cell_row rfl _ _ (w.heap.size + 1) 48 _ (0, 0) _ rfl (setRow_heap _ _ _ _ _ _ R3.out) Tryz.underlying48 rfl (by kernel_rfl)) rfl ?_
  exact ⟨rfl, below_setRow B3.out (Nat.le_succ _) _⟩
theorem write_no (m l a b : Int) (h2 : ¬ a = 2) (h3 : ¬ a = 3) (w : World) : Calls Tryz.prog 21 #[.agg #[.int .i64 m, .int .i64 l], .int .i64 a, .int .i64 b] w fun e w' =>
    e = .returned (.agg #[.int .i64 m, .int .i64 l]) ∧ Below w.heap.size w w' := by
  go_enter Tryz.func21, Tryz.ntmps21
  go_wp2
  go_returns
  exact ⟨rfl, ((Below.refl _ w).alloc (Nat.le_refl _) _).alloc (by simp) _⟩
def readOf (m l a : Int) : Int := if a = 2 then m % 8 else if a = 3 then l % 8 else 0
theorem read_any (m l a : Int) (w : World) : Calls Tryz.prog 63 #[.agg #[.int .i64 m, .int .i64 l], .int .i64 a] w fun e w' =>
    e = .returned (.int .i64 (readOf m l a)) ∧ Below w.heap.size w w' := by
  unfold readOf
  have e1 := and_7 m
  have e2 := and_7 l
  by_cases h2 : a = 2
  · subst h2
    rw [if_pos rfl]
    go_enter Tryz.func63, Tryz.ntmps63
    go_wp2
    go_ret
    exact ⟨rfl, (Below.refl _ w).alloc (Nat.le_refl _) _⟩
  · rw [if_neg h2]
    by_cases h3 : a = 3
    · subst h3
      rw [if_pos rfl]
      go_enter Tryz.func63, Tryz.ntmps63
      go_wp2
      go_ret
      exact ⟨rfl, (Below.refl _ w).alloc (Nat.le_refl _) _⟩
    · rw [if_neg h3]
      go_enter Tryz.func63, Tryz.ntmps63
      go_wp2
      go_ret
      exact ⟨rfl, (Below.refl _ w).alloc (Nat.le_refl _) _⟩
end Go.Proofs.YtpjhiopmdkieiabGreatDoor.I11

/- Contract of irq.Pick: the first line that is raised and not masked, by the table of the vectors. -/
namespace Go.Proofs.YtpjhiopmdkieiabGreatDoor.I11
open Go.RowKit
set_option linter.unusedVariables false

/-- The table of the vectors, as its cells lie. -/
def vecCells : Array Value := #[.int .i64 4, .int .i64 65530, .int .i64 2, .int .i64 65528, .int .i64 1, .int .i64 65526]
def lineAt (j : Nat) : Int := [(4 : Int), 2, 1].getD j 0
def atAt (j : Nat) : Int := [(65530 : Int), 65528, 65526].getD j 0
theorem and_line (x : Int) : bits .and .i64 x 4 = (if 4 ≤ x % 8 then 4 else 0) ∧ bits .and .i64 x 2 = (if 2 ≤ x % 4 then 2 else 0) ∧ bits .and .i64 x 1 = x % 2 := ⟨and_4 x, and_2 x, and_1 x⟩
end Go.Proofs.YtpjhiopmdkieiabGreatDoor.I11

/- The document's own answers for layer 11: contracts, and that they are the program's. -/
namespace Go.Proofs.YtpjhiopmdkieiabGreatDoor.I11
open Go.RowKit
set_option linter.unusedVariables false

/-! ### Plain facts -/
theorem bit_low (n : Int) : bitOf n 0 = bitOf (n % 8) 0 ∧ bitOf n 1 = bitOf (n % 8) 1 ∧ bitOf n 2 = bitOf (n % 8) 2 := by
  refine ⟨?_, ?_, ?_⟩
  · rw [bitOf_in n 0 (by decide) (by decide), bitOf_in (n % 8) 0 (by decide) (by decide)]
    show n % 65536 / 1 % 2 = n % 8 % 65536 / 1 % 2
    omega
  · rw [bitOf_in n 1 (by decide) (by decide), bitOf_in (n % 8) 1 (by decide) (by decide)]
    show n % 65536 / 2 % 2 = n % 8 % 65536 / 2 % 2
    omega
  · rw [bitOf_in n 2 (by decide) (by decide), bitOf_in (n % 8) 2 (by decide) (by decide)]
    show n % 65536 / 4 % 2 = n % 8 % 65536 / 4 % 2
    omega
theorem put_clock (l : Int) : putOf (l % 8) 2 false = bic3 l 4 := by
  rw [bic3_mod]
  exact all_8 (p := fun x => putOf x 2 false = bic3 x (4 % 8)) (by decide +kernel) (mod8_in l).1 (mod8_in l).2
/-- The lines behind k rounds of the document's loop. -/
def liftTo (l n : Int) (on : Bool) : Nat → Int
  | 0 => l % 8
  | k + 1 => if bitOf n (k : Int) = 1 then putOf (liftTo l n on k) (k : Int) on else liftTo l n on k
theorem lift_both (l n : Int) (on : Bool) : liftTo l n on 3 = liftOf l n on := by
  have h : liftTo l n on 3 = liftTo (l % 8) (n % 8) on 3 := by
    obtain ⟨h0, h1, h2⟩ := bit_low n
    have k0 : bitOf n ((0 : Nat) : Int) = bitOf (n % 8) ((0 : Nat) : Int) := h0
    have k1 : bitOf n ((1 : Nat) : Int) = bitOf (n % 8) ((1 : Nat) : Int) := h1
    have k2 : bitOf n ((2 : Nat) : Int) = bitOf (n % 8) ((2 : Nat) : Int) := h2
    simp only [liftTo, k0, k1, k2, mod_mod8]
  have k : liftOf l n on = liftOf (l % 8) (n % 8) on := by
    unfold liftOf
    cases on
    · exact bic3_mod l n
    · exact or3_mod l n
  rw [h, k]
  exact all_88 (p := fun l n => liftTo l n on 3 = liftOf l n on) (by cases on <;> decide +kernel) (mod8_in l).1 (mod8_in l).2 (mod8_in n).1 (mod8_in n).2
theorem flag_bit (p : Int) : bitOf p 2 = if 4 ≤ p % 8 then 1 else 0 := by
  rw [(bit_low p).2.2]
  exact all_8 (p := fun x => bitOf x 2 = if 4 ≤ x then 1 else 0) (by decide +kernel) (mod8_in p).1 (mod8_in p).2
/-- Whether a line is free, by its bits. -/
def freeB (l m i : Int) : Prop := bitOf l i = 1 ∧ bitOf m i = 0
def firstB (l m : Int) : Bool :=
  (!(decide (bitOf l 2 = 1 ∧ bitOf m 2 = 0)) || (vecOf (bic3 l m) == 65530 && anyOf (bic3 l m))) &&
  (decide (bitOf l 2 = 1 ∧ bitOf m 2 = 0) || !(decide (bitOf l 1 = 1 ∧ bitOf m 1 = 0)) || (vecOf (bic3 l m) == 65528 && anyOf (bic3 l m))) &&
  (decide (bitOf l 2 = 1 ∧ bitOf m 2 = 0) || decide (bitOf l 1 = 1 ∧ bitOf m 1 = 0) || !(decide (bitOf l 0 = 1 ∧ bitOf m 0 = 0)) || (vecOf (bic3 l m) == 65526 && anyOf (bic3 l m))) &&
  (decide (bitOf l 2 = 1 ∧ bitOf m 2 = 0) || decide (bitOf l 1 = 1 ∧ bitOf m 1 = 0) || decide (bitOf l 0 = 1 ∧ bitOf m 0 = 0) || (vecOf (bic3 l m) == 0 && !anyOf (bic3 l m)))
theorem first_all : ∀ l m : Fin 8, firstB (l.val : Int) (m.val : Int) = true := by decide +kernel
theorem first_is (l m : Int) : firstB l m = true := by
  have e : firstB l m = firstB (l % 8) (m % 8) := by
    unfold firstB
    rw [(bit_low l).1, (bit_low l).2.1, (bit_low l).2.2, (bit_low m).1, (bit_low m).2.1, (bit_low m).2.2, bic3_mod l m]
  rw [e]
  exact all_88 (p := fun l m => firstB l m = true) first_all (mod8_in l).1 (mod8_in l).2 (mod8_in m).1 (mod8_in m).2
theorem first_spec (l m : Int) :
    (freeB l m 2 → vecOf (bic3 l m) = 65530 ∧ anyOf (bic3 l m) = true) ∧ (¬ freeB l m 2 → freeB l m 1 → vecOf (bic3 l m) = 65528 ∧ anyOf (bic3 l m) = true) ∧
    (¬ freeB l m 2 → ¬ freeB l m 1 → freeB l m 0 → vecOf (bic3 l m) = 65526 ∧ anyOf (bic3 l m) = true) ∧ (¬ freeB l m 2 → ¬ freeB l m 1 → ¬ freeB l m 0 → vecOf (bic3 l m) = 0 ∧ anyOf (bic3 l m) = false) := by
  have h := first_is l m
  unfold firstB at h
  unfold freeB
  generalize vecOf (bic3 l m) = v at *
  generalize anyOf (bic3 l m) = o at *
  refine ⟨fun a => ?_, fun a b => ?_, fun a b c => ?_, fun a b c => ?_⟩
  · simpa [a] using h
  · simpa [a, b] using h
  · simpa [a, b, c] using h
  · simpa [a, b, c] using h

/-! ### Contracts -/
/-! ### Both, under letters -/
end Go.Proofs.YtpjhiopmdkieiabGreatDoor.I11
