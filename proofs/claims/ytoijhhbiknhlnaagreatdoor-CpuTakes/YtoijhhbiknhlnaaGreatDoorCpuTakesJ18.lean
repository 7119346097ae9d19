/- Texts without a word of the program, one behind the other. -/
import Derived.Test.YtoijhhbiknhlnaaGreatDoorRows
import Derived.Laws.StructEq
import Derived.Laws.Rows
import Derived.Laws.Tables
import Derived.Laws.ResultCell
import Derived.Laws.CopyOwn
import Derived.RegionTactic
import Derived.LaidEql
import Derived.WalkMore
import Derived.WalkKit
import Derived.Below
import Derived.OneCell
import Derived.Handy
import Derived.Test.YtoijhhbiknhlnaaGreatDoorCpuTakesJ03
namespace Go.Proofs.YtoijhhbiknhlnaaGreatDoor.I11
set_option maxRecDepth 20000
theorem wrap_mod8 (y : Int) : IntKind.i64.wrap y % 8 = y % 8 := by rw [IntKind.wrap_i64]; omega
theorem low_mod8 (n : Int) : (n % ((2 ^ 64 : Nat) : Int)).toNat % 2 ^ 3 = (n % 8).toNat := by omega
def or3 (a b : Int) : Int := (((a % 8).toNat ||| (b % 8).toNat : Nat) : Int)
def bic3 (a b : Int) : Int := (((a % 8).toNat ^^^ ((a % 8).toNat &&& (b % 8).toNat) : Nat) : Int)
def and3 (a b : Int) : Int := (((a % 8).toNat &&& (b % 8).toNat : Nat) : Int)
theorem or_mod8 (a b : Int) : bits .or .i64 a b % 8 = or3 a b := by
  have e : (BitVec.ofInt 64 a ||| BitVec.ofInt 64 b).toNat % 2 ^ 3 = (a % 8).toNat ||| (b % 8).toNat := by
    rw [BitVec.toNat_or, BitVec.toNat_ofInt, BitVec.toNat_ofInt, Nat.or_mod_two_pow, low_mod8, low_mod8]
  show IntKind.i64.wrap ((BitVec.ofInt 64 a ||| BitVec.ofInt 64 b).toNat : Nat) % 8 = _
  rw [wrap_mod8]
  unfold or3
  rw [← e]
  omega
theorem bic_mod8 (a b : Int) : bits .andNot .i64 a b % 8 = bic3 a b := by
  have k : BitVec.ofInt 64 a &&& ~~~ BitVec.ofInt 64 b = BitVec.ofInt 64 a ^^^ (BitVec.ofInt 64 a &&& BitVec.ofInt 64 b) := by
    ext i hi
    simp only [BitVec.getElem_and, BitVec.getElem_not, BitVec.getElem_xor]
    cases (BitVec.ofInt 64 a)[i] <;> cases (BitVec.ofInt 64 b)[i] <;> rfl
  have e : (BitVec.ofInt 64 a &&& ~~~ BitVec.ofInt 64 b).toNat % 2 ^ 3 = (a % 8).toNat ^^^ ((a % 8).toNat &&& (b % 8).toNat) := by
    rw [k, BitVec.toNat_xor, BitVec.toNat_and, BitVec.toNat_ofInt, BitVec.toNat_ofInt, Nat.xor_mod_two_pow, Nat.and_mod_two_pow, low_mod8, low_mod8]
  show IntKind.i64.wrap ((BitVec.ofInt 64 a &&& ~~~ BitVec.ofInt 64 b).toNat : Nat) % 8 = _
  rw [wrap_mod8]
  unfold bic3
  rw [← e]
  omega
theorem and_low3 (n m : Int) (h0 : 0 ≤ m) (h1 : m < 8) : bits .and .i64 n m = and3 n m := by
  obtain ⟨m, rfl⟩ := Int.eq_ofNat_of_zero_le h0
  have hm8 : ((m : Int) % 8).toNat = m := by omega
  have e : (BitVec.ofInt 64 n &&& BitVec.ofInt 64 (m : Int)).toNat = (n % 8).toNat &&& m := by
    rw [BitVec.toNat_and, BitVec.ofInt_natCast, BitVec.toNat_ofNat, Nat.mod_eq_of_lt (by omega : m < 2 ^ 64), BitVec.toNat_ofInt]
    have h2 : m = m % 2 ^ 3 := (Nat.mod_eq_of_lt (by omega)).symm
    rw [← low_mod8]
    generalize (n % ((2 ^ 64 : Nat) : Int)).toNat = x
    conv => rhs; rw [h2, ← Nat.and_mod_two_pow]
    exact (Nat.mod_eq_of_lt (Nat.and_lt_two_pow _ (by omega))).symm
  show IntKind.i64.wrap ((BitVec.ofInt 64 n &&& BitVec.ofInt 64 (m : Int)).toNat : Nat) = _
  rw [e]
  have := Nat.and_lt_two_pow (n % 8).toNat (n := 3) (y := m) (by omega)
  rw [i64_small _ (by omega) (by omega)]
  unfold and3
  rw [hm8]
theorem mod_mod8 (n : Int) : n % 8 % 8 = n % 8 := by omega
theorem or3_mod (a b : Int) : or3 a b = or3 (a % 8) (b % 8) := by unfold or3; rw [mod_mod8, mod_mod8]
theorem bic3_mod (a b : Int) : bic3 a b = bic3 (a % 8) (b % 8) := by unfold bic3; rw [mod_mod8, mod_mod8]
theorem and3_mod (a b : Int) : and3 a b = and3 (a % 8) (b % 8) := by unfold and3; rw [mod_mod8, mod_mod8]
theorem all_8 {p : Int → Prop} (h : ∀ x : Fin 8, p (x.val : Int)) {n : Int} (h0 : 0 ≤ n) (h1 : n < 8) : p n := by
  have := h ⟨n.toNat, by omega⟩
  have e : ((n.toNat : Nat) : Int) = n := by omega
  simpa only [e] using this
theorem all_88 {p : Int → Int → Prop} (h : ∀ x y : Fin 8, p (x.val : Int) (y.val : Int)) {a b : Int} (a0 : 0 ≤ a) (a1 : a < 8) (b0 : 0 ≤ b) (b1 : b < 8) : p a b :=
  all_8 (p := fun a => p a b) (fun x => all_8 (p := fun b => p (x.val : Int) b) (fun y => h x y) b0 b1) a0 a1
theorem mod8_in (n : Int) : 0 ≤ n % 8 ∧ n % 8 < 8 := by omega
theorem or3_in (a b : Int) : 0 ≤ or3 a b ∧ or3 a b < 8 := by
  rw [or3_mod]
  exact all_88 (p := fun a b => 0 ≤ or3 a b ∧ or3 a b < 8) (by decide +kernel) (mod8_in a).1 (mod8_in a).2 (mod8_in b).1 (mod8_in b).2
theorem bic3_in (a b : Int) : 0 ≤ bic3 a b ∧ bic3 a b < 8 := by
  rw [bic3_mod]
  exact all_88 (p := fun a b => 0 ≤ bic3 a b ∧ bic3 a b < 8) (by decide +kernel) (mod8_in a).1 (mod8_in a).2 (mod8_in b).1 (mod8_in b).2
def vecOf (x : Int) : Int := if 4 ≤ x % 8 then 65530 else if 2 ≤ x % 8 then 65528 else if 1 ≤ x % 8 then 65526 else 0
def anyOf (x : Int) : Bool := decide (1 ≤ x % 8)
theorem and_4 (n : Int) : bits .and .i64 n 4 = if 4 ≤ n % 8 then 4 else 0 := by
  rw [and_low3 n 4 (by decide) (by decide), and3_mod]
  exact all_8 (p := fun x => and3 x (4 % 8) = if 4 ≤ x then 4 else 0) (by decide +kernel) (mod8_in n).1 (mod8_in n).2
theorem and_2 (n : Int) : bits .and .i64 n 2 = if 2 ≤ n % 4 then 2 else 0 := by
  rw [and_low3 n 2 (by decide) (by decide), and3_mod, show n % 4 = n % 8 % 4 by omega]
  exact all_8 (p := fun x => and3 x (2 % 8) = if 2 ≤ x % 4 then 2 else 0) (by decide +kernel) (mod8_in n).1 (mod8_in n).2
end Go.Proofs.YtoijhhbiknhlnaaGreatDoor.I11
namespace Go.Proofs.YtoijhhbiknhlnaaGreatDoor.I11
set_option maxRecDepth 20000
open Go.RowKit
set_option linter.unusedVariables false
def HasS (w : World) (b : Nat) (m l : Int) : Prop := w.heap[b]? = some (.cells #[.int .i64 m, .int .i64 l] 48 (0, 0))
theorem HasS.next {w w' : World} {b : Nat} {m l : Int} (h : HasS w b m l) (k : Below w.heap.size w w') : HasS w' b m l := (k.block b (lt_of_block h)).trans h
theorem hasS_new (w : World) (m l : Int) : HasS (w.alloc (.cells #[.int .i64 m, .int .i64 l] 48)) w.heap.size m l := heap_alloc_new _ _
theorem HasS.c0 {w : World} {b : Nat} {m l : Int} (h : HasS w b m l) : w.cell? ⟨b, 0, none⟩ = some (.int .i64 m) := (cell_of_row w b 0 _ _ _ h).trans rfl
theorem HasS.c1 {w : World} {b : Nat} {m l : Int} (h : HasS w b m l) : w.cell? ⟨b, 1, none⟩ = some (.int .i64 l) := (cell_of_row w b 1 _ _ _ h).trans rfl
theorem cut_any (m l : Int) (w : World) : Calls Tryz.prog 84 #[.int .i64 m, .int .i64 l] w fun e w' => e = .returned (.agg #[.int .i64 (m % 8), .int .i64 (l % 8)]) ∧ Below w.heap.size w w' := by
  have e1 := and_7 m
  have e2 := and_7 l
  go_enter Tryz.func84, Tryz.ntmps84
  go_wp2
  go_returns
  exact ⟨rfl, (Below.refl _ w).alloc (Nat.le_refl _) _⟩
def liftOf (l n : Int) (on : Bool) : Int := if on then or3 l n else bic3 l n
theorem raise_any (m l n : Int) (on : Bool) (w : World) : Calls Tryz.prog 31 #[.agg #[.int .i64 m, .int .i64 l], .int .i64 n, .bool on] w fun e w' =>
    e = .returned (.agg #[.int .i64 (m % 8), .int .i64 (liftOf l n on)]) ∧ Below w.heap.size w w' := by
  cases on
  · show Calls Tryz.prog 31 _ w fun e w' => e = .returned (.agg #[.int .i64 (m % 8), .int .i64 (bic3 l n)]) ∧ Below w.heap.size w w'
    have C := hide (cut_any m (bits .andNot .i64 l n))
    rw [bic_mod8] at C
    generalize bic3 l n = q at *
    generalize m % 8 = r at *
    go_enter Tryz.func31, Tryz.ntmps31
    go_wp2_with fail
    refine (C.out _).mono ?_
    rintro e w1 ⟨rfl, b1⟩
    have R3 := hide ((b1.block (w.heap.size + 1) (by simp)).trans (heap_alloc2_new _ _ _))
    have B3 := hide (bnext (((Below.refl _ w).alloc (Nat.le_refl _) _).alloc (by simp) _) b1)
    clear b1 C
    go_wp2_with (first
      | (refine wpList_store_row rfl 48 (.tmp 6) (.tmp 21) rfl (w.heap.size + 1) _ rfl rfl 48 _ R3.out (by kernel_rfl) rfl (by kernel_rfl) ?_))
    (try simp only [Exit.inBlock, Exit.then])
    refine bodyPost_ret (results_cell_row rfl _ _ (w.heap.size + 1) 48 _ (0, 0) _ rfl (setRow_heap _ _ _ _ _ _ R3.out) Tryz.underlying48 rfl (by kernel_rfl)) rfl ?_
    exact ⟨rfl, below_setRow B3.out (Nat.le_succ _) _⟩
  · show Calls Tryz.prog 31 _ w fun e w' => e = .returned (.agg #[.int .i64 (m % 8), .int .i64 (or3 l n)]) ∧ Below w.heap.size w w'
    have C := hide (cut_any m (bits .or .i64 l n))
    rw [or_mod8] at C
    generalize or3 l n = q at *
    generalize m % 8 = r at *
    go_enter Tryz.func31, Tryz.ntmps31
    go_wp2_with fail
    refine (C.out _).mono ?_
    rintro e w1 ⟨rfl, b1⟩
    have R3 := hide ((b1.block (w.heap.size + 1) (by simp)).trans (heap_alloc2_new _ _ _))
    have B3 := hide (bnext (((Below.refl _ w).alloc (Nat.le_refl _) _).alloc (by simp) _) b1)
    clear b1 C
    go_wp2_with (first
      | (refine wpList_store_row rfl 48 (.tmp 6) (.tmp 14) rfl (w.heap.size + 1) _ rfl rfl 48 _ R3.out (by kernel_rfl) rfl (by kernel_rfl) ?_))
    (try simp only [Exit.inBlock, Exit.then])
    refine bodyPost_ret (results_cell_row rfl _ _ (w.heap.size + 1) 48 _ (0, 0) _ rfl (setRow_heap _ _ _ _ _ _ R3.out) Tryz.underlying48 rfl (by kernel_rfl)) rfl ?_
    exact ⟨rfl, below_setRow B3.out (Nat.le_succ _) _⟩
theorem write_2 (m l b : Int) (w : World) : Calls Tryz.prog 108 #[.agg #[.int .i64 m, .int .i64 l], .int .i64 2, .int .i64 b] w fun e w' =>
    e = .returned (.agg #[.int .i64 (b % 8), .int .i64 (l % 8)]) ∧ Below w.heap.size w w' := by
  have C := hide (cut_any b l)
  generalize b % 8 = q at *
  generalize l % 8 = r at *
  go_enter Tryz.func108, Tryz.ntmps108
  go_wp2_with fail
  refine (C.out _).mono ?_
  rintro e w1 ⟨rfl, b1⟩
  have R3 := hide ((b1.block (w.heap.size + 1) (by simp)).trans (heap_alloc2_new _ _ _))
  have B3 := hide (bnext (((Below.refl _ w).alloc (Nat.le_refl _) _).alloc (by simp) _) b1)
  clear b1 C
  go_wp2_with (first
    | (refine wpList_store_row rfl 48 (.tmp 6) (.tmp 13) rfl (w.heap.size + 1) _ rfl rfl 48 _ R3.out (by kernel_rfl) rfl (by kernel_rfl) ?_))
  (try simp only [Exit.inBlock, Exit.then])
  refine bodyPost_ret (results_cell_row rfl _ _ (w.heap.size + 1) 48 _ (0, 0) _ rfl (setRow_heap _ _ _ _ _ _ R3.out) Tryz.underlying48 rfl (by kernel_rfl)) rfl ?_
  exact ⟨rfl, below_setRow B3.out (Nat.le_succ _) _⟩
theorem write_3 (m l b : Int) (w : World) : Calls Tryz.prog 108 #[.agg #[.int .i64 m, .int .i64 l], .int .i64 3, .int .i64 b] w fun e w' =>
    e = .returned (.agg #[.int .i64 (m % 8), .int .i64 (bic3 l 4)]) ∧ Below w.heap.size w w' := by
  have C := hide (raise_any m l 4 false)
  rw [show liftOf l 4 false = bic3 l 4 from rfl] at C
  generalize bic3 l 4 = q at *
  generalize m % 8 = r at *
  go_enter Tryz.func108, Tryz.ntmps108
  go_wp2_with fail
  refine (C.out _).mono ?_
  rintro e w1 ⟨rfl, b1⟩
  have R3 := hide ((b1.block (w.heap.size + 1) (by simp)).trans (heap_alloc2_new _ _ _))
  have B3 := hide (bnext (((Below.refl _ w).alloc (Nat.le_refl _) _).alloc (by simp) _) b1)
  clear b1 C
  go_wp2_with (first
    | (refine wpList_store_row rfl 48 (.tmp 6) (.tmp 17) rfl (w.heap.size + 1) _ rfl rfl 48 _ R3.out (by kernel_rfl) rfl (by kernel_rfl) ?_))
  (try simp only [Exit.inBlock, Exit.then])
  refine bodyPost_ret (results_cell_row rfl _ _ (w.heap.size + 1) 48 _ (0, 0) _ rfl (setRow_heap _ _ _ _ _ _ R3.out) Tryz.underlying48 rfl (by kernel_rfl)) rfl ?_
  exact ⟨rfl, below_setRow B3.out (Nat.le_succ _) _⟩
theorem write_no (m l a b : Int) (h2 : ¬ a = 2) (h3 : ¬ a = 3) (w : World) : Calls Tryz.prog 108 #[.agg #[.int .i64 m, .int .i64 l], .int .i64 a, .int .i64 b] w fun e w' =>
    e = .returned (.agg #[.int .i64 m, .int .i64 l]) ∧ Below w.heap.size w w' := by
  go_enter Tryz.func108, Tryz.ntmps108
  go_wp2
  go_returns
  exact ⟨rfl, ((Below.refl _ w).alloc (Nat.le_refl _) _).alloc (by simp) _⟩
def readOf (m l a : Int) : Int := if a = 2 then m % 8 else if a = 3 then l % 8 else 0
theorem read_any (m l a : Int) (w : World) : Calls Tryz.prog 131 #[.agg #[.int .i64 m, .int .i64 l], .int .i64 a] w fun e w' =>
    e = .returned (.int .i64 (readOf m l a)) ∧ Below w.heap.size w w' := by
  unfold readOf
  have e1 := and_7 m
  have e2 := and_7 l
  by_cases h2 : a = 2
  · subst h2
    rw [if_pos rfl]
    go_enter Tryz.func131, Tryz.ntmps131
    go_wp2
    go_ret
    exact ⟨rfl, (Below.refl _ w).alloc (Nat.le_refl _) _⟩
  · rw [if_neg h2]
    by_cases h3 : a = 3
    · subst h3
      rw [if_pos rfl]
      go_enter Tryz.func131, Tryz.ntmps131
      go_wp2
      go_ret
      exact ⟨rfl, (Below.refl _ w).alloc (Nat.le_refl _) _⟩
    · rw [if_neg h3]
      go_enter Tryz.func131, Tryz.ntmps131
      go_wp2
      go_ret
      exact ⟨rfl, (Below.refl _ w).alloc (Nat.le_refl _) _⟩
end Go.Proofs.YtoijhhbiknhlnaaGreatDoor.I11
namespace Go.Proofs.YtoijhhbiknhlnaaGreatDoor.I11
set_option maxRecDepth 20000
open Go.RowKit
set_option linter.unusedVariables false
def vecCells : Array Value := #[.int .i64 4, .int .i64 65530, .int .i64 2, .int .i64 65528, .int .i64 1, .int .i64 65526]
def HasVec (w : World) : Prop := ∃ t fr, w.heap[0]? = some (.cells vecCells t fr)
theorem HasVec.pos {w : World} (h : HasVec w) : 0 < w.heap.size := by
  obtain ⟨t, fr, e⟩ := h
  exact lt_of_block e
def lineAt (j : Nat) : Int := [(4 : Int), 2, 1].getD j 0
def atAt (j : Nat) : Int := [(65530 : Int), 65528, 65526].getD j 0
theorem vec_index (j : Nat) (hj : j < 3) (w : World) : (Instr.index 102 (.agg vecCells) (.int .i64 (j : Int))).run Tryz.prog w = .ok (.agg #[.int .i64 (lineAt j), .int .i64 (atAt j)]) w := by
  rcases j with _ | _ | _ | j
  · kernel_rfl
  · kernel_rfl
  · kernel_rfl
  · omega
theorem free_any (m l x n : Int) (b : Nat) (w : World) (h0 : w.cell? ⟨b, 0, none⟩ = some (.int .i64 m)) (h1 : w.cell? ⟨b, 1, none⟩ = some (.int .i64 l)) (hx : bits .andNot .i64 l m = x) :
    Calls Tryz.prog 34 #[.int .i64 n, .pointer (some ⟨b, 0, none⟩)] w fun e w' => e = .returned (.bool (bits .and .i64 x n != 0)) ∧ w' = w := by
  go_enter Tryz.func34, Tryz.ntmps34
  go_wp2
  go_ret
  exact ⟨rfl, rfl⟩
theorem pick_at (m l p x : Int) (hx : bits .andNot .i64 l m = x) (hp : bits .and .i64 p 4 = 0) (w : World) (cs : Array Value) (t : TypeId) (fr : Nat × Nat) (hT : w.heap[0]? = some (.cells cs t fr)) (hs : some 6 = some cs.size)
    (hi : ∀ (j : Nat), j < 3 → ∀ w : World, (Instr.index 102 (.agg cs) (.int .i64 (j : Int))).run Tryz.prog w = .ok (.agg #[.int .i64 (lineAt j), .int .i64 (atAt j)]) w) :
    Calls Tryz.prog 20 #[.agg #[.int .i64 m, .int .i64 l], .int .i64 p] w fun e w' =>
      ((∃ j, j < 3 ∧ bits .and .i64 x (lineAt j) ≠ 0 ∧ (∀ i, i < j → bits .and .i64 x (lineAt i) = 0) ∧ e = .returned (.tuple #[.int .i64 (atAt j), .bool true])) ∨ ((∀ i, i < 3 → bits .and .i64 x (lineAt i) = 0) ∧ e = .returned (.tuple #[.int .i64 0, .bool false]))) ∧ Below w.heap.size w w' := by
  have hz : (Tryz.prog.info? 102).map (·.size) = some cs.size := Eq.trans (by kernel_rfl) hs
  have HX := hide hi
  have HT := hide hT
  have HI := hide hz
  have FX := hide hx
  clear hs hi hT hz hx
  go_enter Tryz.func20, Tryz.ntmps20
  have HU := hide ((((Below.refl _ w).alloc (Nat.le_refl _) (.cells #[.int .i64 m, .int .i64 l] 48)).block 0 (lt_of_block HT.out)).trans HT.out)
  go_wp2_with (first | (refine wpList_load_row rfl 102 (.global 0) rfl 0 rfl t cs fr _ HU.out Tryz.underlying102 rfl HI.out ?_))
  obtain ⟨wa, hwa⟩ : ∃ wa, wa = w.alloc (.cells #[.int .i64 m, .int .i64 l] 48) := ⟨_, rfl⟩
  rw [← hwa]
  have ba := hide (show Below w.heap.size w wa by rw [hwa]; exact (Below.refl _ w).alloc (Nat.le_refl _) _)
  have ra := hide (show HasS wa w.heap.size m l by rw [hwa]; exact hasS_new w m l)
  clear hwa HU HT
  go_loopw [14] (fun si wr => ∃ j : Nat, j ≤ 3 ∧ si = .int .i64 (j : Int) ∧ (∀ i, i < j → bits .and .i64 x (lineAt i) = 0) ∧ Below wa.heap.size wa wr) (fun si _ => 3 - (intOf si).toNat)
  case atStart => exact ⟨0, by omega, rfl, fun i hi => absurd hi (by omega), Below.refl _ _⟩
  case round =>
    obtain ⟨j, hj, rfl, hne, bel⟩ := hrel
    have HN := hide hne
    have BL := hide bel
    clear hne bel
    by_cases h : j < 3
    · have hx := HX.out j h
      obtain ⟨n, hn⟩ : ∃ n, n = lineAt j := ⟨_, rfl⟩
      obtain ⟨k, hk⟩ : ∃ k, k = atAt j := ⟨_, rfl⟩
      rw [← hn, ← hk] at hx
      have HP := hide hn
      have HK := hide hk
      clear hn hk
      have BM := hide (BL.out.alloc BL.out.size (.cells #[.int .i64 n, .int .i64 k] 101))
      have cf := hide (free_any m l x n w.heap.size _ ((ra.out.next BM.out).c0) ((ra.out.next BM.out).c1) FX.out)
      by_cases hq : bits .and .i64 x n = 0
      · rw [show (bits .and .i64 x n != 0) = false by rw [hq]; rfl] at cf
        have HQ := hide hq
        clear hq
        go_wp2_with (first | (refine cf.out.mono ?_; rintro e w1 ⟨rfl, rfl⟩))
        go_roundw
        case rel =>
          refine ⟨j + 1, by omega, by go_num, fun i hi => ?_, BM.out⟩
          by_cases hij : i = j
          · subst hij; rw [← HP.out]; exact HQ.out
          · exact HN.out i (by omega)
        case measure => simp [intOf]; omega
      · rw [show (bits .and .i64 x n != 0) = true by simp [hq]] at cf
        have HQ := hide hq
        clear hq
        go_wp2_with (first | (refine cf.out.mono ?_; rintro e w1 ⟨rfl, rfl⟩))
        go_ret2
        refine ⟨.inl ⟨j, h, by rw [← HP.out]; exact HQ.out, HN.out, ret_kb HK.out rfl⟩, bnext ba.out BM.out⟩
    · have hj : j = 3 := by omega
      subst hj
      go_wp2_with fail
      go_ret2
      exact ⟨.inr ⟨HN.out, rfl⟩, bnext ba.out BL.out⟩
theorem pick_free (m l p : Int) (hp : p % 8 < 4) (w : World) (hT : HasVec w) :
    Calls Tryz.prog 20 #[.agg #[.int .i64 m, .int .i64 l], .int .i64 p] w fun e w' => e = .returned (.tuple #[.int .i64 (vecOf (bic3 l m)), .bool (anyOf (bic3 l m))]) ∧ Below w.heap.size w w' := by
  obtain ⟨t, fr, hT⟩ := hT
  have h4 : bits .and .i64 p 4 = 0 := by rw [and_4, if_neg (by omega)]
  refine (pick_at m l p _ rfl h4 w vecCells t fr hT rfl (fun j hj w => vec_index j hj w)).mono ?_
  have hx := bic_mod8 l m
  generalize bits .andNot .i64 l m = x at *
  rw [← hx]
  clear hx
  have a4 := and_4 x
  have a2 := and_2 x
  have a1 := and_1 x
  rintro e w' ⟨⟨j, hj, hn, hb, rfl⟩ | ⟨hb, rfl⟩, b⟩
  · refine ⟨?_, b⟩
    rcases j with _ | _ | _ | j
    · have h : bits .and .i64 x 4 ≠ 0 := hn
      have h2 : 4 ≤ x % 8 := by rw [a4] at h; split at h <;> first | assumption | exact absurd rfl h
      refine ret_kb ?_ ?_
      · unfold vecOf; rw [if_pos (by omega)]; rfl
      · unfold anyOf; rw [decide_eq_true (by omega)]
    · have h : bits .and .i64 x 2 ≠ 0 := hn
      have k : bits .and .i64 x 4 = 0 := hb 0 (by decide)
      have h2 : 2 ≤ x % 4 := by rw [a2] at h; split at h <;> first | assumption | exact absurd rfl h
      have k2 : x % 8 < 4 := by rw [a4] at k; split at k <;> omega
      refine ret_kb ?_ ?_
      · unfold vecOf; rw [if_neg (by omega), if_pos (by omega)]; rfl
      · unfold anyOf; rw [decide_eq_true (by omega)]
    · have h : bits .and .i64 x 1 ≠ 0 := hn
      have k : bits .and .i64 x 4 = 0 := hb 0 (by decide)
      have g : bits .and .i64 x 2 = 0 := hb 1 (by decide)
      have h2 : x % 2 = 1 := by rw [a1] at h; omega
      have k2 : x % 8 < 4 := by rw [a4] at k; split at k <;> omega
      have g2 : x % 4 < 2 := by rw [a2] at g; split at g <;> omega
      refine ret_kb ?_ ?_
      · unfold vecOf; rw [if_neg (by omega), if_neg (by omega), if_pos (by omega)]; rfl
      · unfold anyOf; rw [decide_eq_true (by omega)]
    · omega
  · refine ⟨?_, b⟩
    have k : bits .and .i64 x 4 = 0 := hb 0 (by decide)
    have g : bits .and .i64 x 2 = 0 := hb 1 (by decide)
    have h : bits .and .i64 x 1 = 0 := hb 2 (by decide)
    have h2 : x % 2 = 0 := by rw [a1] at h; omega
    have k2 : x % 8 < 4 := by rw [a4] at k; split at k <;> omega
    have g2 : x % 4 < 2 := by rw [a2] at g; split at g <;> omega
    refine ret_kb ?_ ?_
    · unfold vecOf; rw [if_neg (by omega), if_neg (by omega), if_neg (by omega)]
    · unfold anyOf; rw [decide_eq_false (by omega)]
theorem pick_held (m l p : Int) (hp : 4 ≤ p % 8) (w : World) :
    Calls Tryz.prog 20 #[.agg #[.int .i64 m, .int .i64 l], .int .i64 p] w fun e w' => e = .returned (.tuple #[.int .i64 0, .bool false]) ∧ Below w.heap.size w w' := by
  have h4 : bits .and .i64 p 4 = 4 := by rw [and_4, if_pos hp]
  go_enter Tryz.func20, Tryz.ntmps20
  go_wp2
  go_ret2
  exact ⟨rfl, (Below.refl _ w).alloc (Nat.le_refl _) _⟩
end Go.Proofs.YtoijhhbiknhlnaaGreatDoor.I11
namespace Go.Proofs.YtoijhhbiknhlnaaGreatDoor.I11
set_option maxRecDepth 20000
open Go.RowKit
set_option linter.unusedVariables false
end Go.Proofs.YtoijhhbiknhlnaaGreatDoor.I11
