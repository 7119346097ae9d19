/- Texts without a word of the program, one behind the other. -/
import Derived.Test.YtnoggfnidaifkaaGreatDoorRows
import Derived.Laws.StructEq
import Derived.Laws.Rows
import Derived.Laws.Tables
import Derived.Laws.ResultCell
import Derived.Laws.CopyOwn
import Derived.RegionTactic
import Derived.LaidEql
import Derived.WalkMore
import Derived.WalkKit
import Derived.Below
import Derived.OneCell
import Derived.Handy
import Derived.Test.YtnoggfnidaifkaaGreatDoorConsoleNobodyJ03
namespace Go.Proofs.YtnoggfnidaifkaaGreatDoor.I11
set_option maxRecDepth 20000
theorem wrap_mod8 (y : Int) : IntKind.i64.wrap y % 8 = y % 8 := by rw [IntKind.wrap_i64]; omega
theorem low_mod8 (n : Int) : (n % ((2 ^ 64 : Nat) : Int)).toNat % 2 ^ 3 = (n % 8).toNat := by omega
def or3 (a b : Int) : Int := (((a % 8).toNat ||| (b % 8).toNat : Nat) : Int)
def bic3 (a b : Int) : Int := (((a % 8).toNat ^^^ ((a % 8).toNat &&& (b % 8).toNat) : Nat) : Int)
theorem or_mod8 (a b : Int) : bits .or .i64 a b % 8 = or3 a b := by
  have e : (BitVec.ofInt 64 a ||| BitVec.ofInt 64 b).toNat % 2 ^ 3 = (a % 8).toNat ||| (b % 8).toNat := by
    rw [BitVec.toNat_or, BitVec.toNat_ofInt, BitVec.toNat_ofInt, Nat.or_mod_two_pow, low_mod8, low_mod8]
  show IntKind.i64.wrap ((BitVec.ofInt 64 a ||| BitVec.ofInt 64 b).toNat : Nat) % 8 = _
  rw [wrap_mod8]
  unfold or3
  rw [← e]
  omega
theorem bic_mod8 (a b : Int) : bits .andNot .i64 a b % 8 = bic3 a b := by
  have k : BitVec.ofInt 64 a &&& ~~~ BitVec.ofInt 64 b = BitVec.ofInt 64 a ^^^ (BitVec.ofInt 64 a &&& BitVec.ofInt 64 b) := by
    ext i hi
    simp only [BitVec.getElem_and, BitVec.getElem_not, BitVec.getElem_xor]
    cases (BitVec.ofInt 64 a)[i] <;> cases (BitVec.ofInt 64 b)[i] <;> rfl
  have e : (BitVec.ofInt 64 a &&& ~~~ BitVec.ofInt 64 b).toNat % 2 ^ 3 = (a % 8).toNat ^^^ ((a % 8).toNat &&& (b % 8).toNat) := by
    rw [k, BitVec.toNat_xor, BitVec.toNat_and, BitVec.toNat_ofInt, BitVec.toNat_ofInt, Nat.xor_mod_two_pow, Nat.and_mod_two_pow, low_mod8, low_mod8]
  show IntKind.i64.wrap ((BitVec.ofInt 64 a &&& ~~~ BitVec.ofInt 64 b).toNat : Nat) % 8 = _
  rw [wrap_mod8]
  unfold bic3
  rw [← e]
  omega
theorem mod_mod8 (n : Int) : n % 8 % 8 = n % 8 := by omega
theorem or3_mod (a b : Int) : or3 a b = or3 (a % 8) (b % 8) := by unfold or3; rw [mod_mod8, mod_mod8]
theorem bic3_mod (a b : Int) : bic3 a b = bic3 (a % 8) (b % 8) := by unfold bic3; rw [mod_mod8, mod_mod8]
theorem all_8 {p : Int → Prop} (h : ∀ x : Fin 8, p (x.val : Int)) {n : Int} (h0 : 0 ≤ n) (h1 : n < 8) : p n := by
  have := h ⟨n.toNat, by omega⟩
  have e : ((n.toNat : Nat) : Int) = n := by omega
  simpa only [e] using this
theorem all_88 {p : Int → Int → Prop} (h : ∀ x y : Fin 8, p (x.val : Int) (y.val : Int)) {a b : Int} (a0 : 0 ≤ a) (a1 : a < 8) (b0 : 0 ≤ b) (b1 : b < 8) : p a b :=
  all_8 (p := fun a => p a b) (fun x => all_8 (p := fun b => p (x.val : Int) b) (fun y => h x y) b0 b1) a0 a1
theorem mod8_in (n : Int) : 0 ≤ n % 8 ∧ n % 8 < 8 := by omega
theorem or3_in (a b : Int) : 0 ≤ or3 a b ∧ or3 a b < 8 := by
  rw [or3_mod]
  exact all_88 (p := fun a b => 0 ≤ or3 a b ∧ or3 a b < 8) (by decide +kernel) (mod8_in a).1 (mod8_in a).2 (mod8_in b).1 (mod8_in b).2
theorem bic3_in (a b : Int) : 0 ≤ bic3 a b ∧ bic3 a b < 8 := by
  rw [bic3_mod]
  exact all_88 (p := fun a b => 0 ≤ bic3 a b ∧ bic3 a b < 8) (by decide +kernel) (mod8_in a).1 (mod8_in a).2 (mod8_in b).1 (mod8_in b).2
end Go.Proofs.YtnoggfnidaifkaaGreatDoor.I11
namespace Go.Proofs.YtnoggfnidaifkaaGreatDoor.I11
set_option maxRecDepth 20000
open Go.RowKit
set_option linter.unusedVariables false
def HasS (w : World) (b : Nat) (m l : Int) : Prop := w.heap[b]? = some (.cells #[.int .i64 m, .int .i64 l] 63 (0, 0))
theorem HasS.next {w w' : World} {b : Nat} {m l : Int} (h : HasS w b m l) (k : Below w.heap.size w w') : HasS w' b m l := (k.block b (lt_of_block h)).trans h
theorem HasS.alloc {w : World} {b : Nat} {m l : Int} (h : HasS w b m l) (x : Obj) : HasS (w.alloc x) b m l := h.next ((Below.refl _ w).alloc (Nat.le_refl _) _)
theorem HasS.lt {w : World} {b : Nat} {m l : Int} (h : HasS w b m l) : b < w.heap.size := lt_of_block h
theorem HasS.c0 {w : World} {b : Nat} {m l : Int} (h : HasS w b m l) : w.cell? ⟨b, 0, none⟩ = some (.int .i64 m) := (cell_of_row w b 0 _ _ _ h).trans rfl
theorem HasS.c1 {w : World} {b : Nat} {m l : Int} (h : HasS w b m l) : w.cell? ⟨b, 1, none⟩ = some (.int .i64 l) := (cell_of_row w b 1 _ _ _ h).trans rfl
theorem cut_any (m l : Int) (w : World) : Calls Tryz.prog 142 #[.int .i64 m, .int .i64 l] w fun e w' => e = .returned (.agg #[.int .i64 (m % 8), .int .i64 (l % 8)]) ∧ Below w.heap.size w w' := by
  have e1 := and_7 m
  have e2 := and_7 l
  go_enter Tryz.func142, Tryz.ntmps142
  go_wp2
  go_returns
  exact ⟨rfl, (Below.refl _ w).alloc (Nat.le_refl _) _⟩
def liftOf (l n : Int) (on : Bool) : Int := if on then or3 l n else bic3 l n
theorem raise_any (m l n : Int) (on : Bool) (w : World) : Calls Tryz.prog 94 #[.agg #[.int .i64 m, .int .i64 l], .int .i64 n, .bool on] w fun e w' =>
    e = .returned (.agg #[.int .i64 (m % 8), .int .i64 (liftOf l n on)]) ∧ Below w.heap.size w w' := by
  cases on
  · show Calls Tryz.prog 94 _ w fun e w' => e = .returned (.agg #[.int .i64 (m % 8), .int .i64 (bic3 l n)]) ∧ Below w.heap.size w w'
    have C := hide (cut_any m (bits .andNot .i64 l n))
    rw [bic_mod8] at C
    generalize bic3 l n = q at *
    generalize m % 8 = r at *
    go_enter Tryz.func94, Tryz.ntmps94
    go_wp2_with fail
    refine (C.out _).mono ?_
    rintro e w1 ⟨rfl, b1⟩
    have R3 := hide ((b1.block (w.heap.size + 1) (by simp)).trans (heap_alloc2_new _ _ _))
    have B3 := hide (bnext (((Below.refl _ w).alloc (Nat.le_refl _) _).alloc (by simp) _) b1)
    clear b1 C
    go_wp2_with (first
      | (refine wpList_store_row rfl 63 (.tmp 6) (.tmp 21) rfl (w.heap.size + 1) _ rfl rfl 63 _ R3.out (by kernel_rfl) rfl (by kernel_rfl) ?_))
    (try simp only [Exit.inBlock, Exit.then])
    refine bodyPost_ret (results_cell_row rfl _ _ (w.heap.size + 1) 63 _ (0, 0) _ rfl (setRow_heap _ _ _ _ _ _ R3.out) Tryz.underlying63 rfl (by kernel_rfl)) rfl ?_
    exact ⟨rfl, below_setRow B3.out (Nat.le_succ _) _⟩
  · show Calls Tryz.prog 94 _ w fun e w' => e = .returned (.agg #[.int .i64 (m % 8), .int .i64 (or3 l n)]) ∧ Below w.heap.size w w'
    have C := hide (cut_any m (bits .or .i64 l n))
    rw [or_mod8] at C
    generalize or3 l n = q at *
    generalize m % 8 = r at *
    go_enter Tryz.func94, Tryz.ntmps94
    go_wp2_with fail
    refine (C.out _).mono ?_
    rintro e w1 ⟨rfl, b1⟩
    have R3 := hide ((b1.block (w.heap.size + 1) (by simp)).trans (heap_alloc2_new _ _ _))
    have B3 := hide (bnext (((Below.refl _ w).alloc (Nat.le_refl _) _).alloc (by simp) _) b1)
    clear b1 C
    go_wp2_with (first
      | (refine wpList_store_row rfl 63 (.tmp 6) (.tmp 14) rfl (w.heap.size + 1) _ rfl rfl 63 _ R3.out (by kernel_rfl) rfl (by kernel_rfl) ?_))
    (try simp only [Exit.inBlock, Exit.then])
    refine bodyPost_ret (results_cell_row rfl _ _ (w.heap.size + 1) 63 _ (0, 0) _ rfl (setRow_heap _ _ _ _ _ _ R3.out) Tryz.underlying63 rfl (by kernel_rfl)) rfl ?_
    exact ⟨rfl, below_setRow B3.out (Nat.le_succ _) _⟩
theorem write_no (m l a b : Int) (h2 : ¬ a = 2) (h3 : ¬ a = 3) (w : World) : Calls Tryz.prog 248 #[.agg #[.int .i64 m, .int .i64 l], .int .i64 a, .int .i64 b] w fun e w' =>
    e = .returned (.agg #[.int .i64 m, .int .i64 l]) ∧ Below w.heap.size w w' := by
  go_enter Tryz.func248, Tryz.ntmps248
  go_wp2
  go_returns
  exact ⟨rfl, ((Below.refl _ w).alloc (Nat.le_refl _) _).alloc (by simp) _⟩
def readOf (m l a : Int) : Int := if a = 2 then m % 8 else if a = 3 then l % 8 else 0
theorem read_any (m l a : Int) (w : World) : Calls Tryz.prog 152 #[.agg #[.int .i64 m, .int .i64 l], .int .i64 a] w fun e w' =>
    e = .returned (.int .i64 (readOf m l a)) ∧ Below w.heap.size w w' := by
  unfold readOf
  have e1 := and_7 m
  have e2 := and_7 l
  by_cases h2 : a = 2
  · subst h2
    rw [if_pos rfl]
    go_enter Tryz.func152, Tryz.ntmps152
    go_wp2
    go_ret
    exact ⟨rfl, (Below.refl _ w).alloc (Nat.le_refl _) _⟩
  · rw [if_neg h2]
    by_cases h3 : a = 3
    · subst h3
      rw [if_pos rfl]
      go_enter Tryz.func152, Tryz.ntmps152
      go_wp2
      go_ret
      exact ⟨rfl, (Below.refl _ w).alloc (Nat.le_refl _) _⟩
    · rw [if_neg h3]
      go_enter Tryz.func152, Tryz.ntmps152
      go_wp2
      go_ret
      exact ⟨rfl, (Below.refl _ w).alloc (Nat.le_refl _) _⟩
end Go.Proofs.YtnoggfnidaifkaaGreatDoor.I11
namespace Go.Proofs.YtnoggfnidaifkaaGreatDoor.I11
set_option maxRecDepth 20000
open Go.RowKit
set_option linter.unusedVariables false
def vecCells : Array Value := #[.int .i64 4, .int .i64 65530, .int .i64 2, .int .i64 65528, .int .i64 1, .int .i64 65526]
def HasVec (w : World) : Prop := ∃ t fr, w.heap[3]? = some (.cells vecCells t fr)
theorem HasVec.pos {w : World} (h : HasVec w) : 3 < w.heap.size := by
  obtain ⟨t, fr, e⟩ := h
  exact lt_of_block e
theorem HasVec.next {w w' : World} (h : HasVec w) (b : Below w.heap.size w w') : HasVec w' := by
  have k := h.pos
  obtain ⟨t, fr, e⟩ := h
  exact ⟨t, fr, (b.block 3 k).trans e⟩
end Go.Proofs.YtnoggfnidaifkaaGreatDoor.I11
namespace Go.Proofs.YtnoggfnidaifkaaGreatDoor.I11
set_option maxRecDepth 20000
open Go.RowKit
set_option linter.unusedVariables false
end Go.Proofs.YtnoggfnidaifkaaGreatDoor.I11
