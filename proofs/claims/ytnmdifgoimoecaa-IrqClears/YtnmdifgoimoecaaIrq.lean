/- Contracts of package irq: what each of its functions returns. -/
import Derived.Test.YtnmdifgoimoecaaRows
import Derived.Test.YtnmdifgoimoecaaPlain
import Derived.Test.YtnmdifgoimoecaaKit
import Derived.Test.YtnmdifgoimoecaaKept
import Derived.Test.YtnmdifgoimoecaaPlainIrq
import Derived.Laws.StructEq
import Derived.Laws.Rows
import Derived.Laws.Tables
import Derived.Laws.ResultCell
import Derived.Laws.CopyOwn
import Derived.RegionTactic
import Derived.LaidEql
import Derived.WalkMore
import Derived.WalkKit
import Derived.Below
import Derived.OneCell
import Derived.Handy
namespace Go.Proofs.Ytnmdifgoimoecaa
open Go.RowKit
set_option linter.unusedVariables false

/-- Two states are alike, field by field. -/
def sameS (m l m' l' : Int) : Bool := (m == m') && (l == l')
theorem eqS (m l m' l' : Int) (w : World) : (binOp .eql 23 (.agg #[.int .i64 m, .int .i64 l]) (.agg #[.int .i64 m', .int .i64 l'])).run Try.prog w = .ok (.bool (sameS m l m' l')) w := by
  rw [run_eql_struct, run_equalIn_struct w 9999 23 _ _ (by kernel_rfl) (by kernel_rfl)]
  unfold sameS
  simp [Program.fieldsOf, Try.underlying23, Op.eqFields, part, isAgg, run_underlying Try.underlying3, run_equalIn_int _ _ _ _ _ _ _ Try.underlying3]
  by_cases h1 : m = m' <;> by_cases h2 : l = l' <;> simp [h1, h2]
/-- Block b holds a state. -/
def HasS (w : World) (b : Nat) (m l : Int) : Prop := w.heap[b]? = some (.cells #[.int .i64 m, .int .i64 l] 23 (0, 0))
theorem HasS.next {w w' : World} {b : Nat} {m l : Int} (h : HasS w b m l) (k : Below w.heap.size w w') : HasS w' b m l := (k.block b (lt_of_block h)).trans h
theorem HasS.alloc {w : World} {b : Nat} {m l : Int} (h : HasS w b m l) (x : Obj) : HasS (w.alloc x) b m l := h.next ((Below.refl _ w).alloc (Nat.le_refl _) _)
theorem hasS_new (w : World) (m l : Int) : HasS (w.alloc (.cells #[.int .i64 m, .int .i64 l] 23)) w.heap.size m l := heap_alloc_new _ _
theorem HasS.lt {w : World} {b : Nat} {m l : Int} (h : HasS w b m l) : b < w.heap.size := lt_of_block h
theorem HasS.c0 {w : World} {b : Nat} {m l : Int} (h : HasS w b m l) : w.cell? ⟨b, 0, none⟩ = some (.int .i64 m) := (cell_of_row w b 0 _ _ _ h).trans rfl
theorem HasS.c1 {w : World} {b : Nat} {m l : Int} (h : HasS w b m l) : w.cell? ⟨b, 1, none⟩ = some (.int .i64 l) := (cell_of_row w b 1 _ _ _ h).trans rfl

theorem cut_any (m l : Int) (w : World) : Calls Try.prog 7 #[.int .i64 m, .int .i64 l] w fun e w' => e = .returned (.agg #[.int .i64 (m % 8), .int .i64 (l % 8)]) ∧ Below w.heap.size w w' := by
  have e1 := and_7 m
  have e2 := and_7 l
  go_enter Try.func7, Try.ntmps7
  go_wp2
  go_returns
  exact ⟨rfl, (Below.refl _ w).alloc (Nat.le_refl _) _⟩
/-- The lines with a line raised, or not. -/
def liftOf (l n : Int) (on : Bool) : Int := if on then or3 l n else bic3 l n
theorem raise_any (m l n : Int) (on : Bool) (w : World) : Calls Try.prog 4 #[.agg #[.int .i64 m, .int .i64 l], .int .i64 n, .bool on] w fun e w' =>
    e = .returned (.agg #[.int .i64 (m % 8), .int .i64 (liftOf l n on)]) ∧ Below w.heap.size w w' := by
  cases on
  · show Calls Try.prog 4 _ w fun e w' => e = .returned (.agg #[.int .i64 (m % 8), .int .i64 (bic3 l n)]) ∧ Below w.heap.size w w'
    have C := hide (cut_any m (bits .andNot .i64 l n))
    rw [bic_mod8] at C
    generalize bic3 l n = q at *
    generalize m % 8 = r at *
    go_enter Try.func4, Try.ntmps4
    go_wp2_with fail
    refine (C.out _).mono ?_
    rintro e w1 ⟨rfl, b1⟩
    have R3 := hide ((b1.block (w.heap.size + 1) (by simp)).trans (heap_alloc2_new _ _ _))
    have B3 := hide (bnext (((Below.refl _ w).alloc (Nat.le_refl _) _).alloc (by simp) _) b1)
    clear b1 C
    go_wp2_with (first
      | (refine wpList_store_row rfl 23 (.tmp 6) (.tmp 21) rfl (w.heap.size + 1) _ rfl rfl 23 _ R3.out (by kernel_rfl) rfl (by kernel_rfl) ?_))
    (try simp only [Exit.inBlock, Exit.then])
    refine bodyPost_ret (results_cell_row rfl _ _ (w.heap.size + 1) 23 _ (0, 0) _ rfl (setRow_heap _ _ _ _ _ _ R3.out) Try.underlying23 rfl (by kernel_rfl)) rfl ?_
    exact ⟨rfl, below_setRow B3.out (Nat.le_succ _) _⟩
  · show Calls Try.prog 4 _ w fun e w' => e = .returned (.agg #[.int .i64 (m % 8), .int .i64 (or3 l n)]) ∧ Below w.heap.size w w'
    have C := hide (cut_any m (bits .or .i64 l n))
    rw [or_mod8] at C
    generalize or3 l n = q at *
    generalize m % 8 = r at *
    go_enter Try.func4, Try.ntmps4
    go_wp2_with fail
    refine (C.out _).mono ?_
    rintro e w1 ⟨rfl, b1⟩
    have R3 := hide ((b1.block (w.heap.size + 1) (by simp)).trans (heap_alloc2_new _ _ _))
    have B3 := hide (bnext (((Below.refl _ w).alloc (Nat.le_refl _) _).alloc (by simp) _) b1)
    clear b1 C
    go_wp2_with (first
      | (refine wpList_store_row rfl 23 (.tmp 6) (.tmp 14) rfl (w.heap.size + 1) _ rfl rfl 23 _ R3.out (by kernel_rfl) rfl (by kernel_rfl) ?_))
    (try simp only [Exit.inBlock, Exit.then])
    refine bodyPost_ret (results_cell_row rfl _ _ (w.heap.size + 1) 23 _ (0, 0) _ rfl (setRow_heap _ _ _ _ _ _ R3.out) Try.underlying23 rfl (by kernel_rfl)) rfl ?_
    exact ⟨rfl, below_setRow B3.out (Nat.le_succ _) _⟩
theorem write_2 (m l b : Int) (w : World) : Calls Try.prog 5 #[.agg #[.int .i64 m, .int .i64 l], .int .i64 2, .int .i64 b] w fun e w' =>
    e = .returned (.agg #[.int .i64 (b % 8), .int .i64 (l % 8)]) ∧ Below w.heap.size w w' := by
  have C := hide (cut_any b l)
  generalize b % 8 = q at *
  generalize l % 8 = r at *
  go_enter Try.func5, Try.ntmps5
  go_wp2_with fail
  refine (C.out _).mono ?_
  rintro e w1 ⟨rfl, b1⟩
  have R3 := hide ((b1.block (w.heap.size + 1) (by simp)).trans (heap_alloc2_new _ _ _))
  have B3 := hide (bnext (((Below.refl _ w).alloc (Nat.le_refl _) _).alloc (by simp) _) b1)
  clear b1 C
  go_wp2_with (first
    | (refine wpList_store_row rfl 23 (.tmp 6) (.tmp 13) rfl (w.heap.size + 1) _ rfl rfl 23 _ R3.out (by kernel_rfl) rfl (by kernel_rfl) ?_))
  (try simp only [Exit.inBlock, Exit.then])
  refine bodyPost_ret (results_cell_row rfl _ _ (w.heap.size + 1) 23 _ (0, 0) _ rfl (setRow_heap _ _ _ _ _ _ R3.out) Try.underlying23 rfl (by kernel_rfl)) rfl ?_
  exact ⟨rfl, below_setRow B3.out (Nat.le_succ _) _⟩
theorem write_3 (m l b : Int) (w : World) : Calls Try.prog 5 #[.agg #[.int .i64 m, .int .i64 l], .int .i64 3, .int .i64 b] w fun e w' =>
    e = .returned (.agg #[.int .i64 (m % 8), .int .i64 (bic3 l 4)]) ∧ Below w.heap.size w w' := by
  have C := hide (raise_any m l 4 false)
  rw [show liftOf l 4 false = bic3 l 4 from rfl] at C
  generalize bic3 l 4 = q at *
  generalize m % 8 = r at *
  go_enter Try.func5, Try.ntmps5
  go_wp2_with fail
  refine (C.out _).mono ?_
  rintro e w1 ⟨rfl, b1⟩
  have R3 := hide ((b1.block (w.heap.size + 1) (by simp)).trans (heap_alloc2_new _ _ _))
  have B3 := hide (bnext (((Below.refl _ w).alloc (Nat.le_refl _) _).alloc (by simp) _) b1)
  clear b1 C
  go_wp2_with (first
    | (refine wpList_store_row rfl 23 (.tmp 6) (.tmp 17) rfl (w.heap.size + 1) _ rfl rfl 23 _ R3.out (by kernel_rfl) rfl (by kernel_rfl) ?_))
  (try simp only [Exit.inBlock, Exit.then])
  refine bodyPost_ret (results_cell_row rfl _ _ (w.heap.size + 1) 23 _ (0, 0) _ rfl (setRow_heap _ _ _ _ _ _ R3.out) Try.underlying23 rfl (by kernel_rfl)) rfl ?_
  exact ⟨rfl, below_setRow B3.out (Nat.le_succ _) _⟩
theorem write_no (m l a b : Int) (h2 : ¬ a = 2) (h3 : ¬ a = 3) (w : World) : Calls Try.prog 5 #[.agg #[.int .i64 m, .int .i64 l], .int .i64 a, .int .i64 b] w fun e w' =>
    e = .returned (.agg #[.int .i64 m, .int .i64 l]) ∧ Below w.heap.size w w' := by
  go_enter Try.func5, Try.ntmps5
  go_wp2
  go_returns
  exact ⟨rfl, ((Below.refl _ w).alloc (Nat.le_refl _) _).alloc (by simp) _⟩
def readOf (m l a : Int) : Int := if a = 2 then m % 8 else if a = 3 then l % 8 else 0
theorem read_any (m l a : Int) (w : World) : Calls Try.prog 6 #[.agg #[.int .i64 m, .int .i64 l], .int .i64 a] w fun e w' =>
    e = .returned (.int .i64 (readOf m l a)) ∧ Below w.heap.size w w' := by
  unfold readOf
  have e1 := and_7 m
  have e2 := and_7 l
  by_cases h2 : a = 2
  · subst h2
    rw [if_pos rfl]
    go_enter Try.func6, Try.ntmps6
    go_wp2
    go_ret
    exact ⟨rfl, (Below.refl _ w).alloc (Nat.le_refl _) _⟩
  · rw [if_neg h2]
    by_cases h3 : a = 3
    · subst h3
      rw [if_pos rfl]
      go_enter Try.func6, Try.ntmps6
      go_wp2
      go_ret
      exact ⟨rfl, (Below.refl _ w).alloc (Nat.le_refl _) _⟩
    · rw [if_neg h3]
      go_enter Try.func6, Try.ntmps6
      go_wp2
      go_ret
      exact ⟨rfl, (Below.refl _ w).alloc (Nat.le_refl _) _⟩
end Go.Proofs.Ytnmdifgoimoecaa
