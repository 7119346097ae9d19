/- Contracts of package timer, its first part: each field within its bounds, whether a timer is one, whether it runs. -/
import Derived.Test.YtcppphnnaojbhaaRows
import Derived.Test.YtcppphnnaojbhaaPlain
import Derived.Test.YtcppphnnaojbhaaKit
import Derived.Test.YtcppphnnaojbhaaKept
import Derived.Laws.StructEq
import Derived.Laws.Rows
import Derived.Laws.Tables
import Derived.Laws.ResultCell
import Derived.Laws.CopyOwn
import Derived.WalkMore
import Derived.WalkKit
import Derived.Below
import Derived.OneCell
import Derived.Handy
namespace Go.Proofs.Ytcppphnnaojbhaa
open Go.RowKit
set_option linter.unusedVariables false

/-- Two timers are alike, field by field. -/
def sameT (r c : Int) (o : Bool) (p : Int) (r' c' : Int) (o' : Bool) (p' : Int) : Bool := (r == r') && ((c == c') && ((o == o') && (p == p')))
theorem eqT (r c : Int) (o : Bool) (p : Int) (r' c' : Int) (o' : Bool) (p' : Int) (w : World) :
    (binOp .eql 23 (.agg #[.int .i64 r, .int .i64 c, .bool o, .int .i64 p]) (.agg #[.int .i64 r', .int .i64 c', .bool o', .int .i64 p'])).run Try.prog w = .ok (.bool (sameT r c o p r' c' o' p')) w := by
  rw [run_eql_struct, run_equalIn_struct w 9999 23 _ _ (by kernel_rfl) (by kernel_rfl)]
  unfold sameT
  simp [Program.fieldsOf, Try.underlying23, Op.eqFields, part, isAgg, run_underlying Try.underlying3, run_underlying Try.underlying4, run_equalIn_int _ _ _ _ _ _ _ Try.underlying3, run_equalIn_bool' _ _ _ _ _ Try.underlying4]
  by_cases h1 : r = r' <;> by_cases h2 : c = c' <;> by_cases h3 : o = o' <;> by_cases h4 : p = p' <;> simp [h1, h2, h3, h4]

def wiOf (n m : Int) : Int := if n < 0 then 0 else if m < n then m else n
theorem within_any (n m : Int) (hm : 0 ≤ m) (w : World) : Calls Try.prog 25 #[.int .i64 n, .int .i64 m] w fun e w' => e = .returned (.int .i64 (wiOf n m)) ∧ w' = w := by
  unfold wiOf
  by_cases h1 : n < 0
  · rw [if_pos h1]
    go_enter Try.func25, Try.ntmps25
    go_wp2
    all_goals (go_ret; exact ⟨ret_int (by omega), rfl⟩)
  · rw [if_neg h1]
    by_cases h2 : m < n
    · rw [if_pos h2]
      go_enter Try.func25, Try.ntmps25
      go_wp2
      all_goals (go_ret; exact ⟨ret_int (by omega), rfl⟩)
    · rw [if_neg h2]
      go_enter Try.func25, Try.ntmps25
      go_wp2
      all_goals (go_ret; exact ⟨ret_int (by omega), rfl⟩)
/-- The greatest Pre. -/
def preOf (o : Bool) : Int := if o then 3071 else 0
theorem bounded_any (r c : Int) (o : Bool) (p : Int) (w : World) : Calls Try.prog 22 #[.agg #[.int .i64 r, .int .i64 c, .bool o, .int .i64 p]] w fun e w' =>
    e = .returned (.agg #[.int .i64 (wiOf r 127), .int .i64 (wiOf c 127), .bool o, .int .i64 (wiOf p (preOf o))]) ∧ Below w.heap.size w w' := by
  cases o
  all_goals
    go_enter Try.func22, Try.ntmps22
    go_wp2_with (first | (go_at_call 25; refine (within_any _ _ (by decide) _).mono ?_; rintro e w' ⟨rfl, rfl⟩))
    go_returns
    exact ⟨rfl, ((Below.refl _ w).alloc (Nat.le_refl _) _).alloc (by simp) _⟩

def okT (r c : Int) (o : Bool) (p : Int) : Bool := decide (0 ≤ r ∧ r ≤ 127 ∧ 0 ≤ c ∧ c ≤ 127 ∧ 0 ≤ p ∧ p ≤ preOf o)
theorem okT_same (r c : Int) (o : Bool) (p : Int) : sameT r c o p (wiOf r 127) (wiOf c 127) o (wiOf p (preOf o)) = okT r c o p := by
  unfold sameT okT
  have h : 0 ≤ preOf o := by cases o <;> decide
  generalize preOf o = m at *
  rw [Bool.eq_iff_iff]
  simp only [Bool.and_eq_true, beq_iff_eq, decide_eq_true_eq]
  have w1 : ∀ n k : Int, 0 ≤ k → (n = wiOf n k ↔ 0 ≤ n ∧ n ≤ k) := by
    intro n k hk
    unfold wiOf
    split
    · omega
    · split <;> omega
  rw [w1 r 127 (by decide), w1 c 127 (by decide), w1 p m h]
  simp only [true_and, and_assoc]
theorem valid_any (r c : Int) (o : Bool) (p : Int) (w : World) : Calls Try.prog 14 #[.agg #[.int .i64 r, .int .i64 c, .bool o, .int .i64 p]] w fun e w' => e = .returned (.bool (okT r c o p)) ∧ Below w.heap.size w w' := by
  go_enter Try.func14, Try.ntmps14
  go_wp2
  obtain ⟨wa, hwa⟩ : ∃ wa, wa = w.alloc (.cells #[.int .i64 r, .int .i64 c, .bool o, .int .i64 p] 23) := ⟨_, rfl⟩
  rw [← hwa]
  have hl : w.heap.size < wa.heap.size := by rw [hwa]; simp
  have ba : Below w.heap.size w wa := by rw [hwa]; exact (Below.refl _ w).alloc (Nat.le_refl _) _
  have c0 := kept_cell (show wa.cell? ⟨w.heap.size, 0, none⟩ = some (.int .i64 r) by rw [hwa]; simp) hl
  have c1 := kept_cell (show wa.cell? ⟨w.heap.size, 1, none⟩ = some (.int .i64 c) by rw [hwa]; simp) hl
  have c2 := kept_cell (show wa.cell? ⟨w.heap.size, 2, none⟩ = some (.bool o) by rw [hwa]; simp) hl
  have c3 := kept_cell (show wa.cell? ⟨w.heap.size, 3, none⟩ = some (.int .i64 p) by rw [hwa]; simp) hl
  clear hwa
  have hs := hide (okT_same r c o p)
  have hb := hide (bounded_any r c o p)
  generalize wiOf r 127 = r' at *
  generalize wiOf c 127 = c' at *
  generalize wiOf p (preOf o) = p' at *
  have hq := fun w => eqT r c o p r' c' o p' w
  haveI := kept_some wa
  refine wp_region_kept (by kernel_rfl) (by kernel_rfl) ?_
  repeat (go_big_quiet_step ((go_at_call 22; exact kept_call (hb.out _))))
  refine wpQuiet_nil ?_
  rintro _ ⟨wk, rfl⟩
  go_wp2
  go_ret
  exact ⟨ret_bool hs.out, ba.trans (wk.below.mono (Nat.le_of_lt hl))⟩
theorem runs_any (r c : Int) (o : Bool) (p : Int) (w : World) : Calls Try.prog 17 #[.agg #[.int .i64 r, .int .i64 c, .bool o, .int .i64 p]] w fun e w' => e = .returned (.bool (o && okT r c o p)) ∧ Below w.heap.size w w' := by
  cases o
  · go_enter Try.func17, Try.ntmps17
    go_wp2
    go_ret
    exact ⟨rfl, (Below.refl _ w).alloc (Nat.le_refl _) _⟩
  · go_enter Try.func17, Try.ntmps17
    go_wp2_with fail
    refine (valid_any _ _ _ _ _).mono ?_
    rintro e w1 ⟨rfl, b1⟩
    have b2 := hide (((Below.refl _ w).alloc (Nat.le_refl _) _).trans (b1.mono (by simp)))
    clear b1
    go_wp2
    go_ret
    exact ⟨rfl, b2.out⟩
theorem read_any (r c : Int) (o : Bool) (p : Int) (w : World) : Calls Try.prog 16 #[.agg #[.int .i64 r, .int .i64 c, .bool o, .int .i64 p]] w fun e w' => e = .returned (.int .i64 c) ∧ Below w.heap.size w w' := by
  go_enter Try.func16, Try.ntmps16
  go_wp2
  go_ret
  exact ⟨rfl, (Below.refl _ w).alloc (Nat.le_refl _) _⟩
end Go.Proofs.Ytcppphnnaojbhaa
