/- Contracts of package timer, its third part: writes. -/
import Derived.Test.YtcppphnnaojbhaaAdv10
import Derived.Test.YtcppphnnaojbhaaBits
import Derived.Test.YtcppphnnaojbhaaLastOp
namespace Go.Proofs.Ytcppphnnaojbhaa
open Go.RowKit
set_option linter.unusedVariables false

theorem and_127 (n : Int) : bits .and .i64 n 127 = n % 128 := and_mask 7 (by decide) n
theorem low_7 (b : Int) : bits .and .i64 (b % 256) 127 = b % 128 := by rw [and_127]; omega
theorem bit_0 (b : Int) : bitOf b 0 = b % 2 := by
  rw [bitOf_in b 0 (by decide) (by decide)]
  show b % 65536 / 1 % 2 = b % 2
  omega

/-- A timer behind a write to its control. -/
def ctlC (r c : Int) (o on : Bool) : Int := if on && !o then r else c
def ctlP (p : Int) (o on : Bool) : Int := if on && o then p else 0
theorem control_any (r c : Int) (o : Bool) (p : Int) (on : Bool) (w : World) : Calls Try.prog 20 #[.agg #[.int .i64 r, .int .i64 c, .bool o, .int .i64 p], .bool on] w fun e w' =>
    e = .returned (.agg #[.int .i64 r, .int .i64 (ctlC r c o on), .bool on, .int .i64 (ctlP p o on)]) ∧ Below w.heap.size w w' := by
  cases on <;> cases o
  all_goals
    go_enter Try.func20, Try.ntmps20
    go_wp2
    go_returns
    exact ⟨rfl, ((Below.refl _ w).alloc (Nat.le_refl _) _).alloc (by simp) _⟩

theorem write_0 (r c : Int) (o : Bool) (p b : Int) (w : World) : Calls Try.prog 12 #[.agg #[.int .i64 r, .int .i64 c, .bool o, .int .i64 p], .int .i64 0, .int .i64 b] w fun e w' =>
    e = .returned (.agg #[.int .i64 (b % 128), .int .i64 c, .bool o, .int .i64 p]) ∧ Below w.heap.size w w' := by
  have e7 := low_7 b
  go_enter Try.func12, Try.ntmps12
  go_wp2_with (first | (go_at_call 19; refine (byte_any _ _).mono ?_; rintro e w' ⟨rfl, rfl⟩))
  go_returns
  exact ⟨rfl, ((Below.refl _ w).alloc (Nat.le_refl _) _).alloc (by simp) _⟩
theorem write_no (r c : Int) (o : Bool) (p a b : Int) (h0 : ¬ a = 0) (h1 : ¬ a = 1) (w : World) : Calls Try.prog 12 #[.agg #[.int .i64 r, .int .i64 c, .bool o, .int .i64 p], .int .i64 a, .int .i64 b] w fun e w' =>
    e = .returned (.agg #[.int .i64 r, .int .i64 c, .bool o, .int .i64 p]) ∧ Below w.heap.size w w' := by
  go_enter Try.func12, Try.ntmps12
  go_wp2
  go_returns
  exact ⟨rfl, ((Below.refl _ w).alloc (Nat.le_refl _) _).alloc (by simp) _⟩
theorem write_1 (r c : Int) (o : Bool) (p b : Int) (on : Bool) (hon : on = (b % 2 == 1)) (w : World) : Calls Try.prog 12 #[.agg #[.int .i64 r, .int .i64 c, .bool o, .int .i64 p], .int .i64 1, .int .i64 b] w fun e w' =>
    e = .returned (.agg #[.int .i64 r, .int .i64 (ctlC r c o on), .bool on, .int .i64 (ctlP p o on)]) ∧ Below w.heap.size w w' := by
  have CB := hide (bit_any b 0)
  rw [bit_0] at CB
  obtain ⟨q, hq⟩ : ∃ q, b % 2 = q := ⟨_, rfl⟩
  rw [hq] at CB hon
  have CC := hide (control_any r c o p on)
  replace hon := hon.symm
  clear hq
  generalize ctlC r c o on = c' at *
  generalize ctlP p o on = p' at *
  go_enter Try.func12, Try.ntmps12
  go_wp2_with fail
  obtain ⟨wr, hwr⟩ : ∃ wr, wr = (w.alloc (.cells #[.int .i64 r, .int .i64 c, .bool o, .int .i64 p] 23)).alloc (.cells #[.int .i64 0, .int .i64 0, .bool false, .int .i64 0] 23) := ⟨_, rfl⟩
  have e1 : wr.heap[w.heap.size]? = some (.cells #[.int .i64 r, .int .i64 c, .bool o, .int .i64 p] 23 (0, 0)) := by rw [hwr]; exact heap_alloc2_old _ _ _
  have R2 := hide (show wr.heap[w.heap.size + 1]? = some (.cells #[.int .i64 0, .int .i64 0, .bool false, .int .i64 0] 23 (0, 0)) by rw [hwr]; exact heap_alloc2_new _ _ _)
  have BW := hide (show Below w.heap.size w wr by rw [hwr]; exact ((Below.refl _ w).alloc (Nat.le_refl _) _).alloc (by simp) _)
  have LT := hide (lt_of_block e1)
  have k0 := kept_cell ((cell_of_row wr w.heap.size 0 _ _ _ e1).trans rfl) LT.out
  have k1 := kept_cell ((cell_of_row wr w.heap.size 1 _ _ _ e1).trans rfl) LT.out
  have k2 := kept_cell ((cell_of_row wr w.heap.size 2 _ _ _ e1).trans rfl) LT.out
  have k3 := kept_cell ((cell_of_row wr w.heap.size 3 _ _ _ e1).trans rfl) LT.out
  rw [← hwr]
  clear hwr e1
  haveI := kept_some wr
  refine wp_region_kept_last _ _ (show _ = [_, _, _, _, _] ++ [_] from rfl) (by kernel_rfl) (by kernel_rfl) (by kernel_rfl) ?_
  repeat (go_big_quiet_step ((first
    | (go_at_call 21; exact kept_same (CB.out _))
    | (go_at_call 20; exact kept_call (CC.out _)))))
  refine wpQuiet_nil ?_
  rintro _ ⟨wk, rfl⟩
  have R3 := hide ((wk.block (w.heap.size + 1) (lt_of_block R2.out)).trans R2.out)
  have B3 := hide (bnext BW.out wk.below)
  clear CB CC k0 k1 k2 k3 R2 BW LT
  go_wp2_with (first
    | (refine wpList_store_row rfl 23 (.tmp 6) (.tmp 20) rfl (w.heap.size + 1) _ rfl rfl 23 _ R3.out (by kernel_rfl) rfl (by kernel_rfl) ?_))
  (try simp only [Exit.inBlock, Exit.then])
  refine bodyPost_ret (results_cell_row rfl _ _ (w.heap.size + 1) 23 _ (0, 0) _ rfl (setRow_heap _ _ _ _ _ _ R3.out) Try.underlying23 rfl (by kernel_rfl)) rfl ?_
  exact ⟨rfl, below_setRow B3.out (Nat.le_succ _) _⟩
end Go.Proofs.Ytcppphnnaojbhaa
