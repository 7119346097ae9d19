/- Texts without a word of the program, one behind the other. -/
import Derived.Test.YtnoggfnidaifkaaGreatDoorRows
import Derived.Laws.StructEq
import Derived.Laws.Rows
import Derived.Laws.Tables
import Derived.Laws.ResultCell
import Derived.Laws.CopyOwn
import Derived.WalkMore
import Derived.WalkKit
import Derived.Below
import Derived.OneCell
import Derived.Handy
import Derived.Test.YtnoggfnidaifkaaGreatDoorConsoleNobodyJ03
namespace Go.Proofs.YtnoggfnidaifkaaGreatDoor.T10
set_option maxRecDepth 20000
open Go.RowKit
set_option linter.unusedVariables false
def sameT (r c : Int) (o : Bool) (p : Int) (r' c' : Int) (o' : Bool) (p' : Int) : Bool := (r == r') && ((c == c') && ((o == o') && (p == p')))
theorem eqT (r c : Int) (o : Bool) (p : Int) (r' c' : Int) (o' : Bool) (p' : Int) (w : World) :
    (binOp .eql 61 (.agg #[.int .i64 r, .int .i64 c, .bool o, .int .i64 p]) (.agg #[.int .i64 r', .int .i64 c', .bool o', .int .i64 p'])).run Tryz.prog w = .ok (.bool (sameT r c o p r' c' o' p')) w := by
  rw [run_eql_struct, run_equalIn_struct w 9999 61 _ _ (by kernel_rfl) (by kernel_rfl)]
  unfold sameT
  simp [Program.fieldsOf, Tryz.underlying61, Op.eqFields, part, isAgg, run_underlying Tryz.underlying3, run_underlying Tryz.underlying4, run_equalIn_int _ _ _ _ _ _ _ Tryz.underlying3, run_equalIn_bool' _ _ _ _ _ Tryz.underlying4]
  by_cases h1 : r = r' <;> by_cases h2 : c = c' <;> by_cases h3 : o = o' <;> by_cases h4 : p = p' <;> simp [h1, h2, h3, h4]
def wiOf (n m : Int) : Int := if n < 0 then 0 else if m < n then m else n
theorem within_any (n m : Int) (hm : 0 ≤ m) (w : World) : Calls Tryz.prog 122 #[.int .i64 n, .int .i64 m] w fun e w' => e = .returned (.int .i64 (wiOf n m)) ∧ w' = w := by
  unfold wiOf
  by_cases h1 : n < 0
  · rw [if_pos h1]
    go_enter Tryz.func122, Tryz.ntmps122
    go_wp2
    all_goals (go_ret; exact ⟨ret_int (by omega), rfl⟩)
  · rw [if_neg h1]
    by_cases h2 : m < n
    · rw [if_pos h2]
      go_enter Tryz.func122, Tryz.ntmps122
      go_wp2
      all_goals (go_ret; exact ⟨ret_int (by omega), rfl⟩)
    · rw [if_neg h2]
      go_enter Tryz.func122, Tryz.ntmps122
      go_wp2
      all_goals (go_ret; exact ⟨ret_int (by omega), rfl⟩)
def preOf (o : Bool) : Int := if o then 3071 else 0
theorem bounded_any (r c : Int) (o : Bool) (p : Int) (w : World) : Calls Tryz.prog 79 #[.agg #[.int .i64 r, .int .i64 c, .bool o, .int .i64 p]] w fun e w' =>
    e = .returned (.agg #[.int .i64 (wiOf r 127), .int .i64 (wiOf c 127), .bool o, .int .i64 (wiOf p (preOf o))]) ∧ Below w.heap.size w w' := by
  cases o
  all_goals
    go_enter Tryz.func79, Tryz.ntmps79
    go_wp2_with (first | (go_at_call 122; refine (within_any _ _ (by decide) _).mono ?_; rintro e w' ⟨rfl, rfl⟩))
    go_returns
    exact ⟨rfl, ((Below.refl _ w).alloc (Nat.le_refl _) _).alloc (by simp) _⟩
def okT (r c : Int) (o : Bool) (p : Int) : Bool := decide (0 ≤ r ∧ r ≤ 127 ∧ 0 ≤ c ∧ c ≤ 127 ∧ 0 ≤ p ∧ p ≤ preOf o)
theorem okT_same (r c : Int) (o : Bool) (p : Int) : sameT r c o p (wiOf r 127) (wiOf c 127) o (wiOf p (preOf o)) = okT r c o p := by
  unfold sameT okT
  have h : 0 ≤ preOf o := by cases o <;> decide
  generalize preOf o = m at *
  rw [Bool.eq_iff_iff]
  simp only [Bool.and_eq_true, beq_iff_eq, decide_eq_true_eq]
  have w1 : ∀ n k : Int, 0 ≤ k → (n = wiOf n k ↔ 0 ≤ n ∧ n ≤ k) := by
    intro n k hk
    unfold wiOf
    split
    · omega
    · split <;> omega
  rw [w1 r 127 (by decide), w1 c 127 (by decide), w1 p m h]
  simp only [true_and, and_assoc]
theorem valid_any (r c : Int) (o : Bool) (p : Int) (w : World) : Calls Tryz.prog 48 #[.agg #[.int .i64 r, .int .i64 c, .bool o, .int .i64 p]] w fun e w' => e = .returned (.bool (okT r c o p)) ∧ Below w.heap.size w w' := by
  go_enter Tryz.func48, Tryz.ntmps48
  go_wp2
  obtain ⟨wa, hwa⟩ : ∃ wa, wa = w.alloc (.cells #[.int .i64 r, .int .i64 c, .bool o, .int .i64 p] 61) := ⟨_, rfl⟩
  rw [← hwa]
  have hl : w.heap.size < wa.heap.size := by rw [hwa]; simp
  have ba : Below w.heap.size w wa := by rw [hwa]; exact (Below.refl _ w).alloc (Nat.le_refl _) _
  have c0 := kept_cell (show wa.cell? ⟨w.heap.size, 0, none⟩ = some (.int .i64 r) by rw [hwa]; simp) hl
  have c1 := kept_cell (show wa.cell? ⟨w.heap.size, 1, none⟩ = some (.int .i64 c) by rw [hwa]; simp) hl
  have c2 := kept_cell (show wa.cell? ⟨w.heap.size, 2, none⟩ = some (.bool o) by rw [hwa]; simp) hl
  have c3 := kept_cell (show wa.cell? ⟨w.heap.size, 3, none⟩ = some (.int .i64 p) by rw [hwa]; simp) hl
  clear hwa
  have hs := hide (okT_same r c o p)
  have hb := hide (bounded_any r c o p)
  generalize wiOf r 127 = r' at *
  generalize wiOf c 127 = c' at *
  generalize wiOf p (preOf o) = p' at *
  have hq := fun w => eqT r c o p r' c' o p' w
  haveI := kept_some wa
  refine wp_region_kept (by kernel_rfl) (by kernel_rfl) ?_
  repeat (go_big_quiet_step ((go_at_call 79; exact kept_call (hb.out _))))
  refine wpQuiet_nil ?_
  rintro _ ⟨wk, rfl⟩
  go_wp2
  go_ret
  exact ⟨ret_bool hs.out, ba.trans (wk.below.mono (Nat.le_of_lt hl))⟩
theorem runs_any (r c : Int) (o : Bool) (p : Int) (w : World) : Calls Tryz.prog 140 #[.agg #[.int .i64 r, .int .i64 c, .bool o, .int .i64 p]] w fun e w' => e = .returned (.bool (o && okT r c o p)) ∧ Below w.heap.size w w' := by
  cases o
  · go_enter Tryz.func140, Tryz.ntmps140
    go_wp2
    go_ret
    exact ⟨rfl, (Below.refl _ w).alloc (Nat.le_refl _) _⟩
  · go_enter Tryz.func140, Tryz.ntmps140
    go_wp2_with fail
    refine (valid_any _ _ _ _ _).mono ?_
    rintro e w1 ⟨rfl, b1⟩
    have b2 := hide (((Below.refl _ w).alloc (Nat.le_refl _) _).trans (b1.mono (by simp)))
    clear b1
    go_wp2
    go_ret
    exact ⟨rfl, b2.out⟩
theorem read_any (r c : Int) (o : Bool) (p : Int) (w : World) : Calls Tryz.prog 150 #[.agg #[.int .i64 r, .int .i64 c, .bool o, .int .i64 p]] w fun e w' => e = .returned (.int .i64 c) ∧ Below w.heap.size w w' := by
  go_enter Tryz.func150, Tryz.ntmps150
  go_wp2
  go_ret
  exact ⟨rfl, (Below.refl _ w).alloc (Nat.le_refl _) _⟩
end Go.Proofs.YtnoggfnidaifkaaGreatDoor.T10
namespace Go.Proofs.YtnoggfnidaifkaaGreatDoor.T10
set_option maxRecDepth 20000
set_option linter.unusedVariables false
def rndOf (r c s : Int) : Int := max 0 (s - c + r) / (r + 1)
def cntOf (r c s : Int) : Int := c + (rndOf r c s * (r + 1) - s)
def Is (r c s n x : Int) : Prop := 0 ≤ n ∧ 0 ≤ x ∧ x = c + (n * (r + 1) - s) ∧ (n = 0 ∨ x ≤ r)
theorem rnd_low {r c s : Int} (r0 : 0 ≤ r) (h : s ≤ c) : rndOf r c s = 0 := by
  unfold rndOf
  exact Int.ediv_eq_zero_of_lt (by omega) (by omega)
theorem rnd_is (r c s : Int) (r0 : 0 ≤ r) (c0 : 0 ≤ c) : Is r c s (rndOf r c s) (cntOf r c s) := by
  unfold Is
  by_cases h : s ≤ c
  · have e := rnd_low r0 h
    unfold cntOf
    rw [e, Int.zero_mul]
    exact ⟨by omega, by omega, rfl, .inl rfl⟩
  · have e : rndOf r c s = (s - c + r) / (r + 1) := by unfold rndOf; rw [show max 0 (s - c + r) = s - c + r by omega]
    have h1 := Int.emod_nonneg (s - c + r) (b := r + 1) (by omega)
    have h2 := Int.emod_lt_of_pos (s - c + r) (b := r + 1) (by omega)
    have h3 := Int.mul_ediv_add_emod (s - c + r) (r + 1)
    have h4 : 0 ≤ (s - c + r) / (r + 1) := Int.ediv_nonneg (by omega) (by omega)
    unfold cntOf
    rw [e]
    rw [Int.mul_comm] at h3
    exact ⟨h4, by omega, rfl, .inr (by omega)⟩
theorem rnd_mul (r c s : Int) (r0 : 0 ≤ r) (c0 : 0 ≤ c) (s0 : 0 ≤ s) (r1 : r ≤ 127) : 0 ≤ rndOf r c s * (r + 1) ∧ rndOf r c s * (r + 1) ≤ s + 127 := by
  have h := rnd_is r c s r0 c0
  obtain ⟨h1, h2, h3, h4⟩ := h
  refine ⟨Int.mul_nonneg h1 (by omega), ?_⟩
  rcases h4 with h4 | h4
  · rw [h4, Int.zero_mul]; omega
  · omega
theorem is_le {r c s n x : Int} (r1 : r ≤ 127) (c1 : c ≤ 127) (s0 : 0 ≤ s) (h : Is r c s n x) : x ≤ 127 := by
  obtain ⟨h1, h2, h3, h4⟩ := h
  rcases h4 with h4 | h4
  · subst h4
    rw [Int.zero_mul] at h3
    omega
  · omega
end Go.Proofs.YtnoggfnidaifkaaGreatDoor.T10
namespace Go.Proofs.YtnoggfnidaifkaaGreatDoor.T10
set_option maxRecDepth 20000
open Go.RowKit
set_option linter.unusedVariables false
theorem okT_true {r c : Int} {o : Bool} {p : Int} (h : okT r c o p = true) : 0 ≤ r ∧ r ≤ 127 ∧ 0 ≤ c ∧ c ≤ 127 ∧ 0 ≤ p ∧ p ≤ preOf o := of_decide_eq_true h
theorem rounds_any (s c r m q : Int) (b d : Nat) (w : World) (h0 : w.cell? ⟨b, 0, none⟩ = some (.int .i64 r)) (h1 : w.cell? ⟨b, 1, none⟩ = some (.int .i64 c)) (h2 : w.cell? ⟨d, 0, none⟩ = some (.int .i64 m))
    (hm : 1 ≤ m) (r0 : 0 ≤ r) (r1 : r ≤ 127) (c0 : 0 ≤ c) (c1 : c ≤ 127) (s0 : 0 ≤ s) (s1 : s ≤ 1000000000000) (hq : q = max 0 (s - c + r) / m) :
    Calls Tryz.prog 141 #[.int .i64 s, .pointer (some ⟨b, 0, none⟩), .pointer (some ⟨d, 0, none⟩)] w fun e w' => e = .returned (.int .i64 q) ∧ w' = w := by
  obtain ⟨y, hy⟩ : ∃ y, s - c + r = y := ⟨_, rfl⟩
  rw [hy] at hq
  have y1 : y ≤ 2000000000000 := by omega
  have y2 : -200 ≤ y := by omega
  by_cases h : y ≤ 0
  · have e1 : q = 0 := by rw [hq, show max 0 y = 0 by omega]; simp
    have e2 : Int.tdiv 0 m = 0 := by simp
    subst e1
    clear hq
    go_enter Tryz.func141, Tryz.ntmps141
    go_wp2
    go_ret
    exact ⟨rfl, rfl⟩
  · have e1 : q = y / m := by rw [hq, show max 0 y = y by omega]
    have e2 : Int.tdiv y m = q := by rw [e1, Int.tdiv_eq_ediv_of_nonneg (by omega)]
    have q0 : 0 ≤ q := by rw [e1]; exact Int.ediv_nonneg (by omega) (by omega)
    have q1 : q ≤ y := by rw [e1]; exact Int.ediv_le_self _ (by omega)
    clear hq e1
    go_enter Tryz.func141, Tryz.ntmps141
    go_wp2
    go_ret
    exact ⟨rfl, rfl⟩
theorem adv_still (r c : Int) (o : Bool) (p t : Int) (h : (o && okT r c o p) = false ∨ t < 1 ∨ 1099511627776 < t) (w : World) : Calls Tryz.prog 93 #[.agg #[.int .i64 r, .int .i64 c, .bool o, .int .i64 p], .int .i64 t] w fun e w' =>
    e = .returned (.tuple #[.agg #[.int .i64 r, .int .i64 c, .bool o, .int .i64 p], .int .i64 0]) ∧ Below w.heap.size w w' := by
  have hr := hide (runs_any r c o p)
  cases hv : (o && okT r c o p)
  · rw [hv] at hr
    clear hv h
    go_enter Tryz.func93, Tryz.ntmps93
    go_wp2_with fail
    refine (hr.out _).mono ?_
    rintro e w1 ⟨rfl, b1⟩
    have s1 := b1.size
    have e1 := b1.block w.heap.size (by simp; omega)
    have e2 := b1.block (w.heap.size + 1) (by simp)
    rw [heap_alloc2_old] at e1
    rw [heap_alloc2_new] at e2
    have b2 := hide ((((Below.refl _ w).alloc (Nat.le_refl _) _).alloc (by simp) _).trans (b1.mono (by simp; omega)))
    have R1 := hide e1
    have R2 := hide e2
    clear b1 s1
    clear e1 e2
    go_wp2_with (first
      | (refine wpList_load_row rfl 61 (.tmp 2) rfl w.heap.size rfl 61 _ (0, 0) _ R1.out Tryz.underlying61 rfl (by kernel_rfl) ?_)
      | (refine wpList_store_row rfl 61 (.tmp 4) (.tmp 21) rfl (w.heap.size + 1) _ rfl rfl 61 _ R2.out (by kernel_rfl) rfl (by kernel_rfl) ?_))
    (try simp only [Exit.inBlock, Exit.then])
    refine bodyPost_ret (results_agg_tmp rfl _ _ (w.heap.size + 1) 61 _ (0, 0) _ rfl (setRow_heap _ _ _ _ _ _ R2.out) Tryz.underlying61 rfl (by kernel_rfl)) rfl ?_
    exact ⟨rfl, below_setRow b2.out (Nat.le_succ _) _⟩
  · rw [hv] at hr h
    clear hv
    by_cases h1 : t < 1
    · clear h
      go_enter Tryz.func93, Tryz.ntmps93
      go_wp2_with fail
      refine (hr.out _).mono ?_
      rintro e w1 ⟨rfl, b1⟩
      have s1 := b1.size
      have e1 := b1.block w.heap.size (by simp; omega)
      have e2 := b1.block (w.heap.size + 1) (by simp)
      rw [heap_alloc2_old] at e1
      rw [heap_alloc2_new] at e2
      have b2 := hide ((((Below.refl _ w).alloc (Nat.le_refl _) _).alloc (by simp) _).trans (b1.mono (by simp; omega)))
      have R1 := hide e1
      have R2 := hide e2
      clear b1 s1
      clear e1 e2
      go_wp2_with (first
        | (refine wpList_load_row rfl 61 (.tmp 2) rfl w.heap.size rfl 61 _ (0, 0) _ R1.out Tryz.underlying61 rfl (by kernel_rfl) ?_)
        | (refine wpList_store_row rfl 61 (.tmp 4) (.tmp 21) rfl (w.heap.size + 1) _ rfl rfl 61 _ R2.out (by kernel_rfl) rfl (by kernel_rfl) ?_))
      (try simp only [Exit.inBlock, Exit.then])
      refine bodyPost_ret (results_agg_tmp rfl _ _ (w.heap.size + 1) 61 _ (0, 0) _ rfl (setRow_heap _ _ _ _ _ _ R2.out) Tryz.underlying61 rfl (by kernel_rfl)) rfl ?_
      exact ⟨rfl, below_setRow b2.out (Nat.le_succ _) _⟩
    · have h2 : 1099511627776 < t := by rcases h with h | h | h
                                        · cases h
                                        · exact absurd h h1
                                        · exact h
      clear h
      go_enter Tryz.func93, Tryz.ntmps93
      go_wp2_with fail
      refine (hr.out _).mono ?_
      rintro e w1 ⟨rfl, b1⟩
      have s1 := b1.size
      have e1 := b1.block w.heap.size (by simp; omega)
      have e2 := b1.block (w.heap.size + 1) (by simp)
      rw [heap_alloc2_old] at e1
      rw [heap_alloc2_new] at e2
      have b2 := hide ((((Below.refl _ w).alloc (Nat.le_refl _) _).alloc (by simp) _).trans (b1.mono (by simp; omega)))
      have R1 := hide e1
      have R2 := hide e2
      clear b1 s1
      clear e1 e2
      go_wp2_with (first
        | (refine wpList_load_row rfl 61 (.tmp 2) rfl w.heap.size rfl 61 _ (0, 0) _ R1.out Tryz.underlying61 rfl (by kernel_rfl) ?_)
        | (refine wpList_store_row rfl 61 (.tmp 4) (.tmp 21) rfl (w.heap.size + 1) _ rfl rfl 61 _ R2.out (by kernel_rfl) rfl (by kernel_rfl) ?_))
      (try simp only [Exit.inBlock, Exit.then])
      refine bodyPost_ret (results_agg_tmp rfl _ _ (w.heap.size + 1) 61 _ (0, 0) _ rfl (setRow_heap _ _ _ _ _ _ R2.out) Tryz.underlying61 rfl (by kernel_rfl)) rfl ?_
      exact ⟨rfl, below_setRow b2.out (Nat.le_succ _) _⟩
theorem adv_on (r c p t : Int) (h : okT r c true p = true) (t0 : 1 ≤ t) (t1 : t ≤ 1099511627776) (w : World) : Calls Tryz.prog 93 #[.agg #[.int .i64 r, .int .i64 c, .bool true, .int .i64 p], .int .i64 t] w fun e w' =>
    e = .returned (.tuple #[.agg #[.int .i64 r, .int .i64 (cntOf r c ((t + p) / 3072)), .bool true, .int .i64 ((t + p) % 3072)], .int .i64 (rndOf r c ((t + p) / 3072))]) ∧ Below w.heap.size w w' := by
  have hr := hide (runs_any r c true p)
  rw [h] at hr
  obtain ⟨r0, r1, c0, c1, p0, p1⟩ := okT_true h
  have p1 : p ≤ 3071 := p1
  clear h
  obtain ⟨T, hT⟩ : ∃ T, t + p = T := ⟨_, rfl⟩
  obtain ⟨s, hs⟩ : ∃ s, T / 3072 = s := ⟨_, rfl⟩
  obtain ⟨m, hm⟩ : ∃ m, r + 1 = m := ⟨_, rfl⟩
  rw [hT, hs]
  have s0 : 0 ≤ s := by omega
  have s1 : s ≤ 357913943 := by omega
  have hM := rnd_mul r c s r0 c0 s0 r1
  have hQ : 0 ≤ rndOf r c s := (rnd_is r c s r0 c0).1
  unfold cntOf
  obtain ⟨q, hq⟩ : ∃ q, q = rndOf r c s := ⟨_, rfl⟩
  rw [← hq] at hM hQ ⊢
  unfold rndOf at hq
  rw [hm] at hM hq ⊢
  have CR := hide (fun b d w h0 h1 h2 => rounds_any s c r m q b d w h0 h1 h2 (by omega) r0 r1 c0 c1 s0 (by omega) hq)
  clear hq
  obtain ⟨M, em⟩ : ∃ M, q * m = M := ⟨_, rfl⟩
  rw [em] at hM ⊢
  obtain ⟨M0, M1⟩ := hM
  obtain ⟨x, hx⟩ : ∃ x, c + (M - s) = x := ⟨_, rfl⟩
  obtain ⟨u, hu⟩ : ∃ u, T % 3072 = u := ⟨_, rfl⟩
  rw [hx, hu]
  go_enter Tryz.func93, Tryz.ntmps93
  go_wp2_with fail
  refine (hr.out _).mono ?_
  rintro e w1 ⟨rfl, b1⟩
  have s1 := b1.size
  have e1 := b1.block w.heap.size (by simp; omega)
  have e2 := b1.block (w.heap.size + 1) (by simp)
  rw [heap_alloc2_old] at e1
  rw [heap_alloc2_new] at e2
  have b2 := hide ((((Below.refl _ w).alloc (Nat.le_refl _) _).alloc (by simp) _).trans (b1.mono (by simp; omega)))
  have R1 := hide e1
  have R2 := hide e2
  clear b1 s1
  have d0 := (cell_of_row w1 w.heap.size 0 _ _ _ e1).trans rfl
  have d1 := (cell_of_row w1 w.heap.size 1 _ _ _ e1).trans rfl
  have d2 := (cell_of_row w1 w.heap.size 2 _ _ _ e1).trans rfl
  have d3 := (cell_of_row w1 w.heap.size 3 _ _ _ e1).trans rfl
  have lt1 := lt_of_block e2
  have lt0 := lt_of_block e1
  have ne1 : ¬ w.heap.size = w1.heap.size := by omega
  have f1 := frozen_of_row w1 w.heap.size 1 _ _ e1
  have f3 := frozen_of_row w1 w.heap.size 3 _ _ e1
  clear e1 e2
  go_wp2_with fail
  refine (CR.out _ _ _ ?_ ?_ ?_).mono ?_
  · rw [World.cell?_alloc_lt _ _ _ lt0]; exact d0
  · rw [World.cell?_alloc_lt _ _ _ lt0]; exact d1
  · simp
  rintro e w2 ⟨rfl, rfl⟩
  have q2 : (((w1.setCell ⟨w.heap.size, 1, none⟩ (.int .i64 x)).setCell ⟨w.heap.size, 3, none⟩ (.int .i64 u)).alloc (.cells #[.int .i64 m] 3)).heap[w.heap.size + 1]? = some (.cells #[.int .i64 0, .int .i64 0, .bool false, .int .i64 0] 61 (0, 0)) := by
    rw [heap_alloc_old _ _ (by simpa using lt1), heap_setCell_other _ _ _ _ (by simp), heap_setCell_other _ _ _ _ (by simp)]
    exact R2.out
  have b3 : Below w.heap.size w (((w1.setCell ⟨w.heap.size, 1, none⟩ (.int .i64 x)).setCell ⟨w.heap.size, 3, none⟩ (.int .i64 u)).alloc (.cells #[.int .i64 m] 3)) :=
    ((b2.out.setCell (p := ⟨w.heap.size, 1, none⟩) (Nat.le_refl _) _).setCell (p := ⟨w.heap.size, 3, none⟩) (Nat.le_refl _) _).alloc (by simp; omega) _
  have Q2 := hide q2
  have B3 := hide b3
  clear q2 b3
  go_wp2_with (first
    | (refine wpList_store_row rfl 61 (.tmp 4) (.tmp 47) rfl (w.heap.size + 1) _ rfl rfl 61 _ Q2.out (by kernel_rfl) rfl (by kernel_rfl) ?_))
  (try simp only [Exit.inBlock, Exit.then])
  refine bodyPost_ret (results_agg_tmp rfl _ _ (w.heap.size + 1) 61 _ (0, 0) _ rfl (setRow_heap _ _ _ _ _ _ Q2.out) Tryz.underlying61 rfl (by kernel_rfl)) rfl ?_
  exact ⟨rfl, below_setRow B3.out (Nat.le_succ _) _⟩
end Go.Proofs.YtnoggfnidaifkaaGreatDoor.T10
namespace Go.Proofs.YtnoggfnidaifkaaGreatDoor.T10
set_option maxRecDepth 20000
open Go.RowKit
set_option linter.unusedVariables false
theorem and_127 (n : Int) : bits .and .i64 n 127 = n % 128 := and_mask 7 (by decide) n
theorem bit_0 (b : Int) : bitOf b 0 = b % 2 := by
  rw [bitOf_in b 0 (by decide) (by decide)]
  show b % 65536 / 1 % 2 = b % 2
  omega
theorem write_no (r c : Int) (o : Bool) (p a b : Int) (h0 : ¬ a = 0) (h1 : ¬ a = 1) (w : World) : Calls Tryz.prog 246 #[.agg #[.int .i64 r, .int .i64 c, .bool o, .int .i64 p], .int .i64 a, .int .i64 b] w fun e w' =>
    e = .returned (.agg #[.int .i64 r, .int .i64 c, .bool o, .int .i64 p]) ∧ Below w.heap.size w w' := by
  go_enter Tryz.func246, Tryz.ntmps246
  go_wp2
  go_returns
  exact ⟨rfl, ((Below.refl _ w).alloc (Nat.le_refl _) _).alloc (by simp) _⟩
end Go.Proofs.YtnoggfnidaifkaaGreatDoor.T10
namespace Go.Proofs.YtnoggfnidaifkaaGreatDoor.T10
set_option maxRecDepth 20000
open Go.RowKit
set_option linter.unusedVariables false
end Go.Proofs.YtnoggfnidaifkaaGreatDoor.T10
namespace Go.Proofs.YtnoggfnidaifkaaGreatDoor.T10
set_option maxRecDepth 20000
open Go.RowKit
set_option linter.unusedVariables false
end Go.Proofs.YtnoggfnidaifkaaGreatDoor.T10
namespace Go.Proofs.YtnoggfnidaifkaaGreatDoor.T10
set_option maxRecDepth 20000
open Go.RowKit
set_option linter.unusedVariables false
end Go.Proofs.YtnoggfnidaifkaaGreatDoor.T10
