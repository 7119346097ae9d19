/- Contracts of package timer, its second part: ticks, what is next, writes. -/
import Derived.Test.YtcppphnnaojbhaaValid10
import Derived.Test.YtcppphnnaojbhaaRets
import Derived.Test.YtcppphnnaojbhaaPlainTimer
namespace Go.Proofs.Ytcppphnnaojbhaa
open Go.RowKit
set_option linter.unusedVariables false

def nextOf (r c : Int) (o : Bool) (p : Int) : Int := if (o && okT r c o p) then (c + 1) * 3072 - p else -1
theorem okT_true {r c : Int} {o : Bool} {p : Int} (h : okT r c o p = true) : 0 ≤ r ∧ r ≤ 127 ∧ 0 ≤ c ∧ c ≤ 127 ∧ 0 ≤ p ∧ p ≤ preOf o := of_decide_eq_true h
theorem next_any (r c : Int) (o : Bool) (p : Int) (w : World) : Calls Try.prog 10 #[.agg #[.int .i64 r, .int .i64 c, .bool o, .int .i64 p]] w fun e w' => e = .returned (.int .i64 (nextOf r c o p)) ∧ Below w.heap.size w w' := by
  unfold nextOf
  have hr := hide (runs_any r c o p)
  cases hv : (o && okT r c o p)
  · rw [hv] at hr
    rw [if_neg (by decide)]
    clear hv
    go_enter Try.func10, Try.ntmps10
    go_wp2_with fail
    refine (hr.out _).mono ?_
    rintro e w1 ⟨rfl, b1⟩
    have b2 := hide (((Below.refl _ w).alloc (Nat.le_refl _) _).trans (b1.mono (by simp)))
    clear b1
    go_wp2
    go_ret
    exact ⟨rfl, b2.out⟩
  · rw [hv] at hr
    rw [if_pos rfl]
    obtain ⟨rfl, ho⟩ : o = true ∧ okT r c o p = true := by simpa using hv
    obtain ⟨r0, r1, c0, c1, p0, p1⟩ := okT_true ho
    have p1 : p ≤ 3071 := p1
    clear hv ho
    go_enter Try.func10, Try.ntmps10
    go_wp2_with fail
    refine (hr.out _).mono ?_
    rintro e w1 ⟨rfl, b1⟩
    have b2 := hide (((Below.refl _ w).alloc (Nat.le_refl _) _).trans (b1.mono (by simp)))
    have e1 := b1.block w.heap.size (by simp)
    rw [heap_alloc_new] at e1
    have d1 := (cell_of_row w1 w.heap.size 1 _ _ _ e1).trans rfl
    have d3 := (cell_of_row w1 w.heap.size 3 _ _ _ e1).trans rfl
    clear b1 e1
    go_wp2
    go_ret
    exact ⟨rfl, b2.out⟩

theorem rounds_any (s c r m q : Int) (b d : Nat) (w : World) (h0 : w.cell? ⟨b, 0, none⟩ = some (.int .i64 r)) (h1 : w.cell? ⟨b, 1, none⟩ = some (.int .i64 c)) (h2 : w.cell? ⟨d, 0, none⟩ = some (.int .i64 m))
    (hm : 1 ≤ m) (r0 : 0 ≤ r) (r1 : r ≤ 127) (c0 : 0 ≤ c) (c1 : c ≤ 127) (s0 : 0 ≤ s) (s1 : s ≤ 1000000000000) (hq : q = max 0 (s - c + r) / m) :
    Calls Try.prog 18 #[.int .i64 s, .pointer (some ⟨b, 0, none⟩), .pointer (some ⟨d, 0, none⟩)] w fun e w' => e = .returned (.int .i64 q) ∧ w' = w := by
  obtain ⟨y, hy⟩ : ∃ y, s - c + r = y := ⟨_, rfl⟩
  rw [hy] at hq
  have y1 : y ≤ 2000000000000 := by omega
  have y2 : -200 ≤ y := by omega
  by_cases h : y ≤ 0
  · have e1 : q = 0 := by rw [hq, show max 0 y = 0 by omega]; simp
    have e2 : Int.tdiv 0 m = 0 := by simp
    subst e1
    clear hq
    go_enter Try.func18, Try.ntmps18
    go_wp2
    go_ret
    exact ⟨rfl, rfl⟩
  · have e1 : q = y / m := by rw [hq, show max 0 y = y by omega]
    have e2 : Int.tdiv y m = q := by rw [e1, Int.tdiv_eq_ediv_of_nonneg (by omega)]
    have q0 : 0 ≤ q := by rw [e1]; exact Int.ediv_nonneg (by omega) (by omega)
    have q1 : q ≤ y := by rw [e1]; exact Int.ediv_le_self _ (by omega)
    clear hq e1
    go_enter Try.func18, Try.ntmps18
    go_wp2
    go_ret
    exact ⟨rfl, rfl⟩

theorem adv_still (r c : Int) (o : Bool) (p t : Int) (h : (o && okT r c o p) = false ∨ t < 1 ∨ 1099511627776 < t) (w : World) : Calls Try.prog 8 #[.agg #[.int .i64 r, .int .i64 c, .bool o, .int .i64 p], .int .i64 t] w fun e w' =>
    e = .returned (.tuple #[.agg #[.int .i64 r, .int .i64 c, .bool o, .int .i64 p], .int .i64 0]) ∧ Below w.heap.size w w' := by
  have hr := hide (runs_any r c o p)
  cases hv : (o && okT r c o p)
  · rw [hv] at hr
    clear hv h
    go_enter Try.func8, Try.ntmps8
    go_wp2_with fail
    refine (hr.out _).mono ?_
    rintro e w1 ⟨rfl, b1⟩
    have s1 := b1.size
    have e1 := b1.block w.heap.size (by simp; omega)
    have e2 := b1.block (w.heap.size + 1) (by simp)
    rw [heap_alloc2_old] at e1
    rw [heap_alloc2_new] at e2
    have b2 := hide ((((Below.refl _ w).alloc (Nat.le_refl _) _).alloc (by simp) _).trans (b1.mono (by simp; omega)))
    have R1 := hide e1
    have R2 := hide e2
    clear b1 s1
    clear e1 e2
    go_wp2_with (first
      | (refine wpList_load_row rfl 23 (.tmp 2) rfl w.heap.size rfl 23 _ (0, 0) _ R1.out Try.underlying23 rfl (by kernel_rfl) ?_)
      | (refine wpList_store_row rfl 23 (.tmp 4) (.tmp 21) rfl (w.heap.size + 1) _ rfl rfl 23 _ R2.out (by kernel_rfl) rfl (by kernel_rfl) ?_))
    (try simp only [Exit.inBlock, Exit.then])
    refine bodyPost_ret (results_agg_tmp rfl _ _ (w.heap.size + 1) 23 _ (0, 0) _ rfl (setRow_heap _ _ _ _ _ _ R2.out) Try.underlying23 rfl (by kernel_rfl)) rfl ?_
    exact ⟨rfl, below_setRow b2.out (Nat.le_succ _) _⟩
  · rw [hv] at hr h
    clear hv
    by_cases h1 : t < 1
    · clear h
      go_enter Try.func8, Try.ntmps8
      go_wp2_with fail
      refine (hr.out _).mono ?_
      rintro e w1 ⟨rfl, b1⟩
      have s1 := b1.size
      have e1 := b1.block w.heap.size (by simp; omega)
      have e2 := b1.block (w.heap.size + 1) (by simp)
      rw [heap_alloc2_old] at e1
      rw [heap_alloc2_new] at e2
      have b2 := hide ((((Below.refl _ w).alloc (Nat.le_refl _) _).alloc (by simp) _).trans (b1.mono (by simp; omega)))
      have R1 := hide e1
      have R2 := hide e2
      clear b1 s1
      clear e1 e2
      go_wp2_with (first
        | (refine wpList_load_row rfl 23 (.tmp 2) rfl w.heap.size rfl 23 _ (0, 0) _ R1.out Try.underlying23 rfl (by kernel_rfl) ?_)
        | (refine wpList_store_row rfl 23 (.tmp 4) (.tmp 21) rfl (w.heap.size + 1) _ rfl rfl 23 _ R2.out (by kernel_rfl) rfl (by kernel_rfl) ?_))
      (try simp only [Exit.inBlock, Exit.then])
      refine bodyPost_ret (results_agg_tmp rfl _ _ (w.heap.size + 1) 23 _ (0, 0) _ rfl (setRow_heap _ _ _ _ _ _ R2.out) Try.underlying23 rfl (by kernel_rfl)) rfl ?_
      exact ⟨rfl, below_setRow b2.out (Nat.le_succ _) _⟩
    · have h2 : 1099511627776 < t := by rcases h with h | h | h
                                        · cases h
                                        · exact absurd h h1
                                        · exact h
      clear h
      go_enter Try.func8, Try.ntmps8
      go_wp2_with fail
      refine (hr.out _).mono ?_
      rintro e w1 ⟨rfl, b1⟩
      have s1 := b1.size
      have e1 := b1.block w.heap.size (by simp; omega)
      have e2 := b1.block (w.heap.size + 1) (by simp)
      rw [heap_alloc2_old] at e1
      rw [heap_alloc2_new] at e2
      have b2 := hide ((((Below.refl _ w).alloc (Nat.le_refl _) _).alloc (by simp) _).trans (b1.mono (by simp; omega)))
      have R1 := hide e1
      have R2 := hide e2
      clear b1 s1
      clear e1 e2
      go_wp2_with (first
        | (refine wpList_load_row rfl 23 (.tmp 2) rfl w.heap.size rfl 23 _ (0, 0) _ R1.out Try.underlying23 rfl (by kernel_rfl) ?_)
        | (refine wpList_store_row rfl 23 (.tmp 4) (.tmp 21) rfl (w.heap.size + 1) _ rfl rfl 23 _ R2.out (by kernel_rfl) rfl (by kernel_rfl) ?_))
      (try simp only [Exit.inBlock, Exit.then])
      refine bodyPost_ret (results_agg_tmp rfl _ _ (w.heap.size + 1) 23 _ (0, 0) _ rfl (setRow_heap _ _ _ _ _ _ R2.out) Try.underlying23 rfl (by kernel_rfl)) rfl ?_
      exact ⟨rfl, below_setRow b2.out (Nat.le_succ _) _⟩

theorem adv_on (r c p t : Int) (h : okT r c true p = true) (t0 : 1 ≤ t) (t1 : t ≤ 1099511627776) (w : World) : Calls Try.prog 8 #[.agg #[.int .i64 r, .int .i64 c, .bool true, .int .i64 p], .int .i64 t] w fun e w' =>
    e = .returned (.tuple #[.agg #[.int .i64 r, .int .i64 (cntOf r c ((t + p) / 3072)), .bool true, .int .i64 ((t + p) % 3072)], .int .i64 (rndOf r c ((t + p) / 3072))]) ∧ Below w.heap.size w w' := by
  have hr := hide (runs_any r c true p)
  rw [h] at hr
  obtain ⟨r0, r1, c0, c1, p0, p1⟩ := okT_true h
  have p1 : p ≤ 3071 := p1
  clear h
  obtain ⟨T, hT⟩ : ∃ T, t + p = T := ⟨_, rfl⟩
  obtain ⟨s, hs⟩ : ∃ s, T / 3072 = s := ⟨_, rfl⟩
  obtain ⟨m, hm⟩ : ∃ m, r + 1 = m := ⟨_, rfl⟩
  rw [hT, hs]
  have s0 : 0 ≤ s := by omega
  have s1 : s ≤ 357913943 := by omega
  have hM := rnd_mul r c s r0 c0 s0 r1
  have hQ : 0 ≤ rndOf r c s := (rnd_is r c s r0 c0).1
  unfold cntOf
  obtain ⟨q, hq⟩ : ∃ q, q = rndOf r c s := ⟨_, rfl⟩
  rw [← hq] at hM hQ ⊢
  unfold rndOf at hq
  rw [hm] at hM hq ⊢
  have CR := hide (fun b d w h0 h1 h2 => rounds_any s c r m q b d w h0 h1 h2 (by omega) r0 r1 c0 c1 s0 (by omega) hq)
  clear hq
  obtain ⟨M, em⟩ : ∃ M, q * m = M := ⟨_, rfl⟩
  rw [em] at hM ⊢
  obtain ⟨M0, M1⟩ := hM
  obtain ⟨x, hx⟩ : ∃ x, c + (M - s) = x := ⟨_, rfl⟩
  obtain ⟨u, hu⟩ : ∃ u, T % 3072 = u := ⟨_, rfl⟩
  rw [hx, hu]
  go_enter Try.func8, Try.ntmps8
  go_wp2_with fail
  refine (hr.out _).mono ?_
  rintro e w1 ⟨rfl, b1⟩
  have s1 := b1.size
  have e1 := b1.block w.heap.size (by simp; omega)
  have e2 := b1.block (w.heap.size + 1) (by simp)
  rw [heap_alloc2_old] at e1
  rw [heap_alloc2_new] at e2
  have b2 := hide ((((Below.refl _ w).alloc (Nat.le_refl _) _).alloc (by simp) _).trans (b1.mono (by simp; omega)))
  have R1 := hide e1
  have R2 := hide e2
  clear b1 s1
  have d0 := (cell_of_row w1 w.heap.size 0 _ _ _ e1).trans rfl
  have d1 := (cell_of_row w1 w.heap.size 1 _ _ _ e1).trans rfl
  have d2 := (cell_of_row w1 w.heap.size 2 _ _ _ e1).trans rfl
  have d3 := (cell_of_row w1 w.heap.size 3 _ _ _ e1).trans rfl
  have lt1 := lt_of_block e2
  have lt0 := lt_of_block e1
  have ne1 : ¬ w.heap.size = w1.heap.size := by omega
  have f1 := frozen_of_row w1 w.heap.size 1 _ _ e1
  have f3 := frozen_of_row w1 w.heap.size 3 _ _ e1
  clear e1 e2
  go_wp2_with fail
  refine (CR.out _ _ _ ?_ ?_ ?_).mono ?_
  · rw [World.cell?_alloc_lt _ _ _ lt0]; exact d0
  · rw [World.cell?_alloc_lt _ _ _ lt0]; exact d1
  · simp
  rintro e w2 ⟨rfl, rfl⟩
  have q2 : (((w1.setCell ⟨w.heap.size, 1, none⟩ (.int .i64 x)).setCell ⟨w.heap.size, 3, none⟩ (.int .i64 u)).alloc (.cells #[.int .i64 m] 3)).heap[w.heap.size + 1]? = some (.cells #[.int .i64 0, .int .i64 0, .bool false, .int .i64 0] 23 (0, 0)) := by
    rw [heap_alloc_old _ _ (by simpa using lt1), heap_setCell_other _ _ _ _ (by simp), heap_setCell_other _ _ _ _ (by simp)]
    exact R2.out
  have b3 : Below w.heap.size w (((w1.setCell ⟨w.heap.size, 1, none⟩ (.int .i64 x)).setCell ⟨w.heap.size, 3, none⟩ (.int .i64 u)).alloc (.cells #[.int .i64 m] 3)) :=
    ((b2.out.setCell (p := ⟨w.heap.size, 1, none⟩) (Nat.le_refl _) _).setCell (p := ⟨w.heap.size, 3, none⟩) (Nat.le_refl _) _).alloc (by simp; omega) _
  have Q2 := hide q2
  have B3 := hide b3
  clear q2 b3
  go_wp2_with (first
    | (refine wpList_store_row rfl 23 (.tmp 4) (.tmp 47) rfl (w.heap.size + 1) _ rfl rfl 23 _ Q2.out (by kernel_rfl) rfl (by kernel_rfl) ?_))
  (try simp only [Exit.inBlock, Exit.then])
  refine bodyPost_ret (results_agg_tmp rfl _ _ (w.heap.size + 1) 23 _ (0, 0) _ rfl (setRow_heap _ _ _ _ _ _ Q2.out) Try.underlying23 rfl (by kernel_rfl)) rfl ?_
  exact ⟨rfl, below_setRow B3.out (Nat.le_succ _) _⟩
end Go.Proofs.Ytcppphnnaojbhaa
