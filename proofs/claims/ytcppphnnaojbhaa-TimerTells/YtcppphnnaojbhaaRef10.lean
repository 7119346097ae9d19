/- The document's answer for layer 10, by its functions: the same answers as the contracts'. -/
import Derived.Test.YtcppphnnaojbhaaWrite10
namespace Go.Proofs.Ytcppphnnaojbhaa
open Go.RowKit
set_option linter.unusedVariables false

theorem eqR (r c : Int) (o : Bool) (p : Int) (r' c' : Int) (o' : Bool) (p' : Int) (w : World) :
    (binOp .eql 27 (.agg #[.int .i64 r, .int .i64 c, .bool o, .int .i64 p]) (.agg #[.int .i64 r', .int .i64 c', .bool o', .int .i64 p'])).run Try.prog w = .ok (.bool (sameT r c o p r' c' o' p')) w := by
  rw [run_eql_struct, run_equalIn_struct w 9999 27 _ _ (by kernel_rfl) (by kernel_rfl)]
  unfold sameT
  simp [Program.fieldsOf, Try.underlying27, Op.eqFields, part, isAgg, run_underlying Try.underlying3, run_underlying Try.underlying4, run_equalIn_int _ _ _ _ _ _ _ Try.underlying3, run_equalIn_bool' _ _ _ _ _ Try.underlying4]
  by_cases h1 : r = r' <;> by_cases h2 : c = c' <;> by_cases h3 : o = o' <;> by_cases h4 : p = p' <;> simp [h1, h2, h3, h4]
theorem sameT_self (r c : Int) (o : Bool) (p : Int) : sameT r c o p r c o p = true := by simp [sameT]

theorem okT_no {r c : Int} {o : Bool} {p : Int} (h : ¬ (0 ≤ r ∧ r ≤ 127 ∧ 0 ≤ c ∧ c ≤ 127 ∧ 0 ≤ p ∧ p ≤ preOf o)) : okT r c o p = false := decide_eq_false h
theorem rvalid_any (r c : Int) (o : Bool) (p : Int) (w : World) : Calls Try.prog 15 #[.agg #[.int .i64 r, .int .i64 c, .bool o, .int .i64 p]] w fun e w' => e = .returned (.bool (okT r c o p)) ∧ w' = w.alloc (.cells #[.int .i64 r, .int .i64 c, .bool o, .int .i64 p] 27) := by
  have hm : preOf o ≤ 3071 := by cases o <;> decide
  by_cases h1 : 0 ≤ r
  · by_cases h2 : r ≤ 127
    · by_cases h3 : 0 ≤ c
      · by_cases h4 : c ≤ 127
        · by_cases h5 : 0 ≤ p
          · by_cases h6 : p ≤ 3071
            · cases o
              · by_cases h7 : p = 0
                · subst h7
                  rw [show okT r c false 0 = true from decide_eq_true ⟨h1, h2, h3, h4, by decide, by decide⟩]
                  clear hm
                  go_enter Try.func15, Try.ntmps15
                  go_wp2
                  go_ret
                  exact ⟨rfl, rfl⟩
                · rw [okT_no (o := false) (by show ¬ (0 ≤ r ∧ r ≤ 127 ∧ 0 ≤ c ∧ c ≤ 127 ∧ 0 ≤ p ∧ p ≤ 0); omega)]
                  have h8 : (p == 0) = false := by simpa using h7
                  clear hm
                  go_enter Try.func15, Try.ntmps15
                  go_wp2
                  go_ret
                  exact ⟨rfl, rfl⟩
              · rw [show okT r c true p = true from decide_eq_true ⟨h1, h2, h3, h4, h5, h6⟩]
                clear hm
                go_enter Try.func15, Try.ntmps15
                go_wp2
                go_ret
                exact ⟨rfl, rfl⟩
            · rw [okT_no (by omega)]
              clear hm
              go_enter Try.func15, Try.ntmps15
              go_wp2
              go_ret
              exact ⟨rfl, rfl⟩
          · rw [okT_no (by omega)]
            clear hm
            go_enter Try.func15, Try.ntmps15
            go_wp2
            go_ret
            exact ⟨rfl, rfl⟩
        · rw [okT_no (by omega)]
          clear hm
          go_enter Try.func15, Try.ntmps15
          go_wp2
          go_ret
          exact ⟨rfl, rfl⟩
      · rw [okT_no (by omega)]
        clear hm
        go_enter Try.func15, Try.ntmps15
        go_wp2
        go_ret
        exact ⟨rfl, rfl⟩
    · rw [okT_no (by omega)]
      clear hm
      go_enter Try.func15, Try.ntmps15
      go_wp2
      go_ret
      exact ⟨rfl, rfl⟩
  · rw [okT_no (by omega)]
    clear hm
    go_enter Try.func15, Try.ntmps15
    go_wp2
    go_ret
    exact ⟨rfl, rfl⟩
theorem rnext_any (r c : Int) (o : Bool) (p : Int) (w : World) : Calls Try.prog 11 #[.agg #[.int .i64 r, .int .i64 c, .bool o, .int .i64 p]] w fun e w' => e = .returned (.int .i64 (nextOf r c o p)) ∧ Below w.heap.size w w' := by
  unfold nextOf
  have hv := hide (rvalid_any r c o p)
  cases ho : okT r c o p
  · rw [ho] at hv
    rw [Bool.and_false, if_neg (by decide)]
    clear ho
    go_enter Try.func11, Try.ntmps11
    go_wp2_with (first | (go_at_call 15; refine (hv.out _).mono ?_; rintro e w' ⟨rfl, rfl⟩))
    go_ret
    exact ⟨rfl, ((Below.refl _ w).alloc (Nat.le_refl _) _).alloc (by simp) _⟩
  · rw [ho] at hv
    cases o
    · rw [Bool.false_and, if_neg (by decide)]
      clear ho
      go_enter Try.func11, Try.ntmps11
      go_wp2_with (first | (go_at_call 15; refine (hv.out _).mono ?_; rintro e w' ⟨rfl, rfl⟩))
      go_ret
      exact ⟨rfl, ((Below.refl _ w).alloc (Nat.le_refl _) _).alloc (by simp) _⟩
    · rw [Bool.true_and, if_pos rfl]
      obtain ⟨r0, r1, c0, c1, p0, p1⟩ := okT_true ho
      have p1 : p ≤ 3071 := p1
      clear ho
      go_enter Try.func11, Try.ntmps11
      go_wp2_with (first | (go_at_call 15; refine (hv.out _).mono ?_; rintro e w' ⟨rfl, rfl⟩))
      go_ret
      exact ⟨rfl, ((Below.refl _ w).alloc (Nat.le_refl _) _).alloc (by simp) _⟩
end Go.Proofs.Ytcppphnnaojbhaa
