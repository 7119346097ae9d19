/- The document's own timing: its answers are those of package timing. -/
import Derived.Test.YtakacojablpfoaaGeo14
import Derived.Laws.StructEq
import Derived.WalkMore
namespace Go.Proofs.Ytakacojablpfoaa
open Go.RowKit
set_option linter.unusedVariables false

theorem clamp_any (n a b : Int) (hab : a ≤ b) (w : World) : Calls Try.prog 21 #[.int .i64 n, .int .i64 a, .int .i64 b] w fun e w' => e = .returned (.int .i64 (inB a b n)) ∧ w' = w := by
  by_cases h1 : n < a
  · go_enter Try.func21, Try.ntmps21
    go_wp2
    go_ret
    exact ⟨ret_int (by unfold inB; omega), rfl⟩
  · by_cases h2 : b < n
    all_goals
      go_enter Try.func21, Try.ntmps21
      go_wp2
      go_ret
      exact ⟨ret_int (by unfold inB; omega), rfl⟩
theorem clamp_is (n a b r : Int) (hab : a ≤ b) (h : inB a b n = r) (w : World) : Calls Try.prog 21 #[.int .i64 n, .int .i64 a, .int .i64 b] w fun e w' => e = .returned (.int .i64 r) ∧ w' = w := by
  subst h
  exact clamp_any n a b hab w

theorem rline_low (t : Int) (w : World) (h : t < 0) : Calls Try.prog 11 #[.int .i64 t] w fun e w' => e = .returned (.tuple #[.int .i64 0, .int .i64 0]) ∧ w' = w := by
  go_enter Try.func11, Try.ntmps11
  go_wp2
  go_ret2
  exact ⟨rfl, rfl⟩
theorem rline_any (t : Int) (w : World) (h : 0 ≤ t) (h1 : t < 9223372036854775808) : Calls Try.prog 11 #[.int .i64 t] w fun e w' => e = .returned (.tuple #[.int .i64 (t / 1365), .int .i64 (t % 1365)]) ∧ w' = w := by
  have e1 : Int.tdiv t 1365 = t / 1365 := Int.tdiv_eq_ediv_of_nonneg h
  have e2 : Int.tmod t 1365 = t % 1365 := Int.tmod_eq_emod_of_nonneg h
  go_enter Try.func11, Try.ntmps11
  go_wp2
  go_ret2
  exact ⟨rfl, rfl⟩
theorem rnext_low (t : Int) (w : World) (h : t < 0) : Calls Try.prog 15 #[.int .i64 t] w fun e w' => e = .returned (.int .i64 1365) ∧ w' = w := by
  go_enter Try.func15, Try.ntmps15
  go_wp2
  go_ret
  exact ⟨rfl, rfl⟩
theorem rnext_any (t : Int) (w : World) (h : 0 ≤ t) (h1 : t < 9223372036854775808) : Calls Try.prog 15 #[.int .i64 t] w fun e w' => e = .returned (.int .i64 (1365 - t % 1365)) ∧ w' = w := by
  have e2 : Int.tmod t 1365 = t % 1365 := Int.tmod_eq_emod_of_nonneg h
  go_enter Try.func15, Try.ntmps15
  go_wp2
  go_ret
  exact ⟨rfl, rfl⟩
theorem rshown_yes (x t v k l n : Int) (w : World) (h0 : t ≤ n) (h1 : n < v) (t0 : 0 ≤ t) (v1 : v ≤ 1000) : Calls Try.prog 13 #[.agg #[.int .i64 x, .int .i64 t, .int .i64 v, .int .i64 k, .int .i64 l], .int .i64 n] w fun e w' => e = .returned (.int .i64 (n - t)) ∧ Below w.heap.size w w' := by
  go_enter Try.func13, Try.ntmps13
  go_wp2
  go_ret
  exact ⟨rfl, (Below.refl _ w).alloc (Nat.le_refl _) _⟩
theorem rshown_no (x t v k l n : Int) (w : World) (h : n < t ∨ v ≤ n) : Calls Try.prog 13 #[.agg #[.int .i64 x, .int .i64 t, .int .i64 v, .int .i64 k, .int .i64 l], .int .i64 n] w fun e w' => e = .returned (.int .i64 (-1)) ∧ Below w.heap.size w w' := by
  by_cases h1 : n < t
  all_goals
    go_enter Try.func13, Try.ntmps13
    go_wp2
    go_ret
    exact ⟨rfl, (Below.refl _ w).alloc (Nat.le_refl _) _⟩
theorem rshown_any (x t v k l n : Int) (w : World) (t0 : 0 ≤ t) (v1 : v ≤ 1000) : Calls Try.prog 13 #[.agg #[.int .i64 x, .int .i64 t, .int .i64 v, .int .i64 k, .int .i64 l], .int .i64 n] w fun e w' => e = .returned (.int .i64 (shownOf t v n)) ∧ Below w.heap.size w w' := by
  unfold shownOf
  split
  · next h => exact rshown_yes x t v k l n w h.1 h.2 t0 v1
  · next h => exact rshown_no x t v k l n w (by omega)
/-- Both tell the same of any tick, in letters. -/
theorem tick_both (t : Int) (h : t < 9223372036854775808) : ∃ p q r : Int, (∀ w, Calls Try.prog 10 #[.int .i64 t] w fun e w' => e = .returned (.tuple #[.int .i64 p, .int .i64 q]) ∧ w' = w) ∧ (∀ w, Calls Try.prog 11 #[.int .i64 t] w fun e w' => e = .returned (.tuple #[.int .i64 p, .int .i64 q]) ∧ w' = w) ∧
    (∀ w, Calls Try.prog 14 #[.int .i64 t] w fun e w' => e = .returned (.int .i64 r) ∧ w' = w) ∧ (∀ w, Calls Try.prog 15 #[.int .i64 t] w fun e w' => e = .returned (.int .i64 r) ∧ w' = w) := by
  by_cases h0 : t < 0
  · exact ⟨_, _, _, fun w => line_low t w h0, fun w => rline_low t w h0, fun w => next_low t w h0, fun w => rnext_low t w h0⟩
  · exact ⟨_, _, _, fun w => line_any t w (by omega) h, fun w => rline_any t w (by omega) h, fun w => next_any t w (by omega) h, fun w => rnext_any t w (by omega) h⟩

theorem rof_walk (a b c d f g : Int) (w : World) (p l q c' d' f' cm dm dq fm o1 x t v k : Int) (CP : Hid (∀ w, Calls Try.prog 21 #[.int .i64 a, .int .i64 2, .int .i64 4] w fun e w' => e = .returned (.int .i64 p) ∧ w' = w)) (CL : Hid (∀ w, Calls Try.prog 21 #[.int .i64 b, .int .i64 262, .int .i64 263] w fun e w' => e = .returned (.int .i64 l) ∧ w' = w))
    (CO : Hid (∀ w, Calls Try.prog 21 #[.int .i64 (8 * (cm + 1)), .int .i64 0, .int .i64 512] w fun e w' => e = .returned (.int .i64 o1) ∧ w' = w)) (CX : Hid (∀ w, Calls Try.prog 21 #[.int .i64 o1, .int .i64 0, .int .i64 q] w fun e w' => e = .returned (.int .i64 x) ∧ w' = w))
    (CT : Hid (∀ w, Calls Try.prog 21 #[.int .i64 (dm + dq + 3), .int .i64 0, .int .i64 l] w fun e w' => e = .returned (.int .i64 t) ∧ w' = w)) (CV : Hid (∀ w, Calls Try.prog 21 #[.int .i64 (t + fm + 1), .int .i64 0, .int .i64 l] w fun e w' => e = .returned (.int .i64 v) ∧ w' = w))
    (CK : Hid (∀ w, Calls Try.prog 21 #[.int .i64 v, .int .i64 0, .int .i64 (l - 1)] w fun e w' => e = .returned (.int .i64 k) ∧ w' = w))
    (WC : Hid (∀ w, Calls Try.prog 22 #[.int .i64 c] w fun e w' => e = .returned (.int .i64 c') ∧ w' = w)) (WD : Hid (∀ w, Calls Try.prog 22 #[.int .i64 d] w fun e w' => e = .returned (.int .i64 d') ∧ w' = w)) (WF : Hid (∀ w, Calls Try.prog 22 #[.int .i64 f] w fun e w' => e = .returned (.int .i64 f') ∧ w' = w))
    (ec : Int.tmod c' 128 = cm) (ed : Int.tmod d' 32 = dm) (eq : Int.tdiv d' 256 = dq) (ef : Int.tmod f' 512 = fm) (eQ : Int.tdiv 1365 p = q) (p0 : 2 ≤ p) (p1 : p ≤ 4) (l0 : 262 ≤ l) (l1 : l ≤ 263) (q0 : 341 ≤ q) (q1 : q ≤ 682)
    (c0 : 0 ≤ cm) (c1 : cm < 128) (d0 : 0 ≤ dm) (d1 : dm < 32) (d2 : 0 ≤ dq) (d3 : dq < 256) (f0 : 0 ≤ fm) (f1 : fm < 512) (t0 : 0 ≤ t) (t1 : t ≤ 263) :
    Calls Try.prog 9 #[.agg #[.int .i64 a, .int .i64 b, .int .i64 c, .int .i64 d, .int .i64 f, .int .i64 g]] w fun e w' => e = .returned (.agg #[.int .i64 x, .int .i64 t, .int .i64 v, .int .i64 k, .int .i64 l]) ∧ Below w.heap.size w w' := by
  go_enter Try.func9, Try.ntmps9
  go_wp2_with fail
  refine (CP.out _).mono ?_
  rintro e w' ⟨rfl, rfl⟩
  go_wp2_with fail
  refine (CL.out _).mono ?_
  rintro e w' ⟨rfl, rfl⟩
  go_wp2_with fail
  refine (WC.out _).mono ?_
  rintro e w' ⟨rfl, rfl⟩
  go_wp2_with fail
  refine (WD.out _).mono ?_
  rintro e w' ⟨rfl, rfl⟩
  go_wp2_with fail
  refine (WF.out _).mono ?_
  rintro e w' ⟨rfl, rfl⟩
  go_wp2_with fail
  refine (CO.out _).mono ?_
  rintro e w' ⟨rfl, rfl⟩
  go_wp2_with fail
  refine (CX.out _).mono ?_
  rintro e w' ⟨rfl, rfl⟩
  go_wp2_with fail
  refine (CT.out _).mono ?_
  rintro e w' ⟨rfl, rfl⟩
  go_wp2_with fail
  refine (CV.out _).mono ?_
  rintro e w' ⟨rfl, rfl⟩
  go_wp2_with fail
  refine (CK.out _).mono ?_
  rintro e w' ⟨rfl, rfl⟩
  go_wp2
  go_returns
  exact ⟨rfl, ((Below.refl _ w).alloc (Nat.le_refl _) _).alloc (by simp) _⟩
theorem rof_any (a b c d f g : Int) (w : World) : Calls Try.prog 9 #[.agg #[.int .i64 a, .int .i64 b, .int .i64 c, .int .i64 d, .int .i64 f, .int .i64 g]] w fun e w' =>
      e = .returned (.agg #[.int .i64 (wideOf a c), .int .i64 (topOf b d), .int .i64 (botOf b d f), .int .i64 (blkOf b d f), .int .i64 (linOf b)]) ∧ Below w.heap.size w w' := by
  have h1 := quo_dot a
  have h2 := inB_le 2 4 a (by decide)
  have h3 := lin_le b
  have h4 := top_le b d
  have h5 := bot_le b d f
  have h6 := widthOf_le c
  have m0 : mostOf a = min 512 (1365 / inB 2 4 a) := rfl
  have ew : inB 0 (1365 / inB 2 4 a) (inB 0 512 (8 * (c % 128 + 1))) = wideOf a c := by
    unfold wideOf widthOf at *
    generalize mostOf a = u at *
    generalize 1365 / inB 2 4 a = q at *
    unfold inB
    omega
  have et : inB 0 (linOf b) (d % 32 + d / 256 % 256 + 3) = topOf b d := rfl
  have ev : inB 0 (linOf b) (topOf b d + f % 512 + 1) = botOf b d f := by unfold botOf heightOf; rw [Int.add_assoc]
  have ek : inB 0 (linOf b - 1) (botOf b d f) = blkOf b d f := by unfold blkOf inB; omega
  exact rof_walk a b c d f g w (inB 2 4 a) (linOf b) (1365 / inB 2 4 a) (c % 65536) (d % 65536) (f % 65536) (c % 128) (d % 32) (d / 256 % 256) (f % 512) _ (wideOf a c) (topOf b d) (botOf b d f) (blkOf b d f)
    (hide (clamp_any a 2 4 (by decide))) (hide (clamp_any b 262 263 (by decide))) (hide (clamp_any _ 0 512 (by decide))) (hide (clamp_is _ 0 _ _ (by omega) ew)) (hide (clamp_is _ 0 _ _ (by omega) et)) (hide (clamp_is _ 0 _ _ (by omega) ev)) (hide (clamp_is _ 0 _ _ (by omega) ek))
    (hide (rword_any c)) (hide (rword_any d)) (hide (rword_any f))
    (by rw [Int.tmod_eq_emod_of_nonneg (by omega)]; omega) (by rw [Int.tmod_eq_emod_of_nonneg (by omega)]; omega) (by rw [Int.tdiv_eq_ediv_of_nonneg (by omega)]; omega) (by rw [Int.tmod_eq_emod_of_nonneg (by omega)]; omega) (Int.tdiv_eq_ediv_of_nonneg (by decide))
    h2.1 h2.2 h3.1 h3.2 h1.1 h1.2.1 (by omega) (by omega) (by omega) (by omega) (by omega) (by omega) (by omega) (by omega) (by omega) (by omega)

theorem eqG_self (x t v k l : Int) (w : World) : (binOp .eql 27 (.agg #[.int .i64 x, .int .i64 t, .int .i64 v, .int .i64 k, .int .i64 l]) (.agg #[.int .i64 x, .int .i64 t, .int .i64 v, .int .i64 k, .int .i64 l])).run Try.prog w = .ok (.bool true) w := by
  rw [run_eql_struct, run_equalIn_struct w 9999 27 _ _ (by kernel_rfl) (by kernel_rfl)]
  simp [Program.fieldsOf, Try.underlying27, Op.eqFields, part, isAgg, run_underlying Try.underlying3, run_equalIn_int _ _ _ _ _ _ _ Try.underlying3]
/-- Block b holds one of the document's geometries. -/
def HasR (w : World) (b : Nat) (x t v k l : Int) : Prop := w.heap[b]? = some (.cells #[.int .i64 x, .int .i64 t, .int .i64 v, .int .i64 k, .int .i64 l] 27 (0, 0))
theorem HasR.next {w w' : World} {b : Nat} {x t v k l : Int} (h : HasR w b x t v k l) (q : Below w.heap.size w w') : HasR w' b x t v k l := (q.block b (lt_of_block h)).trans h
theorem hasR_new (w : World) (x t v k l : Int) : HasR (w.alloc (.cells #[.int .i64 x, .int .i64 t, .int .i64 v, .int .i64 k, .int .i64 l] 27)) w.heap.size x t v k l := heap_alloc_new _ _
theorem HasR.lt {w : World} {b : Nat} {x t v k l : Int} (h : HasR w b x t v k l) : b < w.heap.size := lt_of_block h
theorem HasR.at {w : World} {b : Nat} {x t v k l : Int} (h : HasR w b x t v k l) (j : Nat) : w.cell? ⟨b, j, none⟩ = (#[.int .i64 x, .int .i64 t, .int .i64 v, .int .i64 k, .int .i64 l] : Array Value)[j]? := cell_of_row w b j _ _ _ h
end Go.Proofs.Ytakacojablpfoaa
