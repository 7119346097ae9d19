/- Contract of irq.Pick: the first line that is raised and not masked, by the table of the vectors. -/
import Derived.Test.YtnmdifgoimoecaaDoorIrq
namespace Go.Proofs.YtnmdifgoimoecaaDoor
open Go.RowKit
set_option linter.unusedVariables false

/-- The table of the vectors, as its cells lie. -/
def vecCells : Array Value := #[.int .i64 4, .int .i64 65530, .int .i64 2, .int .i64 65528, .int .i64 1, .int .i64 65526]
def HasVec (w : World) : Prop := ∃ t fr, w.heap[0]? = some (.cells vecCells t fr)
theorem HasVec.pos {w : World} (h : HasVec w) : 0 < w.heap.size := by
  obtain ⟨t, fr, e⟩ := h
  exact lt_of_block e
theorem HasVec.next {w w' : World} (h : HasVec w) (b : Below w.heap.size w w') : HasVec w' := by
  have k := h.pos
  obtain ⟨t, fr, e⟩ := h
  exact ⟨t, fr, (b.block 0 k).trans e⟩
def lineAt (j : Nat) : Int := [(4 : Int), 2, 1].getD j 0
def atAt (j : Nat) : Int := [(65530 : Int), 65528, 65526].getD j 0
theorem vec_index (j : Nat) (hj : j < 3) (w : World) : (Instr.index 41 (.agg vecCells) (.int .i64 (j : Int))).run Tryd.prog w = .ok (.agg #[.int .i64 (lineAt j), .int .i64 (atAt j)]) w := by
  rcases j with _ | _ | _ | j
  · kernel_rfl
  · kernel_rfl
  · kernel_rfl
  · omega

/-- Whether a line is raised and not masked: the closure. -/
theorem free_any (m l x n : Int) (b : Nat) (w : World) (h0 : w.cell? ⟨b, 0, none⟩ = some (.int .i64 m)) (h1 : w.cell? ⟨b, 1, none⟩ = some (.int .i64 l)) (hx : bits .andNot .i64 l m = x) :
    Calls Tryd.prog 14 #[.int .i64 n, .pointer (some ⟨b, 0, none⟩)] w fun e w' => e = .returned (.bool (bits .and .i64 x n != 0)) ∧ w' = w := by
  go_enter Tryd.func14, Tryd.ntmps14
  go_wp2
  go_ret
  exact ⟨rfl, rfl⟩

theorem pick_at (m l p x : Int) (hx : bits .andNot .i64 l m = x) (hp : bits .and .i64 p 4 = 0) (w : World) (cs : Array Value) (t : TypeId) (fr : Nat × Nat) (hT : w.heap[0]? = some (.cells cs t fr)) (hs : some 6 = some cs.size)
    (hi : ∀ (j : Nat), j < 3 → ∀ w : World, (Instr.index 41 (.agg cs) (.int .i64 (j : Int))).run Tryd.prog w = .ok (.agg #[.int .i64 (lineAt j), .int .i64 (atAt j)]) w) :
    Calls Tryd.prog 6 #[.agg #[.int .i64 m, .int .i64 l], .int .i64 p] w fun e w' =>
      ((∃ j, j < 3 ∧ bits .and .i64 x (lineAt j) ≠ 0 ∧ (∀ i, i < j → bits .and .i64 x (lineAt i) = 0) ∧ e = .returned (.tuple #[.int .i64 (atAt j), .bool true])) ∨ ((∀ i, i < 3 → bits .and .i64 x (lineAt i) = 0) ∧ e = .returned (.tuple #[.int .i64 0, .bool false]))) ∧ Below w.heap.size w w' := by
  have hz : (Tryd.prog.info? 41).map (·.size) = some cs.size := Eq.trans (by kernel_rfl) hs
  have HX := hide hi
  have HT := hide hT
  have HI := hide hz
  have FX := hide hx
  clear hs hi hT hz hx
  go_enter Tryd.func6, Tryd.ntmps6
  have HU := hide ((((Below.refl _ w).alloc (Nat.le_refl _) (.cells #[.int .i64 m, .int .i64 l] 23)).block 0 (lt_of_block HT.out)).trans HT.out)
  go_wp2_with (first | (refine wpList_load_row rfl 41 (.global 0) rfl 0 rfl t cs fr _ HU.out Tryd.underlying41 rfl HI.out ?_))
  obtain ⟨wa, hwa⟩ : ∃ wa, wa = w.alloc (.cells #[.int .i64 m, .int .i64 l] 23) := ⟨_, rfl⟩
  rw [← hwa]
  have ba := hide (show Below w.heap.size w wa by rw [hwa]; exact (Below.refl _ w).alloc (Nat.le_refl _) _)
  have ra := hide (show HasS wa w.heap.size m l by rw [hwa]; exact hasS_new w m l)
  clear hwa HU HT
  go_loopw [14] (fun si wr => ∃ j : Nat, j ≤ 3 ∧ si = .int .i64 (j : Int) ∧ (∀ i, i < j → bits .and .i64 x (lineAt i) = 0) ∧ Below wa.heap.size wa wr) (fun si _ => 3 - (intOf si).toNat)
  case atStart => exact ⟨0, by omega, rfl, fun i hi => absurd hi (by omega), Below.refl _ _⟩
  case round =>
    obtain ⟨j, hj, rfl, hne, bel⟩ := hrel
    have HN := hide hne
    have BL := hide bel
    clear hne bel
    by_cases h : j < 3
    · have hx := HX.out j h
      obtain ⟨n, hn⟩ : ∃ n, n = lineAt j := ⟨_, rfl⟩
      obtain ⟨k, hk⟩ : ∃ k, k = atAt j := ⟨_, rfl⟩
      rw [← hn, ← hk] at hx
      have HP := hide hn
      have HK := hide hk
      clear hn hk
      have BM := hide (BL.out.alloc BL.out.size (.cells #[.int .i64 n, .int .i64 k] 40))
      have cf := hide (free_any m l x n w.heap.size _ ((ra.out.next BM.out).c0) ((ra.out.next BM.out).c1) FX.out)
      by_cases hq : bits .and .i64 x n = 0
      · rw [show (bits .and .i64 x n != 0) = false by rw [hq]; rfl] at cf
        have HQ := hide hq
        clear hq
        go_wp2_with (first | (refine cf.out.mono ?_; rintro e w1 ⟨rfl, rfl⟩))
        go_roundw
        case rel =>
          refine ⟨j + 1, by omega, by go_num, fun i hi => ?_, BM.out⟩
          by_cases hij : i = j
          · subst hij; rw [← HP.out]; exact HQ.out
          · exact HN.out i (by omega)
        case measure => simp [intOf]; omega
      · rw [show (bits .and .i64 x n != 0) = true by simp [hq]] at cf
        have HQ := hide hq
        clear hq
        go_wp2_with (first | (refine cf.out.mono ?_; rintro e w1 ⟨rfl, rfl⟩))
        go_ret2
        refine ⟨.inl ⟨j, h, by rw [← HP.out]; exact HQ.out, HN.out, ret_kb HK.out rfl⟩, bnext ba.out BM.out⟩
    · have hj : j = 3 := by omega
      subst hj
      go_wp2_with fail
      go_ret2
      exact ⟨.inr ⟨HN.out, rfl⟩, bnext ba.out BL.out⟩

theorem and_line (x : Int) : bits .and .i64 x 4 = (if 4 ≤ x % 8 then 4 else 0) ∧ bits .and .i64 x 2 = (if 2 ≤ x % 4 then 2 else 0) ∧ bits .and .i64 x 1 = x % 2 := ⟨and_4 x, and_2 x, and_1 x⟩
/-- No flag I: the first line that is free. -/
theorem pick_free (m l p : Int) (hp : p % 8 < 4) (w : World) (hT : HasVec w) :
    Calls Tryd.prog 6 #[.agg #[.int .i64 m, .int .i64 l], .int .i64 p] w fun e w' => e = .returned (.tuple #[.int .i64 (vecOf (bic3 l m)), .bool (anyOf (bic3 l m))]) ∧ Below w.heap.size w w' := by
  obtain ⟨t, fr, hT⟩ := hT
  have h4 : bits .and .i64 p 4 = 0 := by rw [and_4, if_neg (by omega)]
  refine (pick_at m l p _ rfl h4 w vecCells t fr hT rfl (fun j hj w => vec_index j hj w)).mono ?_
  have hx := bic_mod8 l m
  generalize bits .andNot .i64 l m = x at *
  rw [← hx]
  clear hx
  have a4 := and_4 x
  have a2 := and_2 x
  have a1 := and_1 x
  rintro e w' ⟨⟨j, hj, hn, hb, rfl⟩ | ⟨hb, rfl⟩, b⟩
  · refine ⟨?_, b⟩
    rcases j with _ | _ | _ | j
    · have h : bits .and .i64 x 4 ≠ 0 := hn
      have h2 : 4 ≤ x % 8 := by rw [a4] at h; split at h <;> first | assumption | exact absurd rfl h
      refine ret_kb ?_ ?_
      · unfold vecOf; rw [if_pos (by omega)]; rfl
      · unfold anyOf; rw [decide_eq_true (by omega)]
    · have h : bits .and .i64 x 2 ≠ 0 := hn
      have k : bits .and .i64 x 4 = 0 := hb 0 (by decide)
      have h2 : 2 ≤ x % 4 := by rw [a2] at h; split at h <;> first | assumption | exact absurd rfl h
      have k2 : x % 8 < 4 := by rw [a4] at k; split at k <;> omega
      refine ret_kb ?_ ?_
      · unfold vecOf; rw [if_neg (by omega), if_pos (by omega)]; rfl
      · unfold anyOf; rw [decide_eq_true (by omega)]
    · have h : bits .and .i64 x 1 ≠ 0 := hn
      have k : bits .and .i64 x 4 = 0 := hb 0 (by decide)
      have g : bits .and .i64 x 2 = 0 := hb 1 (by decide)
      have h2 : x % 2 = 1 := by rw [a1] at h; omega
      have k2 : x % 8 < 4 := by rw [a4] at k; split at k <;> omega
      have g2 : x % 4 < 2 := by rw [a2] at g; split at g <;> omega
      refine ret_kb ?_ ?_
      · unfold vecOf; rw [if_neg (by omega), if_neg (by omega), if_pos (by omega)]; rfl
      · unfold anyOf; rw [decide_eq_true (by omega)]
    · omega
  · refine ⟨?_, b⟩
    have k : bits .and .i64 x 4 = 0 := hb 0 (by decide)
    have g : bits .and .i64 x 2 = 0 := hb 1 (by decide)
    have h : bits .and .i64 x 1 = 0 := hb 2 (by decide)
    have h2 : x % 2 = 0 := by rw [a1] at h; omega
    have k2 : x % 8 < 4 := by rw [a4] at k; split at k <;> omega
    have g2 : x % 4 < 2 := by rw [a2] at g; split at g <;> omega
    refine ret_kb ?_ ?_
    · unfold vecOf; rw [if_neg (by omega), if_neg (by omega), if_neg (by omega)]
    · unfold anyOf; rw [decide_eq_false (by omega)]
/-- The flag I: none. -/
theorem pick_held (m l p : Int) (hp : 4 ≤ p % 8) (w : World) :
    Calls Tryd.prog 6 #[.agg #[.int .i64 m, .int .i64 l], .int .i64 p] w fun e w' => e = .returned (.tuple #[.int .i64 0, .bool false]) ∧ Below w.heap.size w w' := by
  have h4 : bits .and .i64 p 4 = 4 := by rw [and_4, if_pos hp]
  go_enter Tryd.func6, Tryd.ntmps6
  go_wp2
  go_ret2
  exact ⟨rfl, (Below.refl _ w).alloc (Nat.le_refl _) _⟩
end Go.Proofs.YtnmdifgoimoecaaDoor
