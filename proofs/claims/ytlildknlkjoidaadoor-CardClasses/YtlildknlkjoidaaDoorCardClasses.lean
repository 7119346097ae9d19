/- For every number: eleven numbers of pages have cards, as the law counts them; a plain one's double, up to 128, is a plain one. -/
import Derived.Test.YtlildknlkjoidaaDoorCardSay
import Derived.Test.YtlildknlkjoidaaDoorTie
import Derived.Test.YtlildknlkjoidaaDoorCards
import Derived.Test.YtlildknlkjoidaaDoorArrays
import Derived.SevenTiedAt
import Derived.OpenShut
import Derived.ShutString
import Derived.ChangeOld
import Derived.Below
namespace Go.Proofs.YtlildknlkjoidaaDoor
open Go.ChangeShapes Go.WideShapes Go.ChangeAt Go.RowKit
open Go.ChangeMaps (open_string shut_string)
set_option linter.unusedVariables false
theorem own : ownKnob Tryd.prog.godebug = none := by kernel_rfl


def hit (k : Int) (i : Int) : Bool := known i && decide (kindOf i = k)
def cnt (k : Int) : Nat → Int
  | 0 => 0
  | j + 1 => cnt k j + if hit k ((j : Int) - 3) then 1 else 0
theorem cnt_le (k : Int) (j : Nat) : 0 ≤ cnt k j ∧ cnt k j ≤ j := by
  induction j with
  | zero => simp [cnt]
  | succ j ih => unfold cnt; split <;> omega
theorem cnt_yes {k : Int} {j : Nat} {i : Int} (hi : i = (j : Int) - 3) (h1 : known i = true) (h2 : kindOf i = k) : cnt k (j + 1) = cnt k j + 1 := by
  subst hi
  have : hit k ((j : Int) - 3) = true := by unfold hit; rw [h1, h2]; simp
  show cnt k j + (if hit k ((j : Int) - 3) then 1 else 0) = _
  rw [if_pos this]
theorem cnt_no {k : Int} {j : Nat} {i : Int} (hi : i = (j : Int) - 3) (h : known i = false ∨ kindOf i ≠ k) : cnt k (j + 1) = cnt k j := by
  subst hi
  have : ¬ hit k ((j : Int) - 3) = true := by
    unfold hit
    rcases h with h | h
    · rw [h]; simp
    · simp [h]
  show cnt k j + (if hit k ((j : Int) - 3) then 1 else 0) = _
  rw [if_neg this]; omega
theorem kind_three (i : Int) : kindOf i = 0 ∨ kindOf i = 1 ∨ kindOf i = 2 := by
  unfold kindOf; split
  · omega
  · split <;> omega
theorem twice_known {n : Int} (h1 : known n = true) (h2 : kindOf n = 0) (h3 : ¬ n = 128) : known (2 * n) = true := by
  unfold known at *
  unfold kindOf at h2
  rw [decide_eq_true_eq] at *
  split at h2
  · omega
  · split at h2 <;> omega
theorem arr_eq (w : World) : (binOp .eql 41 (.agg #[.int .i64 8, .int .i64 2, .int .i64 1]) (.agg #[.int .i64 8, .int .i64 2, .int .i64 1])).run Tryd.prog w = .ok (.bool true) w := by kernel_rfl

set_option maxHeartbeats 1600000 in
theorem cardClasses_walk (a0 : Int) (w : World) (w0 : (Lit.int .i64 a0).wf = true) (hT : HasTab w) :
    Calls Tryd.prog 6 #[.int .i64 a0] w fun e w' => e = .returned (.bool true) ∧ Below w.heap.size w w' := by
  obtain ⟨n, hn⟩ : ∃ n, n = Int.tmod a0 1099511627776 := ⟨_, rfl⟩
  have n0 : -1099511627776 < n := by rw [hn]; have := Int.lt_tmod_of_pos a0 (show (0 : Int) < 1099511627776 by decide); omega
  have n1 : n < 1099511627776 := by rw [hn]; exact Int.tmod_lt_of_pos a0 (by decide)
  have HT := hide hT
  have HN := hide hn
  clear hT hn w0
  go_enter Tryd.func6, Tryd.ntmps6
  go_wp2_with fail
  go_loopw [4] (fun si wr => ∃ (j : Nat), j ≤ 403 ∧ si = .int .i64 ((j : Int) - 3) ∧ wr.heap[w.heap.size]? = some (.cells #[.int .i64 (cnt 0 j), .int .i64 (cnt 1 j), .int .i64 (cnt 2 j)] 41 (0, 0)) ∧ Below w.heap.size w wr) (fun si _ => 403 - (intOf si + 3).toNat)
  case atStart => exact ⟨0, by omega, rfl, heap_alloc_new w _, (Below.refl _ w).alloc (Nat.le_refl _) _⟩
  case round =>
    obtain ⟨j, hj, hsi, hrow, bel⟩ := hrel
    obtain ⟨i, hi⟩ : ∃ i, i = (j : Int) - 3 := ⟨_, rfl⟩
    rw [← hi] at hsi
    subst hsi
    by_cases h : j < 403
    · have hi2 : i < 400 := by omega
      have hi3 : -3 ≤ i := by omega
      have c := hide (class_any i wr (HT.out.next bel))
      have l0 := cnt_le 0 j
      have l1 := cnt_le 1 j
      have l2 := cnt_le 2 j
      obtain ⟨k, hk⟩ : ∃ k, k = kindOf i := ⟨_, rfl⟩
      obtain ⟨q, hq⟩ : ∃ q, q = known i := ⟨_, rfl⟩
      rw [← hk, ← hq] at c
      have HJ := hide hj
      have HI := hide hi
      have HR := hide hrow
      have BL := hide bel
      have K3 := hide (kind_three i)
      have hlt : w.heap.size < wr.heap.size := by
        rcases Nat.lt_or_ge w.heap.size wr.heap.size with h | h
        · exact h
        · rw [Array.getElem?_eq_none h] at hrow; cases hrow
      have HLT := hide hlt
      have ih : intOf (.int .i64 i) = i := rfl
      clear hrow bel hlt hi
      go_wp2_with fail
      refine c.out.mono ?_
      rintro e w2 ⟨rfl, b2⟩
      have r2 := (b2.block _ HLT.out).trans HR.out
      have B2 := hide (bnext BL.out b2)
      have d0 : w2.cell? ⟨w.heap.size, 0, none⟩ = some (.int .i64 (cnt 0 j)) := cell_of_row w2 _ 0 _ _ _ r2
      have d1 : w2.cell? ⟨w.heap.size, 1, none⟩ = some (.int .i64 (cnt 1 j)) := cell_of_row w2 _ 1 _ _ _ r2
      have d2 : w2.cell? ⟨w.heap.size, 2, none⟩ = some (.int .i64 (cnt 2 j)) := cell_of_row w2 _ 2 _ _ _ r2
      have f0 : ∀ x, w2.frozen? ⟨w.heap.size, x, none⟩ = false := fun x => by simp [World.frozen?, r2]
      have R2 := hide r2
      have HK := hide hk
      have HQ := hide hq
      clear r2 b2 hk hq
      cases q
      · have k0 : k = 0 := by
          rw [HK.out]
          have := HQ.out.symm
          unfold known at this
          rw [decide_eq_false_iff_not] at this
          unfold kindOf
          rw [if_neg (by omega), if_neg (by omega)]
        subst k0
        go_wp2_with fail
        go_roundw
        case rel =>
          refine ⟨j + 1, by omega, by have := HI.out; congr 1; omega, ?_, B2.out⟩
          rw [cnt_no HI.out (.inl HQ.out.symm), cnt_no HI.out (.inl HQ.out.symm), cnt_no HI.out (.inl HQ.out.symm)]
          exact R2.out
        case measure => have := HI.out; simp [intOf]; omega
      · have kk : k = 0 ∨ k = 1 ∨ k = 2 := by rw [HK.out]; exact K3.out
        rcases kk with k0 | k0 | k0
        · subst k0
          go_wp2_with fail
          go_roundw
          case rel =>
            refine ⟨j + 1, by omega, by have := HI.out; congr 1; omega, ?_, B2.out.setCell (Nat.le_refl _) _⟩
            rw [cnt_yes HI.out HQ.out.symm HK.out.symm, cnt_no HI.out (.inr (by rw [← HK.out]; decide)), cnt_no HI.out (.inr (by rw [← HK.out]; decide))]
            exact heap_setCell_same w2 _ 0 _ _ _ R2.out
          case measure => have := HI.out; simp [intOf]; omega
        · subst k0
          go_wp2_with fail
          go_roundw
          case rel =>
            refine ⟨j + 1, by omega, by have := HI.out; congr 1; omega, ?_, B2.out.setCell (Nat.le_refl _) _⟩
            rw [cnt_yes HI.out HQ.out.symm HK.out.symm, cnt_no HI.out (.inr (by rw [← HK.out]; decide)), cnt_no HI.out (.inr (by rw [← HK.out]; decide))]
            exact heap_setCell_same w2 _ 1 _ _ _ R2.out
          case measure => have := HI.out; simp [intOf]; omega
        · subst k0
          go_wp2_with fail
          go_roundw
          case rel =>
            refine ⟨j + 1, by omega, by have := HI.out; congr 1; omega, ?_, B2.out.setCell (Nat.le_refl _) _⟩
            rw [cnt_yes HI.out HQ.out.symm HK.out.symm, cnt_no HI.out (.inr (by rw [← HK.out]; decide)), cnt_no HI.out (.inr (by rw [← HK.out]; decide))]
            exact heap_setCell_same w2 _ 2 _ _ _ R2.out
          case measure => have := HI.out; simp [intOf]; omega
    · have hj3 : j = 403 := by omega
      subst hj3
      have hi4 : i = 400 := by omega
      subst hi4
      have e0 : cnt 0 403 = 8 := by decide +kernel
      have e1 : cnt 1 403 = 2 := by decide +kernel
      have e2 : cnt 2 403 = 1 := by decide +kernel
      rw [e0, e1, e2] at hrow
      have tw := hide (@twice_known n)
      have c1 := hide (class_any n wr (HT.out.next bel))
      have HR := hide hrow
      have BL := hide bel
      have hlt : w.heap.size < wr.heap.size := by
        rcases Nat.lt_or_ge w.heap.size wr.heap.size with h | h
        · exact h
        · rw [Array.getElem?_eq_none h] at hrow; cases hrow
      have HLT := hide hlt
      have ae := arr_eq
      have EN : Int.tmod a0 1099511627776 = n := HN.out.symm
      clear hrow bel hlt e0 e1 e2
      go_wp2_with fail
      refine c1.out.mono ?_
      rintro e w2 ⟨rfl, b2⟩
      have r2 := (b2.block _ HLT.out).trans HR.out
      have B2 := hide (bnext BL.out b2)
      have HLT2 := hide (Nat.lt_of_lt_of_le HLT.out b2.size)
      have c2 := hide (class_any (2 * n) w2 (HT.out.next B2.out))
      have R2 := hide r2
      clear r2 b2
      go_wp2_with fail
      refine c2.out.mono ?_
      rintro e w3 ⟨rfl, b3⟩
      have R3 := hide ((b3.block _ HLT2.out).trans R2.out)
      have B3 := hide (bnext B2.out b3)
      clear b3
      cases hq : known n
      · go_wp2_with (first | (refine wpList_load_row rfl 41 (.tmp 3) rfl w.heap.size rfl _ _ _ _ R3.out Tryd.underlying41 rfl (by kernel_rfl) ?_))
        go_ret
        exact ⟨rfl, B3.out⟩
      · by_cases hk : kindOf n = 0
        · by_cases hn8 : n = 128
          · go_wp2_with (first | (refine wpList_load_row rfl 41 (.tmp 3) rfl w.heap.size rfl _ _ _ _ R3.out Tryd.underlying41 rfl (by kernel_rfl) ?_))
            go_ret
            exact ⟨rfl, B3.out⟩
          · have h2 := tw.out hq hk hn8
            go_wp2_with (first | (refine wpList_load_row rfl 41 (.tmp 3) rfl w.heap.size rfl _ _ _ _ R3.out Tryd.underlying41 rfl (by kernel_rfl) ?_))
            go_ret
            exact ⟨rfl, B3.out⟩
        · go_wp2_with (first | (refine wpList_load_row rfl 41 (.tmp 3) rfl w.heap.size rfl _ _ _ _ R3.out Tryd.underlying41 rfl (by kernel_rfl) ?_))
          go_ret
          exact ⟨rfl, B3.out⟩
set_option maxRecDepth 100000 in
theorem cardClasses_lifted (os : Os) (started : os.Started) (H : Type) (enc : TypeId × Value → H) :
    ReturnsInHanded {} Tryd.checked os 6 .any (fun w args => (Rows.cardClassesSpec.pre enc Tryd.prog Tryd.f6 [] false w args ∧ laidMetH Tryd.prog laidTab w) ∧ sizedMet enc Tryd.prog Tryd.f6 (OpenSpec.ofChange Rows.cardClassesSpec) false w args)
      (Rows.cardClassesSpec.post enc Tryd.prog Tryd.f6 false true false false) := by
  refine returnsInHanded_of_change_and (C := Tryd.checked) (X := fun w _ => laidMetH Tryd.prog laidTab w) (fun _ _ _ hh h => h.of_heap hh) own started (by kernel_rfl) Tryd.func6
    (ChangeSpec.witness_at (enc := enc) (C := Tryd.checked) (os := os) (X := fun w _ => laidMetH Tryd.prog laidTab w) false (laidWorld os) #[.int .i64 0] 8 rfl (by kernel_rfl) (by kernel_rfl) (by kernel_rfl) (by kernel_rfl) (by kernel_rfl) (laidWorld_tab os _)) ?_
  intro W base args ds gs before hval0 hW _ _ hL _
  have hval : ∀ (j : Nat) t v, Tryd.f6.params[j]? = some t → args[j]? = some v → Value.okWide Tryd.prog W .any base t v := hval0
  have hW' := hW
  obtain ⟨p, q, hA0, hV, rfl, hfz, hnd⟩ := hW
  have hA : DataW.TrodAll enc Tryd.prog W 0 (fun _ => true) true Tryd.f6.params.toList args.toList ds p := hA0
  rw [Tryd.params6] at hA hval
  obtain ⟨v0, vs0, d0, ds0, p0, q0, hargs, rfl, rfl, h0, r0⟩ := trodAll_cons hA
  obtain ⟨rfl, rfl, rfl⟩ := trodAll_nil r0
  obtain rfl : args = #[v0] := by cases args; simp_all
  obtain ⟨rfl, rfl⟩ := trodVars_none hV
  obtain ⟨a0, rfl, rfl, rfl, w0⟩ := open_int Tryd.underlying3 (hval 0 3 v0 rfl rfl) h0
  clear hA0 hval0
  refine (cardClasses_walk a0 W w0 (laid_tab hL)).mono fun e W' ⟨he, bel⟩ => ?_
  subst he
  exact ⟨_, rfl, _, _, _, [], _, [], hW', trodAll_mk1 (shut_bool Tryd.underlying4 _), (trodAll_cons_mk (shut_int Tryd.underlying3 w0) trodAll_mk0), rfl, bel.frame _, fun h => by cases h⟩

theorem cardClasses_over : Rows.cardClassesRow.holds Tryd.pinned (OpenSpec.ofChange Rows.cardClassesSpec) :=
  OpenClaim.holds_of_wide 6 Tryd.f6 rfl rfl rfl rfl rfl rfl rfl ⟨rfl, rfl, rfl, rfl, rfl⟩ rfl rfl rfl rfl rfl (by kernel_rfl) Tryd.func6 (by kernel_rfl)
    (of_decide_eq_true (by kernel_rfl)) (by unfold Func.isWrapper; first | (rw [if_pos (by decide +kernel)]; kernel_rfl) | (rw [if_neg (by decide +kernel)]; exact ⟨rfl, rfl⟩))
    (fun os started H enc _ => cardClasses_lifted os started H enc)

theorem cardClasses_row : Rows.CardClassesSaid := cardClasses_over

theorem cardClasses_holds : Rows.CardClassesCardSaid :=
  Claim7.holds_tied_plain_at .later [] [.data] true (true, "fa813e7ee2e711e421d121c85e3db63a12c0d559205366ec6eb0bff58998939a") true
    cardClasses_row (fun _ h => by cases h) (by kernel_rfl) (fun _ h => by cases h) cardClasses_row_tie rfl ⟨rfl, rfl⟩ (by kernel_rfl) rfl
    (fun f fn hf hfn => by
      obtain rfl : f = 6 := Option.some.inj ((show Tryd.prog.funcNamed "phosphor/phosphorlaw03.CardClasses" = some 6 by kernel_rfl).symm.trans hf) |>.symm
      obtain rfl : fn = Tryd.f6 := (Option.some.inj (Tryd.func6.symm.trans hfn)).symm
      exact ⟨by kernel_rfl, fun j t ht => by
        rw [Tryd.params6] at ht
        rcases j with _ | j
        · obtain rfl : t = 3 := by simpa using ht.symm
          exact (show Tryd.prog.wantsStandIn 3 = false by kernel_rfl)
        · simp at ht⟩)
    (by kernel_rfl)
#print axioms cardClasses_holds
end Go.Proofs.YtlildknlkjoidaaDoor
