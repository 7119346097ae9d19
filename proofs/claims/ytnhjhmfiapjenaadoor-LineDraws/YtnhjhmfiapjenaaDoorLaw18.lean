/- The law's maker of tables, and package sprites' Of: their contracts. -/
import Derived.Test.YtnhjhmfiapjenaaDoorSpr18
import Derived.Test.YtnhjhmfiapjenaaDoorTab256
import Derived.Test.YtnhjhmfiapjenaaDoorGenA
namespace Go.Proofs.YtnhjhmfiapjenaaDoor
open Go.RowKit
set_option linter.unusedVariables false

/-- Block b holds a table. -/
def HasTb (w : World) (b : Nat) (T : Nat → Int) : Prop := w.heap[b]? = some (.cells (tabL T).toArray 30 (0, 0))
theorem HasTb.lt {w : World} {b : Nat} {T : Nat → Int} (h : HasTb w b T) : b < w.heap.size := lt_of_block h
theorem HasTb.next {w : World} {b : Nat} {T : Nat → Int} (h : HasTb w b T) {w' : World} (k : Below w.heap.size w w') : HasTb w' b T := (k.block b (lt_of_block h)).trans h
theorem HasTb.at {w : World} {b : Nat} {T : Nat → Int} (h : HasTb w b T) (j : Nat) (hj : j < 256) : w.cell? ⟨b, j, none⟩ = some (.int .i64 (T j)) := by rw [cell_of_row w b j _ _ _ h, List.getElem?_toArray]; exact valsOf_at _ _ _ hj
theorem HasTb.frozen {w : World} {b : Nat} {T : Nat → Int} (h : HasTb w b T) (j : Nat) : w.frozen? ⟨b, j, none⟩ = false := frozen_of_row w b j _ _ h
theorem tabL_ext {T U : Nat → Int} (e : ∀ j, j < 256 → T j = U j) : tabL T = tabL U := valsOf_ext fun j hj => by rw [e j hj]
theorem HasTb.ext {w : World} {b : Nat} {T : Nat → Int} (h : HasTb w b T) {U : Nat → Int} (e : ∀ j, j < 256 → T j = U j) : HasTb w b U := by
  unfold HasTb
  rw [← tabL_ext e]
  exact h
theorem HasTb.set {w : World} {b : Nat} {T : Nat → Int} (h : HasTb w b T) (x : Nat) (v : Int) : HasTb (w.setCell ⟨b, x, none⟩ (.int .i64 v)) b (fun j => if j = x then v else T j) := by
  have e := heap_setCell_same w b x _ _ (.int .i64 v) h
  rw [List.setIfInBounds_toArray] at e
  unfold HasTb
  rw [e]
  unfold tabL
  rw [valsOf_set, valsOf_ext (h := fun j => if j = x then Value.int .i64 v else Value.int .i64 (T j)) (k := fun j => Value.int .i64 (if j = x then v else T j)) fun j hj => by split <;> rfl]
theorem tabL_length (T : Nat → Int) : (tabL T).length = 256 := valsOf_length _ _
theorem tabL_size (T U : Nat → Int) : (tabL T).toArray.size = (tabL U).toArray.size := by rw [List.size_toArray, List.size_toArray, tabL_length, tabL_length]
theorem info_T (T : Nat → Int) : (Tryd.prog.info? 30).map (·.size) = some (tabL T).toArray.size := info_tab _ (tabL_length T)
theorem tabL_one (T : Nat → Int) : (tabL T).toArray.all (·.oneCell') = true := by
  rw [← Array.all_toList, List.all_eq_true]
  exact valsOf_one (h := fun j => Value.int .i64 (T j)) 256 fun _ => rfl
theorem zero_T (w : World) : (zeroValue 30).run Tryd.prog w = .ok (.agg (tabL fun _ => 0).toArray) w := by
  rw [zero_tab, valsOf_zeros]
  rfl
/-- The words of a list, and zeros behind them. -/
def listT (len : Nat) (zs : List Int) (j : Nat) : Int := if j < len then zs.getD j 0 else 0
def listTo (len : Nat) (zs : List Int) (i j : Nat) : Int := if j < i then listT len zs j else 0
theorem table_is (a : Option Addr) (len cap : Nat) (zs : List Int) (w : World) (h : IsRow .i64 w a len cap zs) :
    Calls Tryd.prog 7 #[.slice a len cap] w fun e w' => e = .returned (.agg (tabL (listT len zs)).toArray) ∧ Below w.heap.size w w' := by
  have HR := hide h
  clear h
  obtain ⟨M, hM⟩ : ∃ M, min len 256 = M := ⟨_, rfl⟩
  have hM1 : M ≤ 256 ∧ M ≤ len ∧ (M = len ∨ M = 256) := by omega
  clear hM
  go_enter Tryd.func7, Tryd.ntmps7
  go_wp2_with (first | (refine wpList_alloced rfl 30 rfl _ zero_T ?_))
  refine under_name fun wa hwa => ?_
  obtain ⟨b0, b1, hs, BB⟩ := two_named hwa
  have R0 := hide (show HasTb wa w.heap.size (fun _ => 0) from b0)
  have T0 := hide ((show HasTb wa (w.heap.size + 1) (fun _ => 0) from b1).ext (U := listTo len zs 0) fun j _ => by unfold listTo; rw [if_neg (by omega)])
  have B0 := hide BB
  clear hwa b0 b1 hs BB
  obtain ⟨zt, hzt⟩ : ∃ z, w.heap.size + 1 = z := ⟨_, rfl⟩
  obtain ⟨zr, hzr⟩ : ∃ z, w.heap.size = z := ⟨_, rfl⟩
  have HZ := hide (show zr ≠ zt ∧ w.heap.size ≤ zt ∧ w.heap.size ≤ zr by omega)
  rw [hzt] at T0 ⊢
  rw [hzr] at R0 ⊢
  clear hzt hzr
  go_loopw [4] (fun si wr => ∃ k : Nat, k ≤ M ∧ si = .int .i64 (k : Int) ∧ HasTb wr zt (listTo len zs k) ∧ HasTb wr zr (fun _ => 0) ∧ Below w.heap.size w wr) (fun si _ => M - (intOf si).toNat)
  case atStart => exact ⟨0, Nat.zero_le _, rfl, T0.out, R0.out, B0.out⟩
  case round =>
    obtain ⟨k, hk, rfl, ht, hr, hb⟩ := hrel
    have TK := hide ht
    have RK := hide hr
    have BK := hide hb
    clear ht hr hb T0 R0 B0
    by_cases hlt : k < M
    · obtain ⟨bb, off, rfl, hbb, _, _, hc⟩ := IsRow.cells HR.out (by omega)
      have ck := (BK.out.cell (p := ⟨bb, off + k, none⟩) hbb).trans (hc k (by omega)).1
      have hbr := Nat.lt_of_lt_of_le hbb BK.out.size
      have cj := TK.out.at k (by omega)
      have zj := TK.out.frozen k
      obtain ⟨v, hv⟩ : ∃ v, zs.getD k 0 = v := ⟨_, rfl⟩
      obtain ⟨u, hu⟩ : ∃ u, listTo len zs k k = u := ⟨_, rfl⟩
      rw [hv] at ck
      rw [hu] at cj
      have HV := hide hv
      have l1 : (k : Int) < len := by omega
      have l2 : k < 256 := by omega
      have l3 : k < len := by omega
      clear hv hu hc hbb
      set_option maxRecDepth 20000 in
      go_wp2_with fail
      go_roundw
      case rel =>
        refine ⟨k + 1, by omega, by go_num, ?_, ?_, ?_⟩
        · refine HasTb.ext (TK.out.set k v) fun j _ => ?_
          unfold listTo
          by_cases e : j = k
          · rw [if_pos e, if_pos (by omega), e]; unfold listT; rw [if_pos l3, HV.out]
          · rw [if_neg e]
            by_cases q : j < k
            · rw [if_pos q, if_pos (by omega)]
            · rw [if_neg q, if_neg (by omega)]
        · exact (Below.heap_setCell _ _ _ _ HZ.out.1).trans RK.out
        · exact BK.out.setCell (p := ⟨zt, k, none⟩) HZ.out.2.1 _
      case measure => simp [intOf]; omega
    · obtain rfl : k = M := by omega
      have TE := hide (TK.out.ext (U := listT len zs) fun j hj => by
        unfold listTo
        by_cases q : j < k
        · rw [if_pos q]
        · rw [if_neg q]; unfold listT; rw [if_neg (by omega)])
      have TF := hide (show wr.heap[zt]? = some (.cells (tabL (listT len zs)).toArray 30 (0, 0)) from TE.out)
      have I5 := hide (info_T (listT len zs))
      have T5 := hide (tabL_one (listT len zs))
      have S5 := hide (tabL_size (fun _ => 0) (listT len zs))
      by_cases hl : k < len
      · have l1 : decide ((k : Int) < len) = true := decide_eq_true (by omega)
        have l2 : decide ((k : Int) < 256) = false := decide_eq_false (by omega)
        set_option maxRecDepth 20000 in
        go_wp2_with (first
          | (refine wpList_load_row rfl 30 (.tmp 3) rfl zt rfl _ _ _ _ TF.out Tryd.underlying30 rfl I5.out ?_)
          | (refine wpList_store_row rfl 30 (.tmp 2) (.tmp 21) rfl zr _ rfl rfl 30 _ RK.out I5.out S5.out T5.out ?_)
          | (refine bodyPost_ret (results_cell_row rfl _ _ zr 30 _ (0, 0) _ rfl (setRow_heap _ _ _ _ _ _ RK.out) Tryd.underlying30 rfl I5.out) rfl ⟨rfl, below_setRow BK.out HZ.out.2.2 _⟩))
      · have l1 : decide ((k : Int) < len) = false := decide_eq_false (by omega)
        set_option maxRecDepth 20000 in
        go_wp2_with (first
          | (refine wpList_load_row rfl 30 (.tmp 3) rfl zt rfl _ _ _ _ TF.out Tryd.underlying30 rfl I5.out ?_)
          | (refine wpList_store_row rfl 30 (.tmp 2) (.tmp 21) rfl zr _ rfl rfl 30 _ RK.out I5.out S5.out T5.out ?_)
          | (refine bodyPost_ret (results_cell_row rfl _ _ zr 30 _ (0, 0) _ rfl (setRow_heap _ _ _ _ _ _ RK.out) Tryd.underlying30 rfl I5.out) rfl ⟨rfl, below_setRow BK.out HZ.out.2.2 _⟩))
end Go.Proofs.YtnhjhmfiapjenaaDoor
