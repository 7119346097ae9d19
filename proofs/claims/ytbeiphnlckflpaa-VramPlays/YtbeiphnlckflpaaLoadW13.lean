/- Package vram: the contract of Load. -/
import Derived.Test.YtbeiphnlckflpaaLoad13
namespace Go.Proofs.Ytbeiphnlckflpaa
open Go.RowKit
set_option linter.unusedVariables false

theorem cut_five (b : Nat) (w : World) : (Instr.sliceAt 44 (.pointer (some ⟨b, 0, none⟩)) none none none).run Try.prog w = .ok (.slice (some ⟨b, 0, none⟩) 5 5) w := by
  have hl : Try.prog.arrayLen 44 = 5 := by kernel_rfl
  have he : Try.prog.elem 44 = 3 := by kernel_rfl
  rw [run_sliceAt_array_all w _ _ (by rw [hl, he]; exact Try.underlying44), hl, he, Try.sizeOf3]
  simp only [Result.andThen_ok, slicedAt, Nat.mul_one]
  rw [if_neg (by omega)]
  rfl
/-- Block g holds a row of numbers. -/
def HasRow (w : World) (g : Nat) (l : List Value) : Prop := w.heap[g]? = some (.cells l.toArray 3 (0, 0))
theorem HasRow.next {w w' : World} {g : Nat} {l : List Value} (h : HasRow w g l) (k : Below w.heap.size w w') : HasRow w' g l := (k.block g (lt_of_block h)).trans h
theorem HasRow.words {w : World} {g : Nat} {f : Nat → Int} (h : HasRow w g (wordsM f)) : ∀ j, j < 32768 → w.cell? ⟨g, 0 + j, none⟩ = some (.int .i64 (f j)) := by
  intro j hj
  rw [Nat.zero_add, cell_of_row w g j _ _ _ h, List.getElem?_toArray]
  exact wordsM_at f j hj
def fiveAt (wr rd st lo bu : Int) (j : Nat) : Int := [wr, rd, st, lo, bu].getD j 0
theorem five_cells {w : World} {g : Nat} {T : TypeId} {wr rd st lo bu : Int} (h : w.heap[g]? = some (.cells #[.int .i64 wr, .int .i64 rd, .int .i64 st, .int .i64 lo, .int .i64 bu] T (0, 0))) : ∀ j, j < 5 → w.cell? ⟨g, 0 + j, none⟩ = some (.int .i64 (fiveAt wr rd st lo bu j)) := by
  intro j hj
  rw [Nat.zero_add, cell_of_row w g j _ _ _ h]
  have : j = 0 ∨ j = 1 ∨ j = 2 ∨ j = 3 ∨ j = 4 := by omega
  rcases this with rfl | rfl | rfl | rfl | rfl <;> rfl
theorem five_words {wr rd st lo bu : Int} (h1 : IsWord wr) (h2 : IsWord rd) (h3 : IsWord st) (h4 : IsWord lo) (h5 : IsWord bu) : ∀ j, j < 5 → IsWord (fiveAt wr rd st lo bu j) := by
  intro j hj
  have : j = 0 ∨ j = 1 ∨ j = 2 ∨ j = 3 ∨ j = 4 := by omega
  rcases this with rfl | rfl | rfl | rfl | rfl
  · exact h1
  · exact h2
  · exact h3
  · exact h4
  · exact h5
theorem load_copy (f : Nat → Int) (wr rd st lo bu : Int) : splice (.bool true :: (wordsM (fun _ => 0) ++ tailM wr rd st lo bu)) 1 (wordsM f) = .bool true :: (wordsM f ++ tailM wr rd st lo bu) := by
  unfold splice
  rw [List.take_succ_cons, List.take_zero, wordsM_length, show 1 + 32768 = 32768 + 1 from rfl, List.drop_succ_cons, List.drop_append_of_le_length (by rw [wordsM_length]; exact Nat.le_refl _), List.drop_of_length_le (by rw [wordsM_length]; exact Nat.le_refl _)]
  simp only [List.cons_append, List.nil_append]
theorem load_short (gw : Nat) (wr rd st lo bu : Int) (w : World) (len cap : Nat) (hn : ¬ ((len : Int) = 32768))
    : Calls Try.prog 25 #[.slice (some ⟨gw, 0, none⟩) len cap, .agg #[.int .i64 wr, .int .i64 rd, .int .i64 st, .int .i64 lo, .int .i64 bu]] w fun e w' => e = .returned (.tuple #[.pointer none, .bool false]) ∧ Below w.heap.size w w' := by
  obtain ⟨wa, hwa⟩ : ∃ wa, wa = w.alloc (.cells #[.int .i64 wr, .int .i64 rd, .int .i64 st, .int .i64 lo, .int .i64 bu] 44) := ⟨_, rfl⟩
  have A1 := hide (show wa.heap[w.heap.size]? = some (.cells #[.int .i64 wr, .int .i64 rd, .int .i64 st, .int .i64 lo, .int .i64 bu] 44 (0, 0)) by rw [hwa]; exact heap_alloc_new _ _)
  have BA := hide (show Below w.heap.size w wa by rw [hwa]; exact (Below.refl _ w).alloc (Nat.le_refl _) _)
  have hl := lt_of_block A1.out
  have k0 := kept_cell ((cell_of_row wa _ 0 _ _ _ A1.out).trans rfl) hl
  have k1 := kept_cell ((cell_of_row wa _ 1 _ _ _ A1.out).trans rfl) hl
  have k2 := kept_cell ((cell_of_row wa _ 2 _ _ _ A1.out).trans rfl) hl
  have k3 := kept_cell ((cell_of_row wa _ 3 _ _ _ A1.out).trans rfl) hl
  have k4 := kept_cell ((cell_of_row wa _ 4 _ _ _ A1.out).trans rfl) hl
  go_enter Try.func25, Try.ntmps25
  go_wp2_with fail
  rw [← hwa]
  clear hwa
  haveI := kept_some wa
  refine wp_region_kept (by kernel_rfl) (by kernel_rfl) ?_
  repeat (go_big_quiet_step (fail))
  refine wpQuiet_nil ?_
  rintro _ ⟨wk, rfl⟩
  clear k0 k1 k2 k3 k4 hl
  have BK := hide (bnext BA.out wk.below)
  have A2 := hide ((wk.below.block _ (lt_of_block A1.out)).trans A1.out)
  clear BA A1
  go_wp2_with fail
  go_ret2
  exact ⟨rfl, BK.out⟩
theorem load_great (gw : Nat) (wr rd st lo bu : Int) (w : World) (f : Nat → Int) (hr : HasRow w gw (wordsM f)) (i : Nat) (hi : i < 32768) (hz : ∀ j, j < i → IsWord (f j)) (hn : ¬ IsWord (f i)) : Calls Try.prog 25 #[.slice (some ⟨gw, 0, none⟩) 32768 32768, .agg #[.int .i64 wr, .int .i64 rd, .int .i64 st, .int .i64 lo, .int .i64 bu]] w fun e w' => e = .returned (.tuple #[.pointer none, .bool false]) ∧ Below w.heap.size w w' := by
  have HR := hide hr
  have HI := hide hi
  have HZ := hide hz
  have HN := hide hn
  clear hr hi hz hn
  obtain ⟨wa, hwa⟩ : ∃ wa, wa = w.alloc (.cells #[.int .i64 wr, .int .i64 rd, .int .i64 st, .int .i64 lo, .int .i64 bu] 44) := ⟨_, rfl⟩
  have A1 := hide (show wa.heap[w.heap.size]? = some (.cells #[.int .i64 wr, .int .i64 rd, .int .i64 st, .int .i64 lo, .int .i64 bu] 44 (0, 0)) by rw [hwa]; exact heap_alloc_new _ _)
  have BA := hide (show Below w.heap.size w wa by rw [hwa]; exact (Below.refl _ w).alloc (Nat.le_refl _) _)
  have hl := lt_of_block A1.out
  have k0 := kept_cell ((cell_of_row wa _ 0 _ _ _ A1.out).trans rfl) hl
  have k1 := kept_cell ((cell_of_row wa _ 1 _ _ _ A1.out).trans rfl) hl
  have k2 := kept_cell ((cell_of_row wa _ 2 _ _ _ A1.out).trans rfl) hl
  have k3 := kept_cell ((cell_of_row wa _ 3 _ _ _ A1.out).trans rfl) hl
  have k4 := kept_cell ((cell_of_row wa _ 4 _ _ _ A1.out).trans rfl) hl
  go_enter Try.func25, Try.ntmps25
  go_wp2_with fail
  rw [← hwa]
  clear hwa
  haveI := kept_some wa
  refine wp_region_kept (by kernel_rfl) (by kernel_rfl) ?_
  repeat (go_big_quiet_step (fail))
  refine wpQuiet_nil ?_
  rintro _ ⟨wk, rfl⟩
  clear k0 k1 k2 k3 k4 hl
  have BK := hide (bnext BA.out wk.below)
  have A2 := hide ((wk.below.block _ (lt_of_block A1.out)).trans A1.out)
  clear BA A1
  have HK := hide (HR.out.next BK.out)
  go_wp2_with fail
  refine (areWords_no gw 0 32768 32768 f _ HK.out.words (by omega) i HI.out HZ.out HN.out).mono ?_
  rintro e w2 ⟨rfl, hw⟩
  subst w2
  go_wp2_with fail
  go_ret2
  exact ⟨rfl, BK.out⟩
theorem load_low (gw : Nat) (wr rd st lo bu : Int) (w : World) (f : Nat → Int) (hr : HasRow w gw (wordsM f)) (hz : ∀ j, IsWord (f j)) (h1 : IsWord wr) (h2 : IsWord rd) (h3 : IsWord st) (h4 : IsWord lo) (h5 : IsWord bu) (hn : ¬ lo = lo % 256) : Calls Try.prog 25 #[.slice (some ⟨gw, 0, none⟩) 32768 32768, .agg #[.int .i64 wr, .int .i64 rd, .int .i64 st, .int .i64 lo, .int .i64 bu]] w fun e w' => e = .returned (.tuple #[.pointer none, .bool false]) ∧ Below w.heap.size w w' := by
  have HR := hide hr
  have HZ := hide hz
  have HF := hide (five_words h1 h2 h3 h4 h5)
  clear hr hz h1 h2 h3 h4 h5
  have c5 := cut_five w.heap.size
  obtain ⟨wa, hwa⟩ : ∃ wa, wa = w.alloc (.cells #[.int .i64 wr, .int .i64 rd, .int .i64 st, .int .i64 lo, .int .i64 bu] 44) := ⟨_, rfl⟩
  have A1 := hide (show wa.heap[w.heap.size]? = some (.cells #[.int .i64 wr, .int .i64 rd, .int .i64 st, .int .i64 lo, .int .i64 bu] 44 (0, 0)) by rw [hwa]; exact heap_alloc_new _ _)
  have BA := hide (show Below w.heap.size w wa by rw [hwa]; exact (Below.refl _ w).alloc (Nat.le_refl _) _)
  have hl := lt_of_block A1.out
  have k0 := kept_cell ((cell_of_row wa _ 0 _ _ _ A1.out).trans rfl) hl
  have k1 := kept_cell ((cell_of_row wa _ 1 _ _ _ A1.out).trans rfl) hl
  have k2 := kept_cell ((cell_of_row wa _ 2 _ _ _ A1.out).trans rfl) hl
  have k3 := kept_cell ((cell_of_row wa _ 3 _ _ _ A1.out).trans rfl) hl
  have k4 := kept_cell ((cell_of_row wa _ 4 _ _ _ A1.out).trans rfl) hl
  go_enter Try.func25, Try.ntmps25
  go_wp2_with fail
  rw [← hwa]
  clear hwa
  haveI := kept_some wa
  refine wp_region_kept (by kernel_rfl) (by kernel_rfl) ?_
  repeat (go_big_quiet_step (fail))
  refine wpQuiet_nil ?_
  rintro _ ⟨wk, rfl⟩
  clear k0 k1 k2 k3 k4 hl
  have BK := hide (bnext BA.out wk.below)
  have A2 := hide ((wk.below.block _ (lt_of_block A1.out)).trans A1.out)
  clear BA A1
  have HK := hide (HR.out.next BK.out)
  go_wp2_with fail
  refine (areWords_yes gw 0 32768 32768 f _ HK.out.words (by omega) (fun j _ => HZ.out j)).mono ?_
  rintro e w2 ⟨rfl, hw⟩
  subst w2
  go_wp2_with fail
  refine (areWords_yes w.heap.size 0 5 5 (fiveAt wr rd st lo bu) _ (five_cells A2.out) (by omega) HF.out).mono ?_
  rintro e w2 ⟨rfl, hw⟩
  subst w2
  go_wp2_with (first | (go_at_call 29; refine (byte_any _ _).mono ?_; rintro e w' ⟨rfl, hw⟩; subst w'))
  go_ret2
  exact ⟨rfl, BK.out⟩
theorem load_ok (gw : Nat) (wr rd st lo bu : Int) (w : World) (f : Nat → Int) (hr : HasRow w gw (wordsM f)) (hz : ∀ j, IsWord (f j)) (h1 : IsWord wr) (h2 : IsWord rd) (h3 : IsWord st) (h4 : IsWord lo) (h5 : IsWord bu) (hn : lo % 256 = lo) : Calls Try.prog 25 #[.slice (some ⟨gw, 0, none⟩) 32768 32768, .agg #[.int .i64 wr, .int .i64 rd, .int .i64 st, .int .i64 lo, .int .i64 bu]] w fun e w' => ∃ g, e = .returned (.tuple #[.pointer (some ⟨g, 0, none⟩), .bool true]) ∧ w.heap.size ≤ g ∧ HasM w' g true f wr rd st lo bu ∧ Below w.heap.size w w' := by
  have HR := hide hr
  have HZ := hide hz
  have HF := hide (five_words h1 h2 h3 h4 h5)
  clear hr hz h1 h2 h3 h4 h5
  have c5 := cut_five w.heap.size
  obtain ⟨wa, hwa⟩ : ∃ wa, wa = w.alloc (.cells #[.int .i64 wr, .int .i64 rd, .int .i64 st, .int .i64 lo, .int .i64 bu] 44) := ⟨_, rfl⟩
  have A1 := hide (show wa.heap[w.heap.size]? = some (.cells #[.int .i64 wr, .int .i64 rd, .int .i64 st, .int .i64 lo, .int .i64 bu] 44 (0, 0)) by rw [hwa]; exact heap_alloc_new _ _)
  have BA := hide (show Below w.heap.size w wa by rw [hwa]; exact (Below.refl _ w).alloc (Nat.le_refl _) _)
  have hl := lt_of_block A1.out
  have k0 := kept_cell ((cell_of_row wa _ 0 _ _ _ A1.out).trans rfl) hl
  have k1 := kept_cell ((cell_of_row wa _ 1 _ _ _ A1.out).trans rfl) hl
  have k2 := kept_cell ((cell_of_row wa _ 2 _ _ _ A1.out).trans rfl) hl
  have k3 := kept_cell ((cell_of_row wa _ 3 _ _ _ A1.out).trans rfl) hl
  have k4 := kept_cell ((cell_of_row wa _ 4 _ _ _ A1.out).trans rfl) hl
  go_enter Try.func25, Try.ntmps25
  go_wp2_with fail
  rw [← hwa]
  clear hwa
  haveI := kept_some wa
  refine wp_region_kept (by kernel_rfl) (by kernel_rfl) ?_
  repeat (go_big_quiet_step (fail))
  refine wpQuiet_nil ?_
  rintro _ ⟨wk, rfl⟩
  clear k0 k1 k2 k3 k4 hl
  have BK := hide (bnext BA.out wk.below)
  have A2 := hide ((wk.below.block _ (lt_of_block A1.out)).trans A1.out)
  clear BA A1
  have HK := hide (HR.out.next BK.out)
  go_wp2_with fail
  refine (areWords_yes gw 0 32768 32768 f _ HK.out.words (by omega) (fun j _ => HZ.out j)).mono ?_
  rintro e w2 ⟨rfl, hw⟩
  subst w2
  go_wp2_with fail
  refine (areWords_yes w.heap.size 0 5 5 (fiveAt wr rd st lo bu) _ (five_cells A2.out) (by omega) HF.out).mono ?_
  rintro e w2 ⟨rfl, hw⟩
  subst w2
  clear A2 HF c5
  have HG := hide BK.out.size
  obtain ⟨g, hg⟩ : ∃ g, g = wk.val.heap.size := ⟨_, rfl⟩
  have ca := cut_all wk.val.heap.size
  obtain ⟨R0, hR0⟩ : ∃ R0, R0 = Value.bool true :: (wordsM (fun _ => 0) ++ tailM wr rd st lo bu) := ⟨_, rfl⟩
  have hb2 : rowM true (fun _ => 0) wr rd st lo bu = R0.toArray := by rw [hR0]; rfl
  have HB : Hid (∀ w, (Instr.build 48 #[(0, .bool true), (2, .int .i64 wr), (3, .int .i64 rd), (4, .int .i64 st), (5, .int .i64 lo), (6, .int .i64 bu)]).run Try.prog w = .ok (.agg R0.toArray) w) := by rw [← hb2]; exact run_load wr rd st lo bu
  obtain ⟨X, hX⟩ : ∃ X, X = wordsM f := ⟨_, rfl⟩
  have XL : Hid (X.length = Nat.min 32768 32768) := by rw [hX]; exact wordsM_length f
  have XO := hide (show ∀ v ∈ X, v.oneCell' = true by
    rw [hX]
    intro v hv
    obtain ⟨j, _, rfl⟩ := List.mem_map.1 hv
    rfl)
  have XF := hide (show 1 + X.length ≤ R0.length by rw [hX, hR0, List.length_cons, List.length_append, wordsM_length, wordsM_length]; show 1 + 32768 ≤ 32768 + 5 + 1; omega)
  have NR := hide (show (wk.val.alloc (.cells R0.toArray 48)).heap[wk.val.heap.size]? = some (.cells R0.toArray 48 (0, 0)) from heap_alloc_new _ _)
  have NB := hide (BK.out.alloc BK.out.size (.cells R0.toArray 48))
  have XS := hide (show ∀ j v, X[j]? = some v → (wk.val.alloc (.cells R0.toArray 48)).cell? (Addr.add ⟨gw, 0, none⟩ j) = some v by
    intro j v hv
    rw [add_none, Nat.zero_add]
    have k := HK.out.next ((Below.refl _ wk.val).alloc (Nat.le_refl _) (.cells R0.toArray 48))
    rw [cell_of_row _ gw j _ _ _ k, List.getElem?_toArray, ← hX]
    exact hv)
  have HX := hide hX
  have HR0 := hide hR0
  clear hX hR0 hb2 hg HK
  go_wp2_with (first
    | (go_at_call 29; refine (byte_any _ _).mono ?_; rintro e w' ⟨rfl, hw⟩; subst w')
    | (refine wpList_built rfl 48 _ rfl #[(0, .bool true), (2, .int .i64 wr), (3, .int .i64 rd), (4, .int .i64 st), (5, .int .i64 lo), (6, .int .i64 bu)] (by simp [Act.eval]) _ HB.out ?_)
    | (refine wpList_copy_splice rfl (.tmp 51) (.tmp 52) 30 30 rfl 3 Try.underlying30 (by kernel_rfl) _ _ _ _ _ _ rfl rfl wk.val.heap.size 1 R0 48 NR.out X XL.out (fun _ => ⟨rfl, _, rfl, XS.out⟩) XF.out XO.out w.heap.size w NB.out HG.out ?_; intro w2 hg2 hb2))
  go_ret2
  refine ⟨_, rfl, HG.out, ?_, hb2⟩
  have k := hg2.out
  rw [HX.out, HR0.out, load_copy] at k
  exact k
end Go.Proofs.Ytbeiphnlckflpaa
