/- Package dma: the contract of Table. -/
import Derived.Test.YtndphclogkmonaaWordsW13
import Derived.Test.YtndphclogkmonaaLaw16
namespace Go.Proofs.Ytndphclogkmonaa
open Go.RowKit
set_option linter.unusedVariables false

/-- A variable of zeros, as one step of the walk: ahead of what the walk knows of zero values by itself. -/
theorem wpList_alloced {P : Program} {ops : Array Oper} {rest : List Oper} {o : Oper} {a : Act} {w : World} {Q : Exit → Act → World → Prop} (hg : o.guard = none) (t : TypeId) (ho : o.op = .alloc t) (R : Array Value) (h : ∀ w, (zeroValue t).run P w = .ok (.agg R) w)
    (hK : wpList P ops Q rest (a.put o.dst (.pointer (some ⟨w.heap.size, 0, none⟩))) (w.alloc (.cells R t))) : wpList P ops Q (o :: rest) a w :=
  wpList_plain hg fun K hK' => by
    have e : (Instr.alloc t true (.tuple #[])).run P w = .ok (.pointer (some ⟨w.heap.size, 0, none⟩)) (w.alloc (.cells R t)) := by
      unfold Instr.alloc
      simp only [Sem.run_bind, h, Result.andThen_ok]
      rfl
    unfold Oper.wp execOp
    simp only [ho, Sem.run_bind, e, Result.andThen_ok]
    exact hK' _ _ hK
theorem zero_tab (w : World) : (zeroValue 35).run Try.prog w = .ok (.agg (zerosL 256).toArray) w := by kernel_rfl
theorem info_tab (l : List Value) (h : l.length = 256) : (Try.prog.info? 35).map (·.size) = some l.toArray.size := by
  rw [List.size_toArray, h]
  kernel_rfl
theorem cut_tab (b : Nat) (w : World) : (Instr.sliceAt 35 (.pointer (some ⟨b, 0, none⟩)) none none none).run Try.prog w = .ok (.slice (some ⟨b, 0, none⟩) 256 256) w := by
  have hl : Try.prog.arrayLen 35 = 256 := by kernel_rfl
  have he : Try.prog.elem 35 = 3 := by kernel_rfl
  rw [run_sliceAt_array_all w _ _ (by rw [hl, he]; exact Try.underlying35), hl, he, Try.sizeOf3]
  simp only [Result.andThen_ok, slicedAt, Nat.mul_one]
  rw [if_neg (by omega)]
  rfl
theorem splice_whole (l m : List Value) (h : l.length = m.length) : splice l 0 m = m := by
  unfold splice
  rw [List.take_zero, Nat.zero_add, ← h, List.drop_length]
  simp
/-- A call of a Go function, as one step of a region that draws: met by its contract. -/
theorem step_call {P : Program} {ops : Array Oper} {o : Oper} {a : Act} {w : World} {K : Act → World → Prop} {Q : Exit → Act → World → Prop} {E : Prop} (hgd : o.guard = none) (f : FuncId) (xs : Array Operand) (ts : Array TypeId)
    (ho : o.op = .call { callee := .value (.func f), args := xs, argTypes := ts }) (fn : Func) (hf : P.funcs[f]? = some fn) (hn : (fn.name == "runtime.NumGoroutine") = false) (hb : fn.body.isNone = false) (vals : Array Value) (hv : xs.map a.eval = vals) (h : Calls P f vals w fun e w' => ∃ v, e = .returned v ∧ K (a.put o.dst v) w') :
    if Region.wanted o (yielded ops a.tmps) = true then Oper.wp P o a w K Q else E := by
  have hw : Region.wanted o (yielded ops a.tmps) = true := by simp [Region.wanted, hgd]
  rw [if_pos hw]
  have e : (execOp a.eval o).run P w = .ok (.enter f vals) w := by
    simp [execOp, ho, resolve, invoke, hv, Result.andThen, Act.eval, Deferred.ofValue, callFunc, hf]
    simp at hn
    rw [if_neg hn, if_neg (by intro hh; rw [hh] at hb; cases hb)]
  unfold Oper.wp
  rw [e]
  refine h.mono ?_
  rintro e w' ⟨v, rfl, hk⟩
  exact hk
theorem told_cells {w : World} {g : Nat} {f : Nat → Int} {p : Int} (h : w.heap[g]? = some (.cells (toldL f p 256).toArray 3 (0, 0))) : ∀ j v, (toldL f p 256)[j]? = some v → w.cell? (Addr.add ⟨g, 0, none⟩ j) = some v := by
  intro j v hv
  rw [add_none, Nat.zero_add, cell_of_row w g j _ _ _ h, List.getElem?_toArray]
  exact hv
theorem toldL_one (f : Nat → Int) (p : Int) (N : Nat) : ∀ v ∈ toldL f p N, v.oneCell' = true := by
  intro v hv
  obtain ⟨j, _, rfl⟩ := List.mem_map.1 hv
  rfl
set_option maxHeartbeats 1000000 in
theorem table_is (b : Nat) (f : Nat → Int) (wr rd st lo bu : Int) (w : World) (h : HasM w b true f wr rd st lo bu) (n p : Int) (hp : n % 65536 = p) :
    Calls Try.prog 15 #[.pointer (some ⟨b, 0, none⟩), .int .i64 n] w fun e w' => e = .returned (.agg (toldL f p 256).toArray) ∧ Below w.heap.size w w' := by
  have CU := cut_tab (w.heap.size + 1)
  have T1 := hide (toldL_one f p 256)
  have T2 := hide (show (toldL f p 256).length = Nat.min 256 256 from toldL_length f p 256)
  have T3 := hide (show 0 + (toldL f p 256).length ≤ (zerosL 256).length by rw [zerosL_length, toldL_length]; omega)
  have H := hide h
  clear h
  go_enter Try.func15, Try.ntmps15
  go_wp2_with (first | (refine wpList_alloced rfl 35 rfl _ zero_tab ?_))
  refine under_name fun wa hwa => ?_
  obtain ⟨b0, b1, hs, BB⟩ := two_named hwa
  clear hwa
  simp only [Act.put, List.setIfInBounds_toArray, List.set_cons_succ, List.set_cons_zero]
  rw [show (w.alloc (Obj.cells (zerosL 256).toArray 35)).heap.size = w.heap.size + 1 by simp]
  have R0 := hide b0
  have R1 := hide b1
  have BA := hide BB
  have HS := hide hs
  have HA := hide (H.out.next BB)
  clear b0 b1 hs BB H
  obtain ⟨z, hz⟩ : ∃ z, w.heap.size = z := ⟨_, rfl⟩
  rw [hz] at R0 R1 HS CU ⊢
  have HZ := hide hz
  clear hz
  go_region_law (first
    | (refine step_copy_splice rfl (.tmp 6) (.tmp 9) 22 22 rfl 3 Try.underlying22 (by kernel_rfl) _ _ _ _ _ _ rfl rfl (z + 1) 0 (zerosL 256) 35 R3.out (toldL f p 256) T2.out (fun _ => ⟨rfl, _, rfl, S3.out⟩) T3.out T1.out (z + 1) wa B3.out (Nat.le_refl _) ?_; intro w4 hg4 hb4)
    | (refine step_call rfl 21 _ _ rfl _ Try.func21 (by kernel_rfl) (by kernel_rfl) #[.pointer (some ⟨b, 0, none⟩), .int .i64 n, .int .i64 256] (by simp [Act.eval, Act.put]) ?_; refine under_calls fun w2 hw2 => ?_
       have n2 : Below wa.heap.size wa w2 := by rw [hw2]; exact (Below.refl _ _).drew
       have HW := hide (HA.out.next n2)
       clear hw2
       refine (words_is b f _ _ _ _ _ w2 HW.out n 256 p hp (by omega) (by omega)).mono ?_
       rintro e w3 ⟨rfl, hr3, b3⟩
       refine ⟨_, rfl, ?_⟩
       have n3 := bnext n2 b3
       have R3 := hide ((n3.block (z + 1) HS.out).trans R1.out)
       have B3 := hide (n3.mono (Nat.le_of_lt HS.out))
       have S3 := hide (told_cells hr3)
       clear n2 HW hr3 b3 n3))
  have hg5 : w4.heap[z + 1]? = some (.cells (toldL f p 256).toArray 35 (0, 0)) := by
    have hh := hg4.out
    rw [splice_whole _ _ (by rw [zerosL_length, toldL_length])] at hh
    exact hh
  have G5 := hide hg5
  have Q5 := hide ((hb4.block z (Nat.lt_succ_self z)).trans R0.out)
  have B5 := hide (BA.out.trans (hb4.mono (by have := HZ.out; omega)))
  have I5 := hide (info_tab (toldL f p 256) (toldL_length f p 256))
  have T5 := hide (show (toldL f p 256).toArray.all (·.oneCell') = true by rw [← Array.all_toList, List.all_eq_true]; exact toldL_one f p 256)
  have S5 := hide (show (zerosL 256).toArray.size = (toldL f p 256).toArray.size by rw [List.size_toArray, List.size_toArray, zerosL_length, toldL_length])
  have Z5 := hide (show w.heap.size ≤ z by have := HZ.out; omega)
  clear hg4 hg5 hb4 T1 T2 T3
  obtain ⟨L, hL⟩ : ∃ L, toldL f p 256 = L := ⟨_, rfl⟩
  rw [hL] at G5 I5 T5 S5 ⊢
  have HL := hide hL
  clear hL
  go_wp2_with (first
    | (refine wpList_load_row rfl 35 (.tmp 5) rfl (z + 1) rfl _ _ _ _ G5.out Try.underlying35 rfl I5.out ?_)
    | (refine wpList_store_row rfl 35 (.tmp 4) (.tmp 11) rfl z _ rfl rfl 35 _ Q5.out I5.out S5.out T5.out ?_)
    | (refine bodyPost_ret (results_cell_row rfl _ _ z 35 _ (0, 0) _ rfl (setRow_heap _ _ _ _ _ _ Q5.out) Try.underlying35 rfl I5.out) rfl ⟨by rw [HL.out], below_setRow B5.out Z5.out _⟩))
theorem zerosL_one (N : Nat) : ∀ v ∈ zerosL N, v.oneCell' = true := by
  intro v hv
  rw [(List.mem_replicate.1 hv).2]
  rfl
theorem words_nil (n m : Int) (w : World) : Calls Try.prog 21 #[.pointer none, .int .i64 n, .int .i64 m] w fun e w' => e = .returned (.slice none 0 0) ∧ w' = w := by
  go_enter Try.func21, Try.ntmps21
  go_wp2_with (first | (go_at_call 17; refine (missing_nil _).mono ?_; rintro e w' ⟨rfl, hw⟩; subst w') | (go_at_call 16; refine (word_any _ _).mono ?_; rintro e w' ⟨rfl, hw⟩; subst w'))
  go_ret
  exact ⟨rfl, rfl⟩
set_option maxHeartbeats 1000000 in
theorem table_nil (w : World) (n : Int) :
    Calls Try.prog 15 #[.pointer none, .int .i64 n] w fun e w' => e = .returned (.agg (zerosL 256).toArray) ∧ Below w.heap.size w w' := by
  have CU := cut_tab (w.heap.size + 1)
  go_enter Try.func15, Try.ntmps15
  go_wp2_with (first | (refine wpList_alloced rfl 35 rfl _ zero_tab ?_))
  refine under_name fun wa hwa => ?_
  obtain ⟨b0, b1, hs, BB⟩ := two_named hwa
  clear hwa
  simp only [Act.put, List.setIfInBounds_toArray, List.set_cons_succ, List.set_cons_zero]
  rw [show (w.alloc (Obj.cells (zerosL 256).toArray 35)).heap.size = w.heap.size + 1 by simp]
  have R0 := hide b0
  have R1 := hide b1
  have BA := hide BB
  have HS := hide hs
  clear b0 b1 hs BB
  obtain ⟨z, hz⟩ : ∃ z, w.heap.size = z := ⟨_, rfl⟩
  rw [hz] at R0 R1 HS CU ⊢
  have HZ := hide hz
  clear hz
  go_region_law (first
    | (refine step_copy_splice rfl (.tmp 6) (.tmp 9) 22 22 rfl 3 Try.underlying22 (by kernel_rfl) _ _ _ _ _ _ rfl rfl (z + 1) 0 (zerosL 256) 35 R3.out [] rfl (fun h => absurd h (Nat.lt_irrefl 0)) (Nat.zero_le _) (fun v hv => nomatch hv) (z + 1) wa B3.out (Nat.le_refl _) ?_; intro w4 hg4 hb4)
    | (refine step_call rfl 21 _ _ rfl _ Try.func21 (by kernel_rfl) (by kernel_rfl) #[.pointer none, .int .i64 n, .int .i64 256] (by simp [Act.eval, Act.put]) ?_; refine under_calls fun w2 hw2 => ?_
       have n2 : Below wa.heap.size wa w2 := by rw [hw2]; exact (Below.refl _ _).drew
       clear hw2
       refine (words_nil n 256 w2).mono ?_
       rintro e w3 ⟨rfl, hw⟩
       subst w3
       refine ⟨_, rfl, ?_⟩
       have R3 := hide ((n2.block (z + 1) HS.out).trans R1.out)
       have B3 := hide (n2.mono (Nat.le_of_lt HS.out))
       clear n2))
  have hg5 : w4.heap[z + 1]? = some (.cells (zerosL 256).toArray 35 (0, 0)) := hg4.out
  have G5 := hide hg5
  have Q5 := hide ((hb4.block z (Nat.lt_succ_self z)).trans R0.out)
  have B5 := hide (BA.out.trans (hb4.mono (by have := HZ.out; omega)))
  have I5 := hide (info_tab (zerosL 256) (zerosL_length 256))
  have T5 := hide (show (zerosL 256).toArray.all (·.oneCell') = true by rw [← Array.all_toList, List.all_eq_true]; exact zerosL_one 256)
  have Z5 := hide (show w.heap.size ≤ z by have := HZ.out; omega)
  clear hg4 hg5 hb4
  obtain ⟨L, hL⟩ : ∃ L, zerosL 256 = L := ⟨_, rfl⟩
  rw [hL] at G5 I5 T5
  have S5 := hide (show (zerosL 256).toArray.size = L.toArray.size by rw [hL])
  have HL := hide hL
  clear hL
  go_wp2_with (first
    | (refine wpList_load_row rfl 35 (.tmp 5) rfl (z + 1) rfl _ _ _ _ G5.out Try.underlying35 rfl I5.out ?_)
    | (refine wpList_store_row rfl 35 (.tmp 4) (.tmp 11) rfl z _ rfl rfl 35 _ Q5.out I5.out S5.out T5.out ?_)
    | (refine bodyPost_ret (results_cell_row rfl _ _ z 35 _ (0, 0) _ rfl (setRow_heap _ _ _ _ _ _ Q5.out) Try.underlying35 rfl I5.out) rfl ⟨by rw [HL.out], below_setRow B5.out Z5.out _⟩))
end Go.Proofs.Ytndphclogkmonaa
