/- Package psg: Samples. -/
import Derived.Test.YtcpilhbinkamiaaDoorVoices22
import Derived.Test.YtcpilhbinkamiaaDoorEq22
namespace Go.Proofs.YtcpilhbinkamiaaDoor
open Go.RowKit
set_option linter.unusedVariables false

theorem results_tmp_agg {P : Program} {fn : Func} {p u : Tmp} {ty : TypeId} (h : fn.results = #[.tmp u, .cell p ty]) (tmps : Array Value) (w : World) (g : Nat) (t : TypeId) (cs : Array Value) (fr : Nat × Nat) (d : TypeDesc)
    (hp : tmps.getD p undef = .pointer (some ⟨g, 0, none⟩)) (hg : w.heap[g]? = some (.cells cs t fr))
    (hu : P.underlying ty = some d) (hd : (match d with | .struct _ | .array _ _ => true | _ => false) = true) (hi : (P.info? ty).map (·.size) = some cs.size) :
    (results fn tmps).run P w = .ok (.tuple #[tmps.getD u undef, .agg cs]) w := by
  have hp' : tmps[p]?.getD undef = .pointer (some ⟨g, 0, none⟩) := by simpa using hp
  simp [results, h, hp', asAddr, run_loadVar_row w g t ty cs fr d hg hu hd hi]
theorem wpQuiet_row {P : Program} {ops : Array Oper} {C : World → Prop} {Q : Act → Prop} {a : Act} {o : Oper} {rest : List Oper} (hw : Region.wanted o (yielded ops a.tmps) = true) (ty : TypeId) (x : Operand) (ho : o.op = .load ty x)
    (g : Nat) (hx : a.eval x = .pointer (some ⟨g, 0, none⟩)) (t : TypeId) (cs : Array Value) (fr : Nat × Nat) (d : TypeDesc) (hg : ∀ w, C w → w.heap[g]? = some (.cells cs t fr))
    (hu : P.underlying ty = some d) (hd : (match d with | .struct _ | .array _ _ => true | _ => false) = true) (hi : (P.info? ty).map (·.size) = some cs.size)
    (h : wpQuiet P ops C Q rest (a.put o.dst (.agg cs))) : wpQuiet P ops C Q (o :: rest) a := by
  unfold wpQuiet
  rw [if_pos hw]
  refine ⟨.agg cs, fun w hC => ?_, h⟩
  unfold Oper.quietAt execOp
  simp only [ho, hx, Instr.loadAt, Instr.sureAddr, Sem.run_bind, Sem.run_pure, Result.andThen_ok, run_loadVar_row w g t ty cs fr d (hg w hC) hu hd hi]
  exact ⟨rfl, rfl⟩
theorem make_samples (N : Nat) (h1 : N ≤ 65536) (w : World) :
    (Instr.makeSlice 28 (.int .i64 (N : Int)) (.int .i64 (N : Int))).run Tryd.prog w = .ok (.slice (some ⟨w.heap.size, 0, none⟩) N N) (w.alloc (.cells (rowF (iv fun _ => 0) (N * 2)) 40)) := by
  have hb : Tryd.t40.bytes = 16 := rfl
  rw [Go.run_make w 28 40 Tryd.t40 (.agg #[.int .i64 0, .int .i64 0]) Tryd.underlying28 (by kernel_rfl) rfl .i64 .i64 N N (by omega) (by omega) (by rw [hb]; omega) (by omega)]
  have e1 : madeCells (Value.cells (.agg #[.int .i64 0, .int .i64 0])) (N * Tryd.t40.size) = rowF (iv fun _ => 0) (N * 2) := by
    rw [show Tryd.t40.size = 2 from rfl]
    apply Array.ext_getElem?
    intro j
    by_cases k : j < N * 2
    · rw [rowF_at _ _ _ k]
      simp only [madeCells, Value.cells, iv]
      rw [Array.getElem?_eq_getElem (by simpa using k)]
      rcases (show j % 2 = 0 ∨ j % 2 = 1 by omega) with e | e <;> simp [e]
    · rw [rowF_none _ _ _ k, Array.getElem?_eq_none (by rw [size_madeCells]; omega)]
  simp only [Int.toNat_natCast, e1]
/-- The samples, one behind the other, left and right; the first of them, the others 0. -/
def smp (f : Nat → Int) (j : Nat) : Int := if j % 2 = 0 then leftOf (itF f (j / 2 + 1)) else rightOf (itF f (j / 2 + 1))
def smpTo (f : Nat → Int) (n : Nat) : Nat → Int := fun j => if j < n * 2 then smp f j else 0
theorem smpTo_next (f : Nat → Int) (k N : Nat) : ∀ j, j < N * 2 → (if k * 2 ≤ j ∧ j < k * 2 + 2 then (if j - k * 2 = 0 then Value.int .i64 (leftOf (itF f (k + 1))) else .int .i64 (rightOf (itF f (k + 1)))) else iv (smpTo f k) j) = iv (smpTo f (k + 1)) j := fun j hj => by
  unfold iv smpTo smp
  by_cases h : k * 2 ≤ j ∧ j < k * 2 + 2
  · rw [if_pos h, if_pos (c := j < (k + 1) * 2) (by omega), show j / 2 = k by omega]
    by_cases e : j - k * 2 = 0
    · rw [if_pos e, if_pos (by omega)]
    · rw [if_neg e, if_neg (by omega)]
  · rw [if_neg h]
    by_cases h2 : j < k * 2
    · rw [if_pos h2, if_pos (c := j < (k + 1) * 2) (by omega)]
    · rw [if_neg h2, if_neg (c := j < (k + 1) * 2) (by omega)]
/-- The first channels are put back. -/
def backTo (F f : Nat → Int) (k : Nat) : Nat → Int := fun i => if i < 4 + k * 40 then F i else f i
theorem back_0 {F f : Nat → Int} (h : Alike f F) : backTo F f 0 = f := by
  funext i
  unfold backTo
  split
  · exact h.1 i (by omega)
  · rfl
theorem back_next (F f : Nat → Int) (A : Int) (k : Nat) : ∀ j, j < 244 → iv (up (fun j => if 4 + k * 40 ≤ j ∧ j < 4 + k * 40 + 40 then (if j - (4 + k * 40) = 37 then A else ch F k (j - (4 + k * 40))) else backTo F f k j) (4 + k * 40 + 37) (ch F k 37)) j = iv (backTo F f (k + 1)) j := fun j hj => by
  unfold iv up backTo ch
  by_cases h : j = 4 + k * 40 + 37
  · rw [if_pos h, if_pos (by omega), h]
  · rw [if_neg h]
    dsimp only
    by_cases h2 : 4 + k * 40 ≤ j ∧ j < 4 + k * 40 + 40
    · rw [if_pos h2, if_neg (by omega), if_pos (by omega), show 4 + k * 40 + (j - (4 + k * 40)) = j by omega]
    · rw [if_neg h2]
      by_cases h3 : j < 4 + k * 40
      · rw [if_pos h3, if_pos (by omega)]
      · rw [if_neg h3, if_neg (by omega)]
theorem back_6 (F f : Nat → Int) : rowF (iv (backTo F f 6)) 244 = rowF (iv F) 244 := rowF_ext fun j hj => by
  unfold iv backTo
  rw [if_pos (by omega)]
set_option maxHeartbeats 1600000 in
/-- Nothing, and the sound as it is. -/
theorem samples_no (f : Nat → Int) (n : Int) (h : vB f = false ∨ n < 1 ∨ 65536 < n) (w : World) : Calls Tryd.prog 8 #[.agg (rowF (iv f) 244), .int .i64 n] w fun e w' => e = Ending.returned (.tuple #[.slice none 0 0, .agg (rowF (iv f) 244)]) ∧ Below w.heap.size w w' := by
  have KV := hide (fun w => valid_any f w)
  have P0 := hide (hasF_new 27 w 244 (iv f))
  have ZI := hide (info_P (iv f))
  have ZO := hide (rowF_one f 244)
  have ZS : Hid ((rowF (iv fun _ => 0) 244).size = (rowF (iv f) 244).size) := hide (by rw [rowF_size, rowF_size])
  rw [HasF] at P0
  obtain ⟨q, hq⟩ : ∃ q, vB f = q := ⟨_, rfl⟩
  rw [hq] at KV h
  clear hq
  generalize rowF (iv f) 244 = R at *
  cases q
  ·
    go_enter Tryd.func8, Tryd.ntmps8
    set_option maxRecDepth 20000 in
    go_wp2_with (first
      | (refine wpList_alloced rfl 27 rfl (rowF (iv fun _ => 0) 244) zero_P ?_)
      | (refine under_list fun w1 hw1 => ?_; obtain ⟨n0, n1, n2, n3⟩ := two_named hw1; have P1 := hide n0; have Z1 : Hid (HasF 27 w1 (w.heap.size + 1) 244 (iv fun _ => 0)) := hide n1; have B1 := hide n3; clear n0 n1 n2 n3 hw1 P0; refine wpList_load_row rfl 27 (.tmp 2) rfl w.heap.size rfl _ _ _ _ P1.out Tryd.underlying27 rfl ZI.out ?_)
      | (go_at_call 13; refine (KV.out _).mono ?_; rintro e w2 ⟨rfl, b2⟩; have P2 := hide ((b2.block _ (lt_of_block P1.out)).trans P1.out); have Z2 := hide (Z1.out.next b2); have B2 := hide (bnext B1.out b2); clear b2 P1 Z1 B1))
    haveI := kept_some w2
    refine wp_region_kept_last _ _ (show _ = [_, _] ++ [_] from rfl) (by kernel_rfl) (by kernel_rfl) (by kernel_rfl) ?_
    repeat (first
      | (refine wpQuiet_row rfl 27 (.tmp 2) rfl w.heap.size rfl 27 _ (0, 0) _ (fun w' ⟨x, hx⟩ => by rw [hx]; exact (x.block _ (lt_of_block P2.out)).trans P2.out) Tryd.underlying27 rfl ZI.out ?_; simp only [Act.put, List.setIfInBounds_toArray, List.set_cons_succ, List.set_cons_zero])
      | go_big_quiet_step (fail))
    refine wpQuiet_nil ?_
    rintro _ ⟨wk, rfl⟩
    have Z3 := hide (Z2.out.next wk.below)
    have B3 := hide (bnext B2.out wk.below)
    set_option maxRecDepth 20000 in
    go_wp2_with (first
      | (refine wpList_store_row rfl 27 (.tmp 5) (.tmp 22) rfl (w.heap.size + 1) _ rfl rfl 27 _ Z3.out ZI.out ZS.out ZO.out ?_))
    refine bodyPost_ret (results_tmp_agg rfl _ _ (w.heap.size + 1) 27 _ (0, 0) _ rfl (setRow_heap _ _ _ _ _ _ Z3.out) Tryd.underlying27 rfl ZI.out) rfl ?_
    exact ⟨rfl, below_setRow B3.out (Nat.le_succ _) _⟩
  · by_cases h1 : n < 1
    ·
      go_enter Tryd.func8, Tryd.ntmps8
      set_option maxRecDepth 20000 in
      go_wp2_with (first
        | (refine wpList_alloced rfl 27 rfl (rowF (iv fun _ => 0) 244) zero_P ?_)
        | (refine under_list fun w1 hw1 => ?_; obtain ⟨n0, n1, n2, n3⟩ := two_named hw1; have P1 := hide n0; have Z1 : Hid (HasF 27 w1 (w.heap.size + 1) 244 (iv fun _ => 0)) := hide n1; have B1 := hide n3; clear n0 n1 n2 n3 hw1 P0; refine wpList_load_row rfl 27 (.tmp 2) rfl w.heap.size rfl _ _ _ _ P1.out Tryd.underlying27 rfl ZI.out ?_)
        | (go_at_call 13; refine (KV.out _).mono ?_; rintro e w2 ⟨rfl, b2⟩; have P2 := hide ((b2.block _ (lt_of_block P1.out)).trans P1.out); have Z2 := hide (Z1.out.next b2); have B2 := hide (bnext B1.out b2); clear b2 P1 Z1 B1))
      haveI := kept_some w2
      refine wp_region_kept_last _ _ (show _ = [_, _] ++ [_] from rfl) (by kernel_rfl) (by kernel_rfl) (by kernel_rfl) ?_
      repeat (first
        | (refine wpQuiet_row rfl 27 (.tmp 2) rfl w.heap.size rfl 27 _ (0, 0) _ (fun w' ⟨x, hx⟩ => by rw [hx]; exact (x.block _ (lt_of_block P2.out)).trans P2.out) Tryd.underlying27 rfl ZI.out ?_; simp only [Act.put, List.setIfInBounds_toArray, List.set_cons_succ, List.set_cons_zero])
        | go_big_quiet_step (fail))
      refine wpQuiet_nil ?_
      rintro _ ⟨wk, rfl⟩
      have Z3 := hide (Z2.out.next wk.below)
      have B3 := hide (bnext B2.out wk.below)
      set_option maxRecDepth 20000 in
      go_wp2_with (first
        | (refine wpList_store_row rfl 27 (.tmp 5) (.tmp 22) rfl (w.heap.size + 1) _ rfl rfl 27 _ Z3.out ZI.out ZS.out ZO.out ?_))
      refine bodyPost_ret (results_tmp_agg rfl _ _ (w.heap.size + 1) 27 _ (0, 0) _ rfl (setRow_heap _ _ _ _ _ _ Z3.out) Tryd.underlying27 rfl ZI.out) rfl ?_
      exact ⟨rfl, below_setRow B3.out (Nat.le_succ _) _⟩
    · have h2 : 65536 < n := by
        rcases h with h | h | h
        · cases h
        · exact absurd h h1
        · exact h
      go_enter Tryd.func8, Tryd.ntmps8
      set_option maxRecDepth 20000 in
      go_wp2_with (first
        | (refine wpList_alloced rfl 27 rfl (rowF (iv fun _ => 0) 244) zero_P ?_)
        | (refine under_list fun w1 hw1 => ?_; obtain ⟨n0, n1, n2, n3⟩ := two_named hw1; have P1 := hide n0; have Z1 : Hid (HasF 27 w1 (w.heap.size + 1) 244 (iv fun _ => 0)) := hide n1; have B1 := hide n3; clear n0 n1 n2 n3 hw1 P0; refine wpList_load_row rfl 27 (.tmp 2) rfl w.heap.size rfl _ _ _ _ P1.out Tryd.underlying27 rfl ZI.out ?_)
        | (go_at_call 13; refine (KV.out _).mono ?_; rintro e w2 ⟨rfl, b2⟩; have P2 := hide ((b2.block _ (lt_of_block P1.out)).trans P1.out); have Z2 := hide (Z1.out.next b2); have B2 := hide (bnext B1.out b2); clear b2 P1 Z1 B1))
      haveI := kept_some w2
      refine wp_region_kept_last _ _ (show _ = [_, _] ++ [_] from rfl) (by kernel_rfl) (by kernel_rfl) (by kernel_rfl) ?_
      repeat (first
        | (refine wpQuiet_row rfl 27 (.tmp 2) rfl w.heap.size rfl 27 _ (0, 0) _ (fun w' ⟨x, hx⟩ => by rw [hx]; exact (x.block _ (lt_of_block P2.out)).trans P2.out) Tryd.underlying27 rfl ZI.out ?_; simp only [Act.put, List.setIfInBounds_toArray, List.set_cons_succ, List.set_cons_zero])
        | go_big_quiet_step (fail))
      refine wpQuiet_nil ?_
      rintro _ ⟨wk, rfl⟩
      have Z3 := hide (Z2.out.next wk.below)
      have B3 := hide (bnext B2.out wk.below)
      set_option maxRecDepth 20000 in
      go_wp2_with (first
        | (refine wpList_store_row rfl 27 (.tmp 5) (.tmp 22) rfl (w.heap.size + 1) _ rfl rfl 27 _ Z3.out ZI.out ZS.out ZO.out ?_))
      refine bodyPost_ret (results_tmp_agg rfl _ _ (w.heap.size + 1) 27 _ (0, 0) _ rfl (setRow_heap _ _ _ _ _ _ Z3.out) Tryd.underlying27 rfl ZI.out) rfl ?_
      exact ⟨rfl, below_setRow B3.out (Nat.le_succ _) _⟩
end Go.Proofs.YtcpilhbinkamiaaDoor
