/- The document's own: the period of a channel. -/
import Derived.Test.YtcpilhbinkamiaaDoorROn22
import Derived.Test.YtcpilhbinkamiaaDoorSamp22
namespace Go.Proofs.YtcpilhbinkamiaaDoor
open Go.RowKit
set_option linter.unusedVariables false

theorem wpList_load_want {P : Program} {ops : Array Oper} {rest : List Oper} {o : Oper} {a : Act} {w : World} {Q : Exit → Act → World → Prop} (hw : Region.wanted o (yielded ops a.tmps) = true) (ty : TypeId) (x : Operand) (ho : o.op = .load ty x)
    (g : Nat) (hx : a.eval x = .pointer (some ⟨g, 0, none⟩)) (t : TypeId) (cs : Array Value) (fr : Nat × Nat) (d : TypeDesc) (hg : w.heap[g]? = some (.cells cs t fr))
    (hu : P.underlying ty = some d) (hd : (match d with | .struct _ | .array _ _ => true | _ => false) = true) (hi : (P.info? ty).map (·.size) = some cs.size)
    (h : wpList P ops Q rest (a.put o.dst (.agg cs)) w) : wpList P ops Q (o :: rest) a w :=
  BigFrame.wpList_want hw fun _ hK => wp_load_row ty x ho g hx t cs fr d hg hu hd hi (hK _ _ h)
set_option maxHeartbeats 1600000 in
theorem rper_noise (f : Nat → Int) (ok : okP f) (k : Nat) (hk : k < 6) (w : World) (hn : nyOf f k = true) : Calls Tryd.prog 39 #[.agg (rowF (iv f) 244), .int .i64 (k : Int)] w fun e w' => e = Ending.returned (.int .i64 (perK f k)) ∧ Below w.heap.size w w' := by
  have P0 := hide (hasF_new 34 w 244 (iv f))
  have B0 : Hid (Below w.heap.size w (w.alloc (.cells (rowF (iv f) 244) 34))) := hide ((Below.refl _ w).alloc (Nat.le_refl _) _)
  have ZI := hide (info_R (iv f))
  have KN := hide (fun w => rnoisy_any f k hk w)
  have KL := hide (fun w => rlfo_any f ok.2.2.2.1.1 w)
  obtain ⟨x0, x1, x2, x3, x4, x5, x6, x7, x8⟩ := ok.chan hk
  have hl := lfoOf_in ok
  have HQ : Hid (perK f k = 6 * perOf (ch f k 3)) := hide (by unfold perK; rw [if_pos hn])
  have KP := hide (fun w => rperiod_any (ch f k 3) w)
  have pi := perOf_in (ch f k 3)
  rw [hn] at KN
  clear x8
  generalize perOf (ch f k 3) = pe at *
  set_option maxRecDepth 20000 in
  go_enter Tryd.func39, Tryd.ntmps39
  set_option maxRecDepth 20000 in
  go_wp2_with (first
    | (refine wpList_load_row rfl 34 (.tmp 2) rfl w.heap.size rfl _ _ _ _ P0.out Tryd.underlying34 rfl ZI.out ?_)
    | (go_at_call 23; refine (KN.out _).mono ?_; rintro e w1 ⟨rfl, c1⟩; have P1 := hide (P0.out.next c1); have B1 := hide (bnext B0.out c1); have y3 := P1.out.int (4 + k * 40 + 3) (by omega); change w1.cell? ⟨w.heap.size, 4 + k * 40 + 3, none⟩ = some (.int .i64 (ch f k 3)) at y3; clear c1 P0 B0)
    | (go_at_call 54; refine (KP.out _).mono ?_; rintro e w' ⟨rfl, hw⟩; subst w'))
  go_ret
  exact ⟨ret_int HQ.out.symm, B1.out⟩
set_option maxHeartbeats 1600000 in
theorem rper_plain0 (f : Nat → Int) (ok : okP f) (w : World) (hn : nyOf f 0 = false) (h : lfoOf f = 0) : Calls Tryd.prog 39 #[.agg (rowF (iv f) 244), .int .i64 0] w fun e w' => e = Ending.returned (.int .i64 (perK f 0)) ∧ Below w.heap.size w w' := by
  have hk : 0 < 6 := by decide
  obtain ⟨k, hk0⟩ : ∃ k : Nat, k = 0 := ⟨_, rfl⟩
  rw [← hk0] at hk
  have P0 := hide (hasF_new 34 w 244 (iv f))
  have B0 : Hid (Below w.heap.size w (w.alloc (.cells (rowF (iv f) 244) 34))) := hide ((Below.refl _ w).alloc (Nat.le_refl _) _)
  have ZI := hide (info_R (iv f))
  have KN := hide (fun w => rnoisy_any f k hk w)
  have KL := hide (fun w => rlfo_any f ok.2.2.2.1.1 w)
  obtain ⟨x0, x1, x2, x3, x4, x5, x6, x7, x8⟩ := ok.chan hk
  have hl := lfoOf_in ok
  subst hk0
  rw [h] at KL
  have hq : perK f 0 = 6 * orL (ch f 0 0) 4096 := by
    unfold perK
    rw [hn, if_neg (by decide), if_neg (by simp [h]), if_neg (by simp [h])]
  rw [hn] at KN
  clear x8
  by_cases hz : ch f 0 0 = 0
  · have HQ : Hid (perK f 0 = 24576) := hide (by rw [hq, hz]; rfl)
    clear hq
    obtain ⟨y, hy⟩ : ∃ y, ch f 0 0 = y := ⟨_, rfl⟩
    try rw [hy] at HQ
    rw [hy] at x0 hz
    set_option maxRecDepth 20000 in
    go_enter Tryd.func39, Tryd.ntmps39
    set_option maxRecDepth 20000 in
    go_wp2_with (first
      | (refine wpList_load_row rfl 34 (.tmp 2) rfl w.heap.size rfl _ _ _ _ P0.out Tryd.underlying34 rfl ZI.out ?_)
      | (go_at_call 23; refine (KN.out _).mono ?_; rintro e w1 ⟨rfl, c1⟩; have P1 := hide (P0.out.next c1); have B1 := hide (bnext B0.out c1); have y0 := P1.out.int 4 (by omega); change w1.cell? ⟨w.heap.size, 4, none⟩ = some (.int .i64 (ch f 0 0)) at y0; rw [hy] at y0; clear c1 P0 B0)
      | (refine wpList_load_want rfl 34 (.tmp 2) rfl w.heap.size rfl _ _ _ _ P1.out Tryd.underlying34 rfl ZI.out ?_)
      | (go_at_call 22; refine (KL.out _).mono ?_; rintro e w2 ⟨rfl, c2⟩; replace B1 := hide (bnext B1.out c2); skip; clear c2))
    go_ret
    exact ⟨ret_int HQ.out.symm, B1.out⟩
  · have HQ : Hid (perK f 0 = 6 * ch f 0 0) := hide (by rw [hq]; unfold orL; rw [if_neg hz])
    clear hq
    obtain ⟨y, hy⟩ : ∃ y, ch f 0 0 = y := ⟨_, rfl⟩
    try rw [hy] at HQ
    rw [hy] at x0 hz
    set_option maxRecDepth 20000 in
    go_enter Tryd.func39, Tryd.ntmps39
    set_option maxRecDepth 20000 in
    go_wp2_with (first
      | (refine wpList_load_row rfl 34 (.tmp 2) rfl w.heap.size rfl _ _ _ _ P0.out Tryd.underlying34 rfl ZI.out ?_)
      | (go_at_call 23; refine (KN.out _).mono ?_; rintro e w1 ⟨rfl, c1⟩; have P1 := hide (P0.out.next c1); have B1 := hide (bnext B0.out c1); have y0 := P1.out.int 4 (by omega); change w1.cell? ⟨w.heap.size, 4, none⟩ = some (.int .i64 (ch f 0 0)) at y0; rw [hy] at y0; clear c1 P0 B0)
      | (refine wpList_load_want rfl 34 (.tmp 2) rfl w.heap.size rfl _ _ _ _ P1.out Tryd.underlying34 rfl ZI.out ?_)
      | (go_at_call 22; refine (KL.out _).mono ?_; rintro e w2 ⟨rfl, c2⟩; replace B1 := hide (bnext B1.out c2); skip; clear c2))
    go_ret
    exact ⟨ret_int HQ.out.symm, B1.out⟩
set_option maxHeartbeats 1600000 in
theorem rper_plain1 (f : Nat → Int) (ok : okP f) (w : World) (hn : nyOf f 1 = false) (h : lfoOf f = 0) : Calls Tryd.prog 39 #[.agg (rowF (iv f) 244), .int .i64 1] w fun e w' => e = Ending.returned (.int .i64 (perK f 1)) ∧ Below w.heap.size w w' := by
  have hk : 1 < 6 := by decide
  obtain ⟨k, hk0⟩ : ∃ k : Nat, k = 1 := ⟨_, rfl⟩
  rw [← hk0] at hk
  have P0 := hide (hasF_new 34 w 244 (iv f))
  have B0 : Hid (Below w.heap.size w (w.alloc (.cells (rowF (iv f) 244) 34))) := hide ((Below.refl _ w).alloc (Nat.le_refl _) _)
  have ZI := hide (info_R (iv f))
  have KN := hide (fun w => rnoisy_any f k hk w)
  have KL := hide (fun w => rlfo_any f ok.2.2.2.1.1 w)
  obtain ⟨x0, x1, x2, x3, x4, x5, x6, x7, x8⟩ := ok.chan hk
  have hl := lfoOf_in ok
  subst hk0
  rw [h] at KL
  have hq : perK f 1 = 6 * orL (ch f 1 0) 4096 := by
    unfold perK
    rw [hn, if_neg (by decide), if_neg (by simp [h]), if_neg (by simp [h])]
  rw [hn] at KN
  clear x8
  by_cases hz : ch f 1 0 = 0
  · have HQ : Hid (perK f 1 = 24576) := hide (by rw [hq, hz]; rfl)
    clear hq
    obtain ⟨y, hy⟩ : ∃ y, ch f 1 0 = y := ⟨_, rfl⟩
    try rw [hy] at HQ
    rw [hy] at x0 hz
    set_option maxRecDepth 20000 in
    go_enter Tryd.func39, Tryd.ntmps39
    set_option maxRecDepth 20000 in
    go_wp2_with (first
      | (refine wpList_load_row rfl 34 (.tmp 2) rfl w.heap.size rfl _ _ _ _ P0.out Tryd.underlying34 rfl ZI.out ?_)
      | (go_at_call 23; refine (KN.out _).mono ?_; rintro e w1 ⟨rfl, c1⟩; have P1 := hide (P0.out.next c1); have B1 := hide (bnext B0.out c1); have y0 := P1.out.int 44 (by omega); change w1.cell? ⟨w.heap.size, 44, none⟩ = some (.int .i64 (ch f 1 0)) at y0; rw [hy] at y0; clear c1 P0 B0)
      | (refine wpList_load_want rfl 34 (.tmp 2) rfl w.heap.size rfl _ _ _ _ P1.out Tryd.underlying34 rfl ZI.out ?_)
      | (go_at_call 22; refine (KL.out _).mono ?_; rintro e w2 ⟨rfl, c2⟩; replace B1 := hide (bnext B1.out c2); skip; clear c2))
    go_ret
    exact ⟨ret_int HQ.out.symm, B1.out⟩
  · have HQ : Hid (perK f 1 = 6 * ch f 1 0) := hide (by rw [hq]; unfold orL; rw [if_neg hz])
    clear hq
    obtain ⟨y, hy⟩ : ∃ y, ch f 1 0 = y := ⟨_, rfl⟩
    try rw [hy] at HQ
    rw [hy] at x0 hz
    set_option maxRecDepth 20000 in
    go_enter Tryd.func39, Tryd.ntmps39
    set_option maxRecDepth 20000 in
    go_wp2_with (first
      | (refine wpList_load_row rfl 34 (.tmp 2) rfl w.heap.size rfl _ _ _ _ P0.out Tryd.underlying34 rfl ZI.out ?_)
      | (go_at_call 23; refine (KN.out _).mono ?_; rintro e w1 ⟨rfl, c1⟩; have P1 := hide (P0.out.next c1); have B1 := hide (bnext B0.out c1); have y0 := P1.out.int 44 (by omega); change w1.cell? ⟨w.heap.size, 44, none⟩ = some (.int .i64 (ch f 1 0)) at y0; rw [hy] at y0; clear c1 P0 B0)
      | (refine wpList_load_want rfl 34 (.tmp 2) rfl w.heap.size rfl _ _ _ _ P1.out Tryd.underlying34 rfl ZI.out ?_)
      | (go_at_call 22; refine (KL.out _).mono ?_; rintro e w2 ⟨rfl, c2⟩; replace B1 := hide (bnext B1.out c2); skip; clear c2))
    go_ret
    exact ⟨ret_int HQ.out.symm, B1.out⟩
set_option maxHeartbeats 1600000 in
theorem rper_plain2 (f : Nat → Int) (ok : okP f) (k : Nat) (hk : k < 6) (w : World) (hn : nyOf f k = false) (h2 : 2 ≤ k) : Calls Tryd.prog 39 #[.agg (rowF (iv f) 244), .int .i64 (k : Int)] w fun e w' => e = Ending.returned (.int .i64 (perK f k)) ∧ Below w.heap.size w w' := by
  have P0 := hide (hasF_new 34 w 244 (iv f))
  have B0 : Hid (Below w.heap.size w (w.alloc (.cells (rowF (iv f) 244) 34))) := hide ((Below.refl _ w).alloc (Nat.le_refl _) _)
  have ZI := hide (info_R (iv f))
  have KN := hide (fun w => rnoisy_any f k hk w)
  have KL := hide (fun w => rlfo_any f ok.2.2.2.1.1 w)
  obtain ⟨x0, x1, x2, x3, x4, x5, x6, x7, x8⟩ := ok.chan hk
  have hl := lfoOf_in ok
  have d0 : ((k : Int) == 0) = false := by simp; omega
  have d1 : ((k : Int) == 1) = false := by simp; omega
  have hq : perK f k = 6 * orL (ch f k 0) 4096 := by
    unfold perK
    rw [hn, if_neg (by decide), if_neg (by omega), if_neg (by omega)]
  rw [hn] at KN
  clear x8
  by_cases hz : ch f k 0 = 0
  · have HQ : Hid (perK f k = 24576) := hide (by rw [hq, hz]; rfl)
    clear hq
    obtain ⟨y, hy⟩ : ∃ y, ch f k 0 = y := ⟨_, rfl⟩
    try rw [hy] at HQ
    rw [hy] at x0 hz
    set_option maxRecDepth 20000 in
    go_enter Tryd.func39, Tryd.ntmps39
    set_option maxRecDepth 20000 in
    go_wp2_with (first
      | (refine wpList_load_row rfl 34 (.tmp 2) rfl w.heap.size rfl _ _ _ _ P0.out Tryd.underlying34 rfl ZI.out ?_)
      | (go_at_call 23; refine (KN.out _).mono ?_; rintro e w1 ⟨rfl, c1⟩; have P1 := hide (P0.out.next c1); have B1 := hide (bnext B0.out c1); have y0 := P1.out.int (4+k*40) (by omega); change w1.cell? ⟨w.heap.size, (4+k*40), none⟩ = some (.int .i64 (ch f k 0)) at y0; rw [hy] at y0; clear c1 P0 B0)
      | (refine wpList_load_want rfl 34 (.tmp 2) rfl w.heap.size rfl _ _ _ _ P1.out Tryd.underlying34 rfl ZI.out ?_)
      | (go_at_call 22; refine (KL.out _).mono ?_; rintro e w2 ⟨rfl, c2⟩; replace B1 := hide (bnext B1.out c2); skip; clear c2))
    go_ret
    exact ⟨ret_int HQ.out.symm, B1.out⟩
  · have HQ : Hid (perK f k = 6 * ch f k 0) := hide (by rw [hq]; unfold orL; rw [if_neg hz])
    clear hq
    obtain ⟨y, hy⟩ : ∃ y, ch f k 0 = y := ⟨_, rfl⟩
    try rw [hy] at HQ
    rw [hy] at x0 hz
    set_option maxRecDepth 20000 in
    go_enter Tryd.func39, Tryd.ntmps39
    set_option maxRecDepth 20000 in
    go_wp2_with (first
      | (refine wpList_load_row rfl 34 (.tmp 2) rfl w.heap.size rfl _ _ _ _ P0.out Tryd.underlying34 rfl ZI.out ?_)
      | (go_at_call 23; refine (KN.out _).mono ?_; rintro e w1 ⟨rfl, c1⟩; have P1 := hide (P0.out.next c1); have B1 := hide (bnext B0.out c1); have y0 := P1.out.int (4+k*40) (by omega); change w1.cell? ⟨w.heap.size, (4+k*40), none⟩ = some (.int .i64 (ch f k 0)) at y0; rw [hy] at y0; clear c1 P0 B0)
      | (refine wpList_load_want rfl 34 (.tmp 2) rfl w.heap.size rfl _ _ _ _ P1.out Tryd.underlying34 rfl ZI.out ?_)
      | (go_at_call 22; refine (KL.out _).mono ?_; rintro e w2 ⟨rfl, c2⟩; replace B1 := hide (bnext B1.out c2); skip; clear c2))
    go_ret
    exact ⟨ret_int HQ.out.symm, B1.out⟩
end Go.Proofs.YtcpilhbinkamiaaDoor
