/- For every sound and every two numbers the law PsgOthers of layer 22 returns true: what is written to a channel changes no other one, and what is written to all changes none. No condition. -/
import Derived.Test.YtcpilhbinkamiabOth22
import Derived.Test.YtcpilhbinkamiabOpen22
import Derived.OpenShut
import Derived.ShutString
import Derived.ChangeOld
import Derived.Below
namespace Go.Proofs.Ytcpilhbinkamiab
open Go.ChangeShapes Go.WideShapes Go.ChangeAt Go.RowKit
open Go.ChangeMaps (open_string shut_string)
set_option linter.unusedVariables false
theorem own : ownKnob Try.prog.godebug = none := by kernel_rfl

theorem wpQuiet_mid {P : Program} {ops : Array Oper} {C : World → Prop} {Q : Act → Prop} {a : Act} {o : Oper} {rest : List Oper} (hw : Region.wanted o (yielded ops a.tmps) = true) (ty : TypeId) (x : Operand) (ho : o.op = .load ty x)
    (b off : Nat) (hx : a.eval x = .pointer (some ⟨b, off, none⟩)) (cs : Array Value) (d : TypeDesc) (hc : ∀ w, C w → w.rangeAt b off cs.toList)
    (hu : P.underlying ty = some d) (hd : d.isRow = true) (hi : (P.info? ty).map (·.size) = some cs.size)
    (h : wpQuiet P ops C Q rest (a.put o.dst (.agg cs))) : wpQuiet P ops C Q (o :: rest) a := by
  unfold wpQuiet
  rw [if_pos hw]
  refine ⟨.agg cs, fun w hC => ?_, h⟩
  unfold Oper.quietAt execOp
  have k := run_loadVar_mid (P := P) w b off ty cs.toList d (hc w hC) hu hd (by rw [Array.length_toList]; exact hi)
  simp only [ho, hx, Instr.loadAt, Instr.sureAddr, Sem.run_bind, Sem.run_pure, Result.andThen_ok, k]
  exact ⟨rfl, rfl⟩
set_option maxHeartbeats 4000000 in
theorem others_no (f : Nat → Int) (at_ b : Int) (w : World) (hv : vB f = false) : Calls Try.prog 3 #[.agg (rowF (iv f) 244), .int .i64 at_, .int .i64 b] w fun e w' => e = .returned (.bool true) ∧ Below w.heap.size w w' := by
  have KV := hide (fun w => valid_any f w)
  rw [hv] at KV
  have KN := hide (fun w => write_no f at_ b hv w)
  have KF := hide (fun w => valid_any freshF w)
  rw [(vB_iff _).1 fresh_ok] at KF
  have EE := psg_eql f
  have P0 := hide (hasF_new 27 w 244 (iv f))
  have ZI := hide (info_P (iv f))
  have ZO := hide (rowF_one f 244)
  have ZS : Hid ((rowF (iv fun _ => 0) 244).size = (rowF (iv f) 244).size) := hide (by rw [rowF_size, rowF_size])
  have BA : Hid (Below w.heap.size w (w.alloc (.cells (rowF (iv f) 244) 27))) := hide ((Below.refl _ w).alloc (Nat.le_refl _) _)
  have KR := hide (fun w => fresh_any w)
  clear hv
  rw [HasF] at P0
  generalize rowF (iv f) 244 = R at *
  generalize rowF (iv freshF) 244 = RF at *
  set_option maxRecDepth 20000 in
  go_enter Try.func3, Try.ntmps3
  set_option maxRecDepth 20000 in
  go_wp2_with (first
    | (refine wpList_load_row rfl 27 (.tmp 3) rfl w.heap.size rfl _ _ _ _ P0.out Try.underlying27 rfl ZI.out ?_))
  refine (KN.out _).mono ?_
  rintro e w1 ⟨rfl, c1⟩
  have P1 := hide ((c1.block _ (lt_of_block P0.out)).trans P0.out)
  have B1 := hide (bnext BA.out c1)
  clear c1 P0 BA
  set_option maxRecDepth 20000 in
  go_wp2_with (first
    | (refine wpList_alloced rfl 27 rfl (rowF (iv fun _ => 0) 244) zero_P ?_)
    | (refine wpList_store_row rfl 27 (.tmp 7) (.tmp 12) rfl w1.heap.size R (by simp [Act.eval, Act.put]) rfl 27 _ (hasF_new _ _ _ _) ZI.out ZS.out ZO.out ?_; refine under_list fun w2 hh => ?_; have M2 : Hid (w2.heap[w1.heap.size]? = some (.cells R 27 (0, 0))) := hide (by rw [hh]; exact setRow_heap _ _ _ _ _ _ (hasF_new _ _ _ _)); have W2 : Below w1.heap.size w1 w2 := (by rw [hh]; exact below_setRow ((Below.refl _ _).alloc (Nat.le_refl _) _) (Nat.le_refl _) _); have P2 := hide ((W2.block _ (lt_of_block P1.out)).trans P1.out); have B2 := hide (bnext B1.out W2); clear hh W2 P1 B1)
    | (refine wpList_load_row rfl 27 (.tmp 3) rfl w.heap.size rfl _ _ _ _ P2.out Try.underlying27 rfl ZI.out ?_))
  refine (KV.out _).mono ?_
  rintro e w3 ⟨rfl, c3⟩
  have M3 := hide ((c3.block _ (lt_of_block M2.out)).trans M2.out)
  have P3 := hide ((c3.block _ (lt_of_block P2.out)).trans P2.out)
  have B3 := hide (bnext B2.out c3)
  clear c3 M2 P2 B2
  set_option maxRecDepth 20000 in
  go_wp2_with (first
    | (refine wpList_load_row rfl 27 (.tmp 7) rfl w1.heap.size rfl _ _ _ _ M3.out Try.underlying27 rfl ZI.out ?_)
    | (refine wpList_load_row rfl 27 (.tmp 3) rfl w.heap.size rfl _ _ _ _ P3.out Try.underlying27 rfl ZI.out ?_)
    | (go_at_call 6; refine (KR.out _).mono ?_; rintro e w4 ⟨rfl, c4⟩))
  refine (KF.out _).mono ?_
  rintro e w5 ⟨rfl, c5⟩
  set_option maxRecDepth 20000 in
  go_wp2_with fail
  go_ret
  exact ⟨rfl, bnext (bnext B3.out c4) c5⟩

set_option maxHeartbeats 4000000 in
theorem others_yes (f : Nat → Int) (at_ b : Int) (w : World) (ok : okP f) : Calls Try.prog 3 #[.agg (rowF (iv f) 244), .int .i64 at_, .int .i64 b] w fun e w' => e = .returned (.bool true) ∧ Below w.heap.size w w' := by
  have KV := hide (fun w => valid_any f w)
  rw [(vB_iff f).1 ok] at KV
  have KW := hide (fun w => write_any f at_ b ok w)
  have KU := hide (fun w => valid_any (wrF f at_ b) w)
  rw [(vB_iff _).1 (wr_ok ok at_ b)] at KU
  have HC := hide (fun k j hj h => wr_chan ok at_ b k j hj h)
  have HM := hide (fun h => wr_main ok at_ b h)
  have H0 := hide (wr_sel f b)
  have E0 : Hid (at_ = 0 → wrF f at_ b 0 = b % 8) := hide (fun e => by rw [e]; exact wr_sel f b)
  have y0 := ok.1
  have m7 := and_7 b
  obtain ⟨F, hF⟩ : ∃ F, wrF f at_ b = F := ⟨_, rfl⟩
  rw [hF] at KW KU HC HM E0
  clear hF ok H0
  have P0 := hide (hasF_new 27 w 244 (iv f))
  have ZI := hide (info_P (iv f))
  have FI := hide (info_P (iv F))
  have FO := hide (rowF_one F 244)
  have FS : Hid ((rowF (iv fun _ => 0) 244).size = (rowF (iv F) 244).size) := hide (by rw [rowF_size, rowF_size])
  have BA : Hid (Below w.heap.size w (w.alloc (.cells (rowF (iv f) 244) 27))) := hide ((Below.refl _ w).alloc (Nat.le_refl _) _)
  set_option maxRecDepth 20000 in
  go_enter Try.func3, Try.ntmps3
  set_option maxRecDepth 20000 in
  go_wp2_with (first
    | (refine wpList_load_row rfl 27 (.tmp 3) rfl w.heap.size rfl _ _ _ _ P0.out Try.underlying27 rfl ZI.out ?_))
  refine (KW.out _).mono ?_
  rintro e w1 ⟨rfl, c1⟩
  have P1 := hide (P0.out.next c1)
  have B1 := hide (bnext BA.out c1)
  clear c1 P0 BA
  set_option maxRecDepth 20000 in
  go_wp2_with (first
    | (refine wpList_alloced rfl 27 rfl (rowF (iv fun _ => 0) 244) zero_P ?_)
    | (refine wpList_store_row rfl 27 (.tmp 7) (.tmp 12) rfl w1.heap.size _ (by simp [Act.eval, Act.put]) rfl 27 _ (hasF_new _ _ _ _) FI.out FS.out FO.out ?_; refine under_list fun w2 hh => ?_; have Q2 : Hid (HasF 27 w2 w1.heap.size 244 (iv F)) := hide (by rw [hh]; exact setRow_heap _ _ _ _ _ _ (hasF_new _ _ _ _)); have W2 : Below w1.heap.size w1 w2 := (by rw [hh]; exact below_setRow ((Below.refl _ _).alloc (Nat.le_refl _) _) (Nat.le_refl _) _); have P2 := hide (P1.out.next W2); have B2 := hide (bnext B1.out W2); clear hh W2 P1 B1)
    | (refine wpList_load_row rfl 27 (.tmp 3) rfl w.heap.size rfl _ _ _ _ P2.out Try.underlying27 rfl ZI.out ?_))
  refine (KV.out _).mono ?_
  rintro e w3 ⟨rfl, c3⟩
  have Q3 := hide (Q2.out.next c3)
  have P3 := hide (P2.out.next c3)
  have B3 := hide (bnext B2.out c3)
  clear c3 Q2 P2 B2 KV KW
  generalize w1.heap.size = g7 at *
  set_option maxRecDepth 20000 in
  go_wp2_with fail
  go_loopw [8] (fun v w' => ∃ k : Nat, k ≤ 6 ∧ v = .int .i64 k ∧ Below w3.heap.size w3 w') (fun v _ => 6 - (intOf v).toNat)
  case atStart => exact ⟨0, by decide, rfl, Below.refl _ _⟩
  case round =>
    obtain ⟨k, hk, rfl, hb4⟩ := hrel
    have B4 := hide hb4
    have Q4 := hide (Q3.out.next hb4)
    have P4 := hide (P3.out.next hb4)
    have s0 := P4.out.int 0 (by decide)
    clear hb4
    by_cases hlt : k < 6
    · by_cases h1 : (k : Int) = f 0
      · have d1 : ((k : Int) != f 0) = false := by simp [h1]
        have d1' : ((k : Int) == f 0) = true := by simp [h1]
        by_cases h2 : at_ < 2
        ·
          have d2 : decide (at_ < 2) = true := by simp [h2]
          have RQ := hide (Q4.out.range (4 + k * 40) 40 (by omega))
          have RP := hide (P4.out.range (4 + k * 40) 40 (by omega))
          rw [show rowF (fun j => iv F (4 + k * 40 + j)) 40 = rowF (fun j => iv f (4 + k * 40 + j)) 40 from rowF_ext fun j hj => by unfold iv; rw [HC.out k j hj (.inr (.inl h2))]] at RQ
          have EN := chan_neq (fun j => f (4 + k * 40 + j))
          change ∀ w, (binOp .neq 24 (.agg (rowF (fun j => iv f (4 + k * 40 + j)) 40)) (.agg (rowF (fun j => iv f (4 + k * 40 + j)) 40))).run Try.prog w = .ok (.bool false) w at EN
          have IX : Hid ((Try.prog.info? 24).map (·.size) = some (rowF (fun j => iv f (4 + k * 40 + j)) 40).size) := hide (info_C _)
          generalize rowF (fun j => iv f (4 + k * 40 + j)) 40 = X at *
          have HQ := hide Q4.out.lt
          have HP := hide P4.out.lt
          generalize f 0 = sl at *
          clear h1
          set_option maxRecDepth 20000 in
          go_wp2_with fail
          have k0 := kept_cell s0 P4.out.lt
          haveI := kept_some wr
          refine wp_region_kept (by kernel_rfl) (by kernel_rfl) ?_
          set_option maxRecDepth 20000 in
          repeat (first
            | (refine wpQuiet_mid rfl 24 (.tmp 42) rfl g7 (4 + k * 40) rfl X _ (fun w' ⟨x, hx⟩ => by rw [hx]; intro j v hv; rw [x.cell g7 _ HQ.out]; exact RQ.out j v hv) Try.underlying24 rfl IX.out ?_; simp only [Act.put, List.setIfInBounds_toArray, List.set_cons_succ, List.set_cons_zero])
            | (refine wpQuiet_mid rfl 24 (.tmp 46) rfl w.heap.size (4 + k * 40) rfl X _ (fun w' ⟨x, hx⟩ => by rw [hx]; intro j v hv; rw [x.cell w.heap.size _ HP.out]; exact RP.out j v hv) Try.underlying24 rfl IX.out ?_; simp only [Act.put, List.setIfInBounds_toArray, List.set_cons_succ, List.set_cons_zero])
            | go_big_quiet_step (fail))
          refine wpQuiet_nil ?_
          rintro _ ⟨wk, rfl⟩
          have B5 := hide (bnext B4.out wk.below)
          set_option maxRecDepth 20000 in
          go_wp2_with fail
          exact ⟨⟨k + 1, by omega, by go_num, B5.out⟩, by simp [intOf]; omega⟩
        · have d2 : decide (at_ < 2) = false := by simp; omega
          by_cases h3 : 7 < at_
          · have d3 : decide (7 < at_) = true := by simp [h3]
            have RQ := hide (Q4.out.range (4 + k * 40) 40 (by omega))
            have RP := hide (P4.out.range (4 + k * 40) 40 (by omega))
            rw [show rowF (fun j => iv F (4 + k * 40 + j)) 40 = rowF (fun j => iv f (4 + k * 40 + j)) 40 from rowF_ext fun j hj => by unfold iv; rw [HC.out k j hj (.inr (.inr h3))]] at RQ
            have EN := chan_neq (fun j => f (4 + k * 40 + j))
            change ∀ w, (binOp .neq 24 (.agg (rowF (fun j => iv f (4 + k * 40 + j)) 40)) (.agg (rowF (fun j => iv f (4 + k * 40 + j)) 40))).run Try.prog w = .ok (.bool false) w at EN
            have IX : Hid ((Try.prog.info? 24).map (·.size) = some (rowF (fun j => iv f (4 + k * 40 + j)) 40).size) := hide (info_C _)
            generalize rowF (fun j => iv f (4 + k * 40 + j)) 40 = X at *
            have HQ := hide Q4.out.lt
            have HP := hide P4.out.lt
            generalize f 0 = sl at *
            clear h1
            set_option maxRecDepth 20000 in
            go_wp2_with fail
            have k0 := kept_cell s0 P4.out.lt
            haveI := kept_some wr
            refine wp_region_kept (by kernel_rfl) (by kernel_rfl) ?_
            set_option maxRecDepth 20000 in
            repeat (first
              | (refine wpQuiet_mid rfl 24 (.tmp 42) rfl g7 (4 + k * 40) rfl X _ (fun w' ⟨x, hx⟩ => by rw [hx]; intro j v hv; rw [x.cell g7 _ HQ.out]; exact RQ.out j v hv) Try.underlying24 rfl IX.out ?_; simp only [Act.put, List.setIfInBounds_toArray, List.set_cons_succ, List.set_cons_zero])
              | (refine wpQuiet_mid rfl 24 (.tmp 46) rfl w.heap.size (4 + k * 40) rfl X _ (fun w' ⟨x, hx⟩ => by rw [hx]; intro j v hv; rw [x.cell w.heap.size _ HP.out]; exact RP.out j v hv) Try.underlying24 rfl IX.out ?_; simp only [Act.put, List.setIfInBounds_toArray, List.set_cons_succ, List.set_cons_zero])
              | go_big_quiet_step (fail))
            refine wpQuiet_nil ?_
            rintro _ ⟨wk, rfl⟩
            have B5 := hide (bnext B4.out wk.below)
            set_option maxRecDepth 20000 in
            go_wp2_with fail
            exact ⟨⟨k + 1, by omega, by go_num, B5.out⟩, by simp [intOf]; omega⟩
          · have d3 : decide (7 < at_) = false := by simp; omega
            generalize f 0 = sl at *
            clear h1
            set_option maxRecDepth 20000 in
            go_wp2_with fail
            have k0 := kept_cell s0 P4.out.lt
            haveI := kept_some wr
            refine wp_region_kept (by kernel_rfl) (by kernel_rfl) ?_
            set_option maxRecDepth 20000 in
            repeat (go_big_quiet_step (fail))
            refine wpQuiet_nil ?_
            rintro _ ⟨wk, rfl⟩
            have B5 := hide (bnext B4.out wk.below)
            set_option maxRecDepth 20000 in
            go_wp2_with fail
            exact ⟨⟨k + 1, by omega, by go_num, B5.out⟩, by simp [intOf]; omega⟩
      · have d1 : ((k : Int) != f 0) = true := by simp [h1]
        have RQ := hide (Q4.out.range (4 + k * 40) 40 (by omega))
        have RP := hide (P4.out.range (4 + k * 40) 40 (by omega))
        rw [show rowF (fun j => iv F (4 + k * 40 + j)) 40 = rowF (fun j => iv f (4 + k * 40 + j)) 40 from rowF_ext fun j hj => by unfold iv; rw [HC.out k j hj (.inl h1)]] at RQ
        have EN := chan_neq (fun j => f (4 + k * 40 + j))
        change ∀ w, (binOp .neq 24 (.agg (rowF (fun j => iv f (4 + k * 40 + j)) 40)) (.agg (rowF (fun j => iv f (4 + k * 40 + j)) 40))).run Try.prog w = .ok (.bool false) w at EN
        have IX : Hid ((Try.prog.info? 24).map (·.size) = some (rowF (fun j => iv f (4 + k * 40 + j)) 40).size) := hide (info_C _)
        generalize rowF (fun j => iv f (4 + k * 40 + j)) 40 = X at *
        have HQ := hide Q4.out.lt
        have HP := hide P4.out.lt
        generalize f 0 = sl at *
        set_option maxRecDepth 20000 in
        go_wp2_with fail
        have k0 := kept_cell s0 P4.out.lt
        haveI := kept_some wr
        refine wp_region_kept (by kernel_rfl) (by kernel_rfl) ?_
        set_option maxRecDepth 20000 in
        repeat (first
          | (refine wpQuiet_mid rfl 24 (.tmp 42) rfl g7 (4 + k * 40) rfl X _ (fun w' ⟨x, hx⟩ => by rw [hx]; intro j v hv; rw [x.cell g7 _ HQ.out]; exact RQ.out j v hv) Try.underlying24 rfl IX.out ?_; simp only [Act.put, List.setIfInBounds_toArray, List.set_cons_succ, List.set_cons_zero])
          | (refine wpQuiet_mid rfl 24 (.tmp 46) rfl w.heap.size (4 + k * 40) rfl X _ (fun w' ⟨x, hx⟩ => by rw [hx]; intro j v hv; rw [x.cell w.heap.size _ HP.out]; exact RP.out j v hv) Try.underlying24 rfl IX.out ?_; simp only [Act.put, List.setIfInBounds_toArray, List.set_cons_succ, List.set_cons_zero])
          | go_big_quiet_step (fail))
        refine wpQuiet_nil ?_
        rintro _ ⟨wk, rfl⟩
        have B5 := hide (bnext B4.out wk.below)
        set_option maxRecDepth 20000 in
        go_wp2_with fail
        exact ⟨⟨k + 1, by omega, by go_num, B5.out⟩, by simp [intOf]; omega⟩
    · obtain rfl : k = 6 := by omega
      have q0 := Q4.out.int 0 (by decide)
      have q1 := Q4.out.int 1 (by decide)
      have p1 := P4.out.int 1 (by decide)
      by_cases h0 : at_ = 0
      · rw [E0.out h0] at q0
        have hm := HM.out (by omega)
        rw [hm] at q1
        subst h0
        set_option maxRecDepth 20000 in
        go_wp2_with (first
          | (refine wpList_load_row rfl 27 (.tmp 7) rfl g7 rfl _ _ _ _ Q4.out Try.underlying27 rfl FI.out ?_))
        refine (KU.out _).mono ?_
        rintro e w5 ⟨rfl, c5⟩
        have q0 := (c5.cell (p := ⟨g7, 0, none⟩) Q4.out.lt).trans q0
        have q1 := (c5.cell (p := ⟨g7, 1, none⟩) Q4.out.lt).trans q1
        have p1 := (c5.cell (p := ⟨w.heap.size, 1, none⟩) P4.out.lt).trans p1
        set_option maxRecDepth 20000 in
        go_wp2_with fail
        all_goals (go_ret; exact ⟨by first | rfl | exact ret_bool (by simp), bnext (bnext B3.out B4.out) c5⟩)
      · have dd0 : (at_ == 0) = false := by simp [h0]
        by_cases h1 : at_ = 1
        · subst h1
          set_option maxRecDepth 20000 in
          go_wp2_with (first
            | (refine wpList_load_row rfl 27 (.tmp 7) rfl g7 rfl _ _ _ _ Q4.out Try.underlying27 rfl FI.out ?_))
          refine (KU.out _).mono ?_
          rintro e w5 ⟨rfl, c5⟩
          have q0 := (c5.cell (p := ⟨g7, 0, none⟩) Q4.out.lt).trans q0
          have q1 := (c5.cell (p := ⟨g7, 1, none⟩) Q4.out.lt).trans q1
          have p1 := (c5.cell (p := ⟨w.heap.size, 1, none⟩) P4.out.lt).trans p1
          set_option maxRecDepth 20000 in
          go_wp2_with fail
          all_goals (go_ret; exact ⟨by first | rfl | exact ret_bool (by simp), bnext (bnext B3.out B4.out) c5⟩)
        · have dd1 : (at_ == 1) = false := by simp [h1]
          rw [HM.out h1] at q1
          set_option maxRecDepth 20000 in
          go_wp2_with (first
            | (refine wpList_load_row rfl 27 (.tmp 7) rfl g7 rfl _ _ _ _ Q4.out Try.underlying27 rfl FI.out ?_))
          refine (KU.out _).mono ?_
          rintro e w5 ⟨rfl, c5⟩
          have q0 := (c5.cell (p := ⟨g7, 0, none⟩) Q4.out.lt).trans q0
          have q1 := (c5.cell (p := ⟨g7, 1, none⟩) Q4.out.lt).trans q1
          have p1 := (c5.cell (p := ⟨w.heap.size, 1, none⟩) P4.out.lt).trans p1
          set_option maxRecDepth 20000 in
          go_wp2_with fail
          all_goals (go_ret; exact ⟨by first | rfl | exact ret_bool (by simp), bnext (bnext B3.out B4.out) c5⟩)

theorem psgOthers_walk (f : Nat → Int) (at_ b : Int) (hf : ∀ j, j < 244 → (Lit.int .i64 (f j)).wf = true) (w1 : (Lit.int .i64 at_).wf = true) (w2 : (Lit.int .i64 b).wf = true) (w : World) : Calls Try.prog 3 #[.agg (rowF (iv f) 244), .int .i64 at_, .int .i64 b] w fun e w' => e = .returned (.bool true) ∧ Below w.heap.size w w' := by
  by_cases ok : okP f
  · exact others_yes f at_ b w ok
  · exact others_no f at_ b w (vB_no ok)

set_option maxRecDepth 100000 in
theorem psgOthers_lifted (os : Os) (started : os.Started) (H : Type) (enc : TypeId × Value → H) :
    ReturnsInHanded {} Try.checked os 3 .any (Rows.psgOthersSpec.pre6 enc Try.prog Try.f3 Rows.psgOthersRow.domain false) (Rows.psgOthersSpec.post enc Try.prog Try.f3 false true false false) := by
  refine returnsInHanded_of_change (C := Try.checked) own started (by kernel_rfl) Try.func3
    (ChangeSpec.witness6 (enc := enc) (C := Try.checked) false ⟨#[], #[.agg #[.int .i64 0, .int .i64 0, .int .i64 0, .int .i64 0, .int .i64 0, .int .i64 0, .int .i64 0, .int .i64 0, .int .i64 0, .int .i64 0, .int .i64 0, .int .i64 0, .int .i64 0, .int .i64 0, .int .i64 0, .int .i64 0, .int .i64 0, .int .i64 0, .int .i64 0, .int .i64 0, .int .i64 0, .int .i64 0, .int .i64 0, .int .i64 0, .int .i64 0, .int .i64 0, .int .i64 0, .int .i64 0, .int .i64 0, .int .i64 0, .int .i64 0, .int .i64 0, .int .i64 0, .int .i64 0, .int .i64 0, .int .i64 0, .int .i64 0, .int .i64 0, .int .i64 0, .int .i64 0, .int .i64 0, .int .i64 0, .int .i64 0, .int .i64 0, .int .i64 0, .int .i64 0, .int .i64 0, .int .i64 0, .int .i64 0, .int .i64 0, .int .i64 0, .int .i64 0, .int .i64 0, .int .i64 0, .int .i64 0, .int .i64 0, .int .i64 0, .int .i64 0, .int .i64 0, .int .i64 0, .int .i64 0, .int .i64 0, .int .i64 0, .int .i64 0, .int .i64 0, .int .i64 0, .int .i64 0, .int .i64 0, .int .i64 0, .int .i64 0, .int .i64 0, .int .i64 0, .int .i64 0, .int .i64 0, .int .i64 0, .int .i64 0, .int .i64 0, .int .i64 0, .int .i64 0, .int .i64 0, .int .i64 0, .int .i64 0, .int .i64 0, .int .i64 0, .int .i64 0, .int .i64 0, .int .i64 0, .int .i64 0, .int .i64 0, .int .i64 0, .int .i64 0, .int .i64 0, .int .i64 0, .int .i64 0, .int .i64 0, .int .i64 0, .int .i64 0, .int .i64 0, .int .i64 0, .int .i64 0, .int .i64 0, .int .i64 0, .int .i64 0, .int .i64 0, .int .i64 0, .int .i64 0, .int .i64 0, .int .i64 0, .int .i64 0, .int .i64 0, .int .i64 0, .int .i64 0, .int .i64 0, .int .i64 0, .int .i64 0, .int .i64 0, .int .i64 0, .int .i64 0, .int .i64 0, .int .i64 0, .int .i64 0, .int .i64 0, .int .i64 0, .int .i64 0, .int .i64 0, .int .i64 0, .int .i64 0, .int .i64 0, .int .i64 0, .int .i64 0, .int .i64 0, .int .i64 0, .int .i64 0, .int .i64 0, .int .i64 0, .int .i64 0, .int .i64 0, .int .i64 0, .int .i64 0, .int .i64 0, .int .i64 0, .int .i64 0, .int .i64 0, .int .i64 0, .int .i64 0, .int .i64 0, .int .i64 0, .int .i64 0, .int .i64 0, .int .i64 0, .int .i64 0, .int .i64 0, .int .i64 0, .int .i64 0, .int .i64 0, .int .i64 0, .int .i64 0, .int .i64 0, .int .i64 0, .int .i64 0, .int .i64 0, .int .i64 0, .int .i64 0, .int .i64 0, .int .i64 0, .int .i64 0, .int .i64 0, .int .i64 0, .int .i64 0, .int .i64 0, .int .i64 0, .int .i64 0, .int .i64 0, .int .i64 0, .int .i64 0, .int .i64 0, .int .i64 0, .int .i64 0, .int .i64 0, .int .i64 0, .int .i64 0, .int .i64 0, .int .i64 0, .int .i64 0, .int .i64 0, .int .i64 0, .int .i64 0, .int .i64 0, .int .i64 0, .int .i64 0, .int .i64 0, .int .i64 0, .int .i64 0, .int .i64 0, .int .i64 0, .int .i64 0, .int .i64 0, .int .i64 0, .int .i64 0, .int .i64 0, .int .i64 0, .int .i64 0, .int .i64 0, .int .i64 0, .int .i64 0, .int .i64 0, .int .i64 0, .int .i64 0, .int .i64 0, .int .i64 0, .int .i64 0, .int .i64 0, .int .i64 0, .int .i64 0, .int .i64 0, .int .i64 0, .int .i64 0, .int .i64 0, .int .i64 0, .int .i64 0, .int .i64 0, .int .i64 0, .int .i64 0, .int .i64 0, .int .i64 0, .int .i64 0, .int .i64 0, .int .i64 0, .int .i64 0, .int .i64 0, .int .i64 0, .int .i64 0, .int .i64 0, .int .i64 0, .int .i64 0, .int .i64 0, .int .i64 0, .int .i64 0, .int .i64 0, .int .i64 0, .int .i64 0, .int .i64 0, .int .i64 0, .int .i64 0], .int .i64 0, .int .i64 0], []⟩ 8 (by kernel_rfl) (by kernel_rfl) (by kernel_rfl) (by kernel_rfl)) ?_
  intro W base args ds gs before hval0 hW hcnd _
  have hval : ∀ (j : Nat) t v, Try.f3.params[j]? = some t → args[j]? = some v → Value.okWide Try.prog W .any base t v := hval0
  have hW' := hW
  obtain ⟨p, q, hA0, hV, rfl, hfz, hnd⟩ := hW
  have hA : DataW.TrodAll enc Try.prog W 0 (fun _ => true) true Try.f3.params.toList args.toList ds p := hA0
  rw [Try.params3] at hA hval
  obtain ⟨v0, vs0, d0, ds0, p0, q0, hargs, rfl, rfl, h0, r0⟩ := trodAll_cons hA
  obtain ⟨v1, vs1, d1, ds1, p1, q1, rfl, rfl, rfl, h1, r1⟩ := trodAll_cons r0
  obtain ⟨v2, vs2, d2, ds2, p2, q2, rfl, rfl, rfl, h2, r2⟩ := trodAll_cons r1
  obtain ⟨rfl, rfl, rfl⟩ := trodAll_nil r2
  obtain rfl : args = #[v0, v1, v2] := by cases args; simp_all
  obtain ⟨rfl, rfl⟩ := trodVars_none hV
  have k0 := h0
  have lt0 : ∀ x ∈ p0, x.block < W.heap.size := by obtain ⟨m, hm⟩ := k0; exact DataW.trod_lt m _ _ _ hm
  obtain ⟨f0, rfl, g0⟩ := open_flat Try.underlying27 (by kernel_rfl) psg_ints (hval 0 27 v0 rfl rfl) h0
  obtain ⟨a1, rfl, rfl, rfl, w1⟩ := open_int Try.underlying3 (hval 1 3 v1 rfl rfl) h1
  obtain ⟨a2, rfl, rfl, rfl, w2⟩ := open_int Try.underlying3 (hval 2 3 v2 rfl rfl) h2
  clear hA0 hval0
  refine (psgOthers_walk f0 a1 a2 g0 w1 w2 W).mono fun e W' ⟨he, bel⟩ => ?_
  subst he
  exact ⟨_, rfl, _, _, _, [], _, [], hW', trodAll_mk1 (shut_bool Try.underlying4 _), (trodAll_cons_mk (Below.trod laidOut (by kernel_rfl) (of_decide_eq_true (by kernel_rfl)) k0 bel lt0) (trodAll_cons_mk (shut_int Try.underlying3 w1) (trodAll_cons_mk (shut_int Try.underlying3 w2) trodAll_mk0))), rfl, bel.frame _, fun h => by cases h⟩

theorem psgOthers_over : Rows.psgOthersRow.holds Try.pinned (OpenSpec.ofChange Rows.psgOthersSpec) :=
  OpenClaim.holds_of_wide 3 Try.f3 rfl rfl rfl rfl rfl rfl rfl ⟨rfl, rfl, rfl, rfl, rfl⟩ rfl rfl rfl rfl rfl (by kernel_rfl) Try.func3 (by kernel_rfl)
    (of_decide_eq_true (by kernel_rfl)) (by unfold Func.isWrapper; first | (rw [if_pos (by decide +kernel)]; kernel_rfl) | (rw [if_neg (by decide +kernel)]; exact ⟨rfl, rfl⟩))
    (fun os started H enc _ => psgOthers_lifted os started H enc)

theorem psgOthers_holds : Rows.PsgOthersSaid := psgOthers_over
#print axioms psgOthers_holds
end Go.Proofs.Ytcpilhbinkamiab
