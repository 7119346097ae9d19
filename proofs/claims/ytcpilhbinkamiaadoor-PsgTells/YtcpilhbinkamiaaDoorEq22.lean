/- '==' of sounds, channels and samples that are the same; a fresh sound. -/
import Derived.Test.YtcpilhbinkamiaaDoorValP22
namespace Go.Proofs.YtcpilhbinkamiaaDoor
open Go.RowKit
set_option linter.unusedVariables false

theorem chan_self (c : Nat → Int) (d : Nat) (w : World) : (Op.equalIn (d + 3) 24 (.agg (rowF (iv c) 40)) (.agg (rowF (iv c) 40))).run Tryd.prog w = .ok true w := by
  refine same_struct (fs := _) Tryd.underlying24 (by kernel_rfl) (d + 2) w fun q hq => ?_
  simp only [List.mem_cons, List.not_mem_nil, or_false] at hq
  have one : ∀ i, i < 40 → ∃ a, (part 3 (rowF (iv c) 40) i).run Tryd.prog w = .ok a w ∧ (Op.equalIn (d + 2) 3 a a).run Tryd.prog w = .ok true w := fun i hi => ⟨_, part_int Tryd.underlying3 c 40 i hi w, by rw [run_equalIn_int w (d + 1) 3 .i64 .i64 _ _ Tryd.underlying3]; simp⟩
  rcases hq with rfl | rfl | rfl | rfl | rfl | rfl | rfl | rfl | rfl
  · exact one 0 (by decide)
  · exact one 1 (by decide)
  · exact one 2 (by decide)
  · exact one 3 (by decide)
  · exact ⟨_, part_row (t := 22) Tryd.underlying22 rfl (M := 32) (by kernel_rfl) (iv c) 40 4 (by decide) w, same_ints Tryd.underlying22 Tryd.underlying3 (i := Tryd.t3) (by kernel_rfl) (by kernel_rfl) (fun j => c (4 + j)) d w⟩
  · exact one 36 (by decide)
  · exact one 37 (by decide)
  · exact one 38 (by decide)
  · exact one 39 (by decide)
theorem psg_self (f : Nat → Int) (d : Nat) (w : World) : (Op.equalIn (d + 5) 27 (.agg (rowF (iv f) 244)) (.agg (rowF (iv f) 244))).run Tryd.prog w = .ok true w := by
  refine same_struct (fs := _) Tryd.underlying27 (by kernel_rfl) (d + 4) w fun q hq => ?_
  simp only [List.mem_cons, List.not_mem_nil, or_false] at hq
  have one : ∀ i, i < 244 → ∃ a, (part 3 (rowF (iv f) 244) i).run Tryd.prog w = .ok a w ∧ (Op.equalIn (d + 4) 3 a a).run Tryd.prog w = .ok true w := fun i hi => ⟨_, part_int Tryd.underlying3 f 244 i hi w, by rw [run_equalIn_int w (d + 3) 3 .i64 .i64 _ _ Tryd.underlying3]; simp⟩
  rcases hq with rfl | rfl | rfl | rfl | rfl
  · exact one 0 (by decide)
  · exact one 1 (by decide)
  · exact one 2 (by decide)
  · exact one 3 (by decide)
  · refine ⟨_, part_row (t := 25) Tryd.underlying25 rfl (M := 240) (by kernel_rfl) (iv f) 244 4 (by decide) w, ?_⟩
    rw [run_equalIn_array w (d + 3) _ _ Tryd.underlying25 (i := Tryd.t24) (by kernel_rfl), show Tryd.prog.cellsOf 24 = 40 by kernel_rfl]
    refine eqItems_self _ _ w fun j hj => ⟨_, part_row (t := 24) Tryd.underlying24 rfl (M := 40) (by kernel_rfl) (fun j => iv f (4 + j)) 240 (j * 40) (by have := List.mem_range.1 hj; omega) w, ?_⟩
    exact chan_self (fun i => f (4 + (j * 40 + i))) d w
theorem psg_eql (f : Nat → Int) (w : World) : (binOp .eql 27 (.agg (rowF (iv f) 244)) (.agg (rowF (iv f) 244))).run Tryd.prog w = .ok (.bool true) w := eql_true w (psg_self f 9995 w)
theorem psg_neq (f : Nat → Int) (w : World) : (binOp .neq 27 (.agg (rowF (iv f) 244)) (.agg (rowF (iv f) 244))).run Tryd.prog w = .ok (.bool false) w := neq_false w (psg_self f 9995 w)
theorem chan_neq (c : Nat → Int) (w : World) : (binOp .neq 24 (.agg (rowF (iv c) 40)) (.agg (rowF (iv c) 40))).run Tryd.prog w = .ok (.bool false) w := neq_false w (chan_self c 9997 w)
theorem rchan_self (c : Nat → Int) (d : Nat) (w : World) : (Op.equalIn (d + 3) 31 (.agg (rowF (iv c) 40)) (.agg (rowF (iv c) 40))).run Tryd.prog w = .ok true w := by
  refine same_struct (fs := _) Tryd.underlying31 (by kernel_rfl) (d + 2) w fun q hq => ?_
  simp only [List.mem_cons, List.not_mem_nil, or_false] at hq
  have one : ∀ i, i < 40 → ∃ a, (part 3 (rowF (iv c) 40) i).run Tryd.prog w = .ok a w ∧ (Op.equalIn (d + 2) 3 a a).run Tryd.prog w = .ok true w := fun i hi => ⟨_, part_int Tryd.underlying3 c 40 i hi w, by rw [run_equalIn_int w (d + 1) 3 .i64 .i64 _ _ Tryd.underlying3]; simp⟩
  rcases hq with rfl | rfl | rfl | rfl | rfl | rfl | rfl | rfl | rfl
  · exact one 0 (by decide)
  · exact one 1 (by decide)
  · exact one 2 (by decide)
  · exact one 3 (by decide)
  · exact ⟨_, part_row (t := 22) Tryd.underlying22 rfl (M := 32) (by kernel_rfl) (iv c) 40 4 (by decide) w, same_ints Tryd.underlying22 Tryd.underlying3 (i := Tryd.t3) (by kernel_rfl) (by kernel_rfl) (fun j => c (4 + j)) d w⟩
  · exact one 36 (by decide)
  · exact one 37 (by decide)
  · exact one 38 (by decide)
  · exact one 39 (by decide)
theorem rpsg_self (f : Nat → Int) (d : Nat) (w : World) : (Op.equalIn (d + 5) 34 (.agg (rowF (iv f) 244)) (.agg (rowF (iv f) 244))).run Tryd.prog w = .ok true w := by
  refine same_struct (fs := _) Tryd.underlying34 (by kernel_rfl) (d + 4) w fun q hq => ?_
  simp only [List.mem_cons, List.not_mem_nil, or_false] at hq
  have one : ∀ i, i < 244 → ∃ a, (part 3 (rowF (iv f) 244) i).run Tryd.prog w = .ok a w ∧ (Op.equalIn (d + 4) 3 a a).run Tryd.prog w = .ok true w := fun i hi => ⟨_, part_int Tryd.underlying3 f 244 i hi w, by rw [run_equalIn_int w (d + 3) 3 .i64 .i64 _ _ Tryd.underlying3]; simp⟩
  rcases hq with rfl | rfl | rfl | rfl | rfl
  · exact one 0 (by decide)
  · exact one 1 (by decide)
  · exact one 2 (by decide)
  · exact one 3 (by decide)
  · refine ⟨_, part_row (t := 32) Tryd.underlying32 rfl (M := 240) (by kernel_rfl) (iv f) 244 4 (by decide) w, ?_⟩
    rw [run_equalIn_array w (d + 3) _ _ Tryd.underlying32 (i := Tryd.t31) (by kernel_rfl), show Tryd.prog.cellsOf 31 = 40 by kernel_rfl]
    refine eqItems_self _ _ w fun j hj => ⟨_, part_row (t := 31) Tryd.underlying31 rfl (M := 40) (by kernel_rfl) (fun j => iv f (4 + j)) 240 (j * 40) (by have := List.mem_range.1 hj; omega) w, ?_⟩
    exact rchan_self (fun i => f (4 + (j * 40 + i))) d w
theorem rpsg_eql (f : Nat → Int) (w : World) : (binOp .eql 34 (.agg (rowF (iv f) 244)) (.agg (rowF (iv f) 244))).run Tryd.prog w = .ok (.bool true) w := eql_true w (rpsg_self f 9995 w)
def two (x y : Int) : Nat → Int := fun j => if j = 0 then x else y
theorem two_row (x y : Int) : (#[.int .i64 x, .int .i64 y] : Array Value) = rowF (iv (two x y)) 2 := rfl
theorem two_neq (x y : Int) (w : World) : (binOp .neq 40 (.agg #[.int .i64 x, .int .i64 y]) (.agg #[.int .i64 x, .int .i64 y])).run Tryd.prog w = .ok (.bool false) w := by
  rw [two_row]
  exact neq_false w (same_ints Tryd.underlying40 Tryd.underlying3 (i := Tryd.t3) (by kernel_rfl) (by kernel_rfl) (two x y) 9998 w)

/-! ### Fresh -/
def freshTo (n : Nat) : Nat → Int := fun i => if 4 ≤ i ∧ (i - 4) / 40 < n ∧ (i - 4) % 40 = 38 then 1 else 0
def freshF : Nat → Int := freshTo 6
theorem fresh_next (k : Nat) : up (freshTo k) (4 + k * 40 + 38) 1 = freshTo (k + 1) := by
  funext i
  unfold up freshTo
  by_cases h : i = 4 + k * 40 + 38
  · rw [if_pos h, if_pos (by omega)]
  · rw [if_neg h]
    by_cases h2 : 4 ≤ i ∧ (i - 4) / 40 < k ∧ (i - 4) % 40 = 38
    · rw [if_pos h2, if_pos (by omega)]
    · rw [if_neg h2, if_neg (by omega)]
theorem fresh_0 : freshTo 0 = fun _ => 0 := by
  funext i
  unfold freshTo
  rw [if_neg (by omega)]
theorem fresh_head (i : Nat) (h : i < 4) : freshF i = 0 := by
  unfold freshF freshTo
  rw [if_neg (by omega)]
theorem fresh_ch (k j : Nat) (hk : k < 6) (hj : j < 40) : ch freshF k j = if j = 38 then 1 else 0 := by
  unfold ch freshF freshTo
  by_cases h : j = 38
  · rw [if_pos h, if_pos (by omega)]
  · rw [if_neg h, if_neg (by omega)]
theorem fresh_ok : okP freshF := by
  unfold okP
  rw [fresh_head 0 (by decide), fresh_head 1 (by decide), fresh_head 2 (by decide), fresh_head 3 (by decide)]
  refine ⟨by decide, by decide, by decide, by decide, fun k hk => ?_⟩
  unfold okC
  rw [fresh_ch k 0 hk (by decide), fresh_ch k 1 hk (by decide), fresh_ch k 2 hk (by decide), fresh_ch k 3 hk (by decide), fresh_ch k 36 hk (by decide), fresh_ch k 37 hk (by decide), fresh_ch k 38 hk (by decide), fresh_ch k 39 hk (by decide)]
  refine ⟨by decide, by decide, by decide, by decide, by decide, by decide, by decide, by decide, fun i hi => ?_⟩
  rw [fresh_ch k (4 + i) hk (by omega), if_neg (by omega)]
  decide
theorem zero_P (w : World) : (zeroValue 27).run Tryd.prog w = .ok (.agg (rowF (iv fun _ => 0) 244)) w := by kernel_rfl
set_option maxHeartbeats 1600000 in
theorem fresh_any (w : World) : Calls Tryd.prog 11 #[] w fun e w' => e = Ending.returned (.agg (rowF (iv freshF) 244)) ∧ Below w.heap.size w w' := by
  go_enter Tryd.func11, Tryd.ntmps11
  go_wp2_with (first
    | (refine wpList_alloced rfl 27 rfl (rowF (iv fun _ => 0) 244) zero_P ?_))
  refine under_name fun wa hwa => ?_
  obtain ⟨n0, n1, n2, n3⟩ := two_named hwa
  have R0 : Hid (HasF 27 wa w.heap.size 244 (iv fun _ => 0)) := hide n0
  have H0 : Hid (HasF 27 wa (w.heap.size + 1) 244 (iv (freshTo 0))) := hide (by rw [fresh_0]; exact n1)
  have B0 := hide n3
  clear n0 n1 n2 n3 hwa
  generalize hs : w.heap.size = s0 at *
  go_loopw [3] (fun i w' => ∃ k : Nat, k ≤ 6 ∧ i = .int .i64 k ∧ HasF 27 w' (s0 + 1) 244 (iv (freshTo k)) ∧ HasF 27 w' s0 244 (iv fun _ => 0) ∧ Below s0 w w') (fun i _ => 6 - (intOf i).toNat)
  case atStart => exact ⟨0, by decide, rfl, H0.out, R0.out, B0.out⟩
  case round =>
    clear H0 R0 B0
    obtain ⟨k, hk, rfl, h1, r1, b1⟩ := hrel
    have H1 := hide h1
    have R1 := hide r1
    have B1 := hide b1
    by_cases hlt : k < 6
    · have c := h1.int (4 + k * 40 + 38) (by omega)
      have z := h1.frozen (4 + k * 40 + 38)
      clear h1 r1 b1
      go_wp2_with fail
      exact ⟨⟨k + 1, by omega, by go_num, by rw [← fresh_next]; exact H1.out.up _ _, R1.out.other _ _ (by simp), Below.setCell (p := ⟨s0 + 1, 4 + k * 40 + 38, none⟩) B1.out (Nat.le_succ _) _⟩, by simp [intOf]; omega⟩
    · obtain rfl : k = 6 := by omega
      clear h1 r1 b1
      obtain ⟨F, hF⟩ : ∃ F, F = freshTo 6 := ⟨_, rfl⟩
      rw [← hF] at H1
      replace hF := hide hF
      set_option maxRecDepth 20000 in
      go_wp2_with (first
        | (refine wpList_load_row rfl 27 (.tmp 1) rfl (s0 + 1) rfl _ _ _ _ H1.out Tryd.underlying27 rfl (info_P _) ?_)
        | (refine wpList_store_row rfl 27 (.tmp 0) (.tmp 11) rfl s0 _ rfl rfl 27 _ R1.out (info_P _) (by rw [rowF_size, rowF_size]) (rowF_one _ _) ?_))
      refine bodyPost_ret (results_cell_row rfl _ _ s0 27 _ (0, 0) _ rfl (setRow_heap _ _ _ _ _ _ R1.out) Tryd.underlying27 rfl (info_P _)) rfl ?_
      exact ⟨by rw [hF.out]; rfl, by rw [hs]; exact below_setRow B1.out (Nat.le_refl _) _⟩
end Go.Proofs.YtcpilhbinkamiaaDoor
