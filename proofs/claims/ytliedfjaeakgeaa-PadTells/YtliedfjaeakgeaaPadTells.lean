/- For every port, five pads and a number the law PadTells of layer 23 returns true: any port is the document's behind any write, and any pads are read of it as it says. No condition. -/
import Derived.Test.YtliedfjaeakgeaaOpen23
import Derived.Test.YtliedfjaeakgeaaRef23
import Derived.Test.YtliedfjaeakgeaaWant
import Derived.OpenShut
import Derived.ShutString
import Derived.ChangeOld
import Derived.Below
namespace Go.Proofs.Ytliedfjaeakgeaa
open Go.ChangeShapes Go.WideShapes Go.ChangeAt Go.RowKit
open Go.ChangeMaps (open_string shut_string)
set_option linter.unusedVariables false
theorem own : ownKnob Try.prog.godebug = none := by kernel_rfl

/-- The pads of the document, so many of them laid. -/
def pk (c : Nat → Value) (k : Nat) : Nat → Value := fun j => if j < k * 2 then c j else pc (fun _ => 0) (fun _ => false) j
theorem pk_none (c : Nat → Value) : rowF (pk c 0) 10 = #[.int .i64 0, .bool false, .int .i64 0, .bool false, .int .i64 0, .bool false, .int .i64 0, .bool false, .int .i64 0, .bool false] := by
  rw [show pk c 0 = pc (fun _ => 0) (fun _ => false) from funext fun j => by simp [pk]]
  rfl
theorem pk_all (c : Nat → Value) : rowF (pk c 5) 10 = rowF c 10 := rowF_ext fun j hj => by unfold pk; rw [if_pos (by omega)]
theorem pk_next (c : Nat → Value) (k : Nat) : ∀ j, j < 10 → (if k * 2 ≤ j ∧ j < k * 2 + 2 then (fun q => c (k * 2 + q)) (j - k * 2) else pk c k j) = pk c (k + 1) j := fun j _ => by
  unfold pk
  by_cases h : k * 2 ≤ j ∧ j < k * 2 + 2
  · rw [if_pos h, if_pos (by omega)]
    show c (k * 2 + (j - k * 2)) = c j
    rw [show k * 2 + (j - k * 2) = j by omega]
  · rw [if_neg h]
    by_cases h2 : j < k * 2
    · rw [if_pos h2, if_pos (by omega)]
    · rw [if_neg h2, if_neg (by omega)]
theorem pc_one (K : Nat → Int) (X : Nat → Bool) (j : Nat) : (pc K X j).oneCell' = true := by unfold pc; split <;> rfl
set_option maxHeartbeats 4000000 in
theorem tells_go (s c d : Bool) (i : Int) (K : Nat → Int) (X : Nat → Bool) (b : Int) (w : World) : Calls Try.prog 3 #[.agg #[.bool s, .bool c, .bool d, .int .i64 i], .agg (rowF (pc K X) 10), .int .i64 b] w fun e w' => e = .returned (.bool true) ∧ Below w.heap.size w w' := by
  have KW := hide (fun w => write_any s c d i b w)
  have KV := hide (fun w => rwrite_any s c d i b w)
  have KR := hide (fun ab w => read_any s c d i K X ab w)
  have KQ := hide (fun ab w => rread_any s c d i K X ab w)
  have K5 : Hid (∀ w, Calls Try.prog 9 #[.agg #[.bool false, .bool false, .bool false, .int .i64 5], .agg (rowF (pc K X) 10), .bool true] w fun e w' => e = Ending.returned (.int .i64 191) ∧ Below w.heap.size w w') := hide (fun w => read_any false false false 5 K X true w)
  generalize selB b = S at *
  generalize clrB b = C at *
  generalize nxD c d C = D at *
  generalize nxI s S C i = I at *
  obtain ⟨F, hF⟩ : ∃ F : Bool → Int, ∀ ab, rdOf s d i K X ab = F ab := ⟨fun ab => rdOf s d i K X ab, fun _ => rfl⟩
  simp only [hF] at KR KQ
  clear hF
  have EQ := eqP S C D I
  go_enter Try.func3, Try.ntmps3
  go_wp2_with fail
  refine under_name fun wa hwa => ?_
  have P0 := hide (show HasP 23 wa w.heap.size s c d i by rw [hwa]; exact ((hasP_new _ _ _ _ _ _).next ((Below.refl _ _).alloc (Nat.le_refl _) _)).next ((Below.refl _ _).alloc (Nat.le_refl _) _))
  have N0 := hide (show HasF 26 wa (w.heap.size + 1) 10 (pc K X) by rw [hwa]; exact (hasF_new2 _ _ _ _ _).next ((Below.refl _ _).alloc (Nat.le_refl _) _))
  have Q0 := hide (show HasF 28 wa (w.heap.size + 2) 10 (pk (pc K X) 0) by
    have h := hasF_new2 28 (w.alloc (.cells #[.bool s, .bool c, .bool d, .int .i64 i] 23)) (.cells (rowF (pc K X) 10) 26) 10 (pk (pc K X) 0)
    rw [show (w.alloc (.cells #[.bool s, .bool c, .bool d, .int .i64 i] 23)).heap.size + 1 = w.heap.size + 2 by simp, pk_none] at h
    rw [hwa]
    exact h)
  have B0 := hide (show Below w.heap.size w wa by rw [hwa]; exact (((Below.refl _ w).alloc (Nat.le_refl _) _).alloc (by simp) _).alloc (by simp; omega) _)
  clear hwa
  obtain ⟨s0, hs0⟩ : ∃ s, w.heap.size = s := ⟨_, rfl⟩
  rw [hs0] at P0 Q0 N0 ⊢
  have HS := hide hs0
  clear hs0
  go_loopw [8] (fun v w' => ∃ k : Nat, k ≤ 5 ∧ v = .int .i64 k ∧ HasP 23 w' s0 s c d i ∧ HasF 26 w' (s0 + 1) 10 (pc K X) ∧ HasF 28 w' (s0 + 2) 10 (pk (pc K X) k) ∧ Below w.heap.size w w') (fun v _ => 5 - (intOf v).toNat)
  case atStart => exact ⟨0, Nat.zero_le _, rfl, P0.out, N0.out, Q0.out, B0.out⟩
  case round =>
    clear P0 Q0 N0 B0
    obtain ⟨k, hk, rfl, h1, h2, h3, h4⟩ := hrel
    have P1 := hide h1
    have N1 := hide h2
    have Q1 := hide h3
    have B1 := hide h4
    clear h1 h2 h3 h4
    by_cases hlt : k < 5
    · go_wp2_with (first
        | (refine wpList_load_part rfl 25 (.tmp 16) rfl (s0 + 1) (k * 2) rfl N1.out 2 (by omega) (fun q => pc K X (k * 2 + q)) (fun _ _ => rfl) _ Try.underlying25 rfl (by kernel_rfl) ?_)
        | (refine wpList_store_part rfl 27 (.tmp 18) (.tmp 17) rfl (s0 + 2) (k * 2) 2 (fun q => pc K X (k * 2 + q)) rfl rfl Q1.out (by omega) (by kernel_rfl) (fun j _ => pc_one K X _) ?_
           refine under_list fun w6 hw6 => ?_
           have b6 : But (s0 + 2) wr w6 := (by rw [hw6]; exact But.cells _ _ _ (But.refl _ _))
           have Q6 : Hid (HasF 28 w6 (s0 + 2) 10 (pk (pc K X) (k + 1))) := hide (by rw [hw6]; exact (Q1.out.cells _ _ _).ext (pk_next _ k))
           have N6 := hide (b6.keep N1.out (by omega))
           have P6 := hide (show HasP 23 w6 s0 s c d i from b6.obj P1.out (by omega))
           have B6 := hide (bbut B1.out b6 (by have := HS.out; omega) (Nat.le_refl _))
           clear b6 hw6 Q1 N1 P1 B1))
      exact ⟨⟨k + 1, by omega, by go_num, P6.out, N6.out, Q6.out, B6.out⟩, by simp [intOf]; omega⟩
    · obtain rfl : k = 5 := by omega
      clear hlt hk
      have QR : Hid (wr.heap[s0 + 2]? = some (.cells (rowF (pc K X) 10) 28 (0, 0))) := hide (by rw [← pk_all]; exact Q1.out)
      have i0 := kept_cell P1.out.c0 P1.out.lt
      have i1 := kept_cell P1.out.c1 P1.out.lt
      have i2 := kept_cell P1.out.c2 P1.out.lt
      have i3 := kept_cell P1.out.c3 P1.out.lt
      have NR : Hid (wr.heap[s0 + 1]? = some (.cells (rowF (pc K X) 10) 26 (0, 0))) := hide N1.out
      have RI : Hid ((Try.prog.info? 26).map (·.size) = some (rowF (pc K X) 10).size) := hide (by rw [rowF_size]; kernel_rfl)
      have RJ : Hid ((Try.prog.info? 28).map (·.size) = some (rowF (pc K X) 10).size) := hide (by rw [rowF_size]; kernel_rfl)
      clear Q1 N1 P1
      generalize rowF (pc K X) 10 = R at *
      generalize hab : (bits .and .i64 b 16 == 16) = ab at *
      go_wp2_with fail
      haveI := kept_some wr
      refine wp_region_kept (by kernel_rfl) (by kernel_rfl) ?_
      repeat (first
        | (refine wpQuiet_row rfl 26 (.tmp 4) rfl (s0 + 1) rfl 26 R (0, 0) _ (fun w' ⟨x, hx⟩ => by rw [hx]; exact (x.block _ (lt_of_block NR.out)).trans NR.out) Try.underlying26 rfl RI.out ?_; simp only [Act.put, List.setIfInBounds_toArray, List.set_cons_succ, List.set_cons_zero])
        | (refine wpQuiet_row rfl 28 (.tmp 7) rfl (s0 + 2) rfl 28 R (0, 0) _ (fun w' ⟨x, hx⟩ => by rw [hx]; exact (x.block _ (lt_of_block QR.out)).trans QR.out) Try.underlying28 rfl RJ.out ?_; simp only [Act.put, List.setIfInBounds_toArray, List.set_cons_succ, List.set_cons_zero])
        | go_big_quiet_step ((first
            | (go_at_call 7; exact kept_call (KW.out _))
            | (go_at_call 8; exact kept_call (KV.out _))
            | (go_at_call 10; exact kept_call (KQ.out _ _))
            | (go_at_call_of 9 (Value.agg #[.bool false, .bool false, .bool false, .int .i64 5]); exact kept_call (K5.out _))
            | (go_at_call 9; exact kept_call (KR.out _ _)))))
      refine wpQuiet_nil ?_
      rintro _ ⟨wk, rfl⟩
      go_wp2
      go_ret
      exact ⟨by first | rfl | exact ret_bool (by simp), bnext B1.out wk.below⟩
theorem padTells_walk (s c d : Bool) (i : Int) (K : Nat → Int) (X : Nat → Bool) (b : Int) (w0 : (Lit.int .i64 i).wf = true) (w1 : ∀ j, j < 5 → (Lit.int .i64 (K j)).wf = true) (w2 : (Lit.int .i64 b).wf = true) (w : World) : Calls Try.prog 3 #[.agg #[.bool s, .bool c, .bool d, .int .i64 i], .agg (rowF (pc K X) 10), .int .i64 b] w fun e w' => e = .returned (.bool true) ∧ Below w.heap.size w w' := tells_go s c d i K X b w

set_option maxRecDepth 100000 in
theorem padTells_lifted (os : Os) (started : os.Started) (H : Type) (enc : TypeId × Value → H) :
    ReturnsInHanded {} Try.checked os 3 .any (Rows.padTellsSpec.pre6 enc Try.prog Try.f3 Rows.padTellsRow.domain false) (Rows.padTellsSpec.post enc Try.prog Try.f3 false true false false) := by
  refine returnsInHanded_of_change (C := Try.checked) own started (by kernel_rfl) Try.func3
    (ChangeSpec.witness6 (enc := enc) (C := Try.checked) false ⟨#[], #[.agg #[.bool false, .bool false, .bool false, .int .i64 0], .agg #[.int .i64 0, .bool false, .int .i64 0, .bool false, .int .i64 0, .bool false, .int .i64 0, .bool false, .int .i64 0, .bool false], .int .i64 0], []⟩ 8 (by kernel_rfl) (by kernel_rfl) (by kernel_rfl) (by kernel_rfl)) ?_
  intro W base args ds gs before hval0 hW hcnd _
  have hval : ∀ (j : Nat) t v, Try.f3.params[j]? = some t → args[j]? = some v → Value.okWide Try.prog W .any base t v := hval0
  have hW' := hW
  obtain ⟨p, q, hA0, hV, rfl, hfz, hnd⟩ := hW
  have hA : DataW.TrodAll enc Try.prog W 0 (fun _ => true) true Try.f3.params.toList args.toList ds p := hA0
  rw [Try.params3] at hA hval
  obtain ⟨v0, vs0, d0, ds0, p0, q0, hargs, rfl, rfl, h0, r0⟩ := trodAll_cons hA
  obtain ⟨v1, vs1, d1, ds1, p1, q1, rfl, rfl, rfl, h1, r1⟩ := trodAll_cons r0
  obtain ⟨v2, vs2, d2, ds2, p2, q2, rfl, rfl, rfl, h2, r2⟩ := trodAll_cons r1
  obtain ⟨rfl, rfl, rfl⟩ := trodAll_nil r2
  obtain rfl : args = #[v0, v1, v2] := by cases args; simp_all
  obtain ⟨rfl, rfl⟩ := trodVars_none hV
  have k0 := h0
  have lt0 : ∀ x ∈ p0, x.block < W.heap.size := by obtain ⟨m, hm⟩ := k0; exact DataW.trod_lt m _ _ _ hm
  obtain ⟨cs0, fu0, rfl, sz0, hf0⟩ := open_struct_cells (n := 4) Try.underlying23 (by kernel_rfl) (hval 0 23 v0 rfl rfl) h0
  obtain ⟨y0f0, hy0f0⟩ := hf0 0 _ rfl
  obtain ⟨a0f0, g0f0, _⟩ := DataW.trod_bool Try.underlying4 hy0f0
  have e0f0 := cell_at (by kernel_rfl) g0f0
  obtain ⟨y0f1, hy0f1⟩ := hf0 1 _ rfl
  obtain ⟨a0f1, g0f1, _⟩ := DataW.trod_bool Try.underlying4 hy0f1
  have e0f1 := cell_at (by kernel_rfl) g0f1
  obtain ⟨y0f2, hy0f2⟩ := hf0 2 _ rfl
  obtain ⟨a0f2, g0f2, _⟩ := DataW.trod_bool Try.underlying4 hy0f2
  have e0f2 := cell_at (by kernel_rfl) g0f2
  obtain ⟨y0f3, hy0f3⟩ := hf0 3 _ rfl
  obtain ⟨a0f3, g0f3, _, w0f3⟩ := DataW.trod_int Try.underlying3 hy0f3
  have e0f3 := cell_at (by kernel_rfl) g0f3
  obtain rfl : cs0 = #[.bool a0f0, .bool a0f1, .bool a0f2, .int .i64 a0f3] := cells_are [.bool a0f0, .bool a0f1, .bool a0f2, .int .i64 a0f3] sz0 (fun j hj => by
    rcases j with _ | _ | _ | _ | j
    · exact e0f0
    · exact e0f1
    · exact e0f2
    · exact e0f3
    · exact absurd hj (by simp only [List.length_cons, List.length_nil]; omega))
  clear hy0f0 g0f0 e0f0 hy0f1 g0f1 e0f1 hy0f2 g0f2 e0f2 hy0f3 g0f3 e0f3 sz0 hf0
  have kk1 := h1
  have lt1 : ∀ x ∈ p1, x.block < W.heap.size := by obtain ⟨m, hm⟩ := kk1; exact DataW.trod_lt m _ _ _ hm
  obtain ⟨k1, x1, rfl, w1⟩ := open_pads (n := 5) Try.underlying26 (by kernel_rfl) Try.underlying25 (by kernel_rfl) rfl rfl (by kernel_rfl) Try.underlying3 rfl rfl (by kernel_rfl) Try.underlying4 (hval 1 26 v1 rfl rfl) h1
  obtain ⟨a2, rfl, rfl, rfl, w2⟩ := open_int Try.underlying3 (hval 2 3 v2 rfl rfl) h2
  clear hA0 hval0
  refine (padTells_walk a0f0 a0f1 a0f2 a0f3 k1 x1 a2 w0f3 w1 w2 W).mono fun e W' ⟨he, bel⟩ => ?_
  subst he
  exact ⟨_, rfl, _, _, _, [], _, [], hW', trodAll_mk1 (shut_bool Try.underlying4 _), (trodAll_cons_mk (Below.trod laidOut (by kernel_rfl) (of_decide_eq_true (by kernel_rfl)) k0 bel lt0) (trodAll_cons_mk (Below.trod laidOut (by kernel_rfl) (of_decide_eq_true (by kernel_rfl)) kk1 bel lt1) (trodAll_cons_mk (shut_int Try.underlying3 w2) trodAll_mk0))), rfl, bel.frame _, fun h => by cases h⟩

theorem padTells_over : Rows.padTellsRow.holds Try.pinned (OpenSpec.ofChange Rows.padTellsSpec) :=
  OpenClaim.holds_of_wide 3 Try.f3 rfl rfl rfl rfl rfl rfl rfl ⟨rfl, rfl, rfl, rfl, rfl⟩ rfl rfl rfl rfl rfl (by kernel_rfl) Try.func3 (by kernel_rfl)
    (of_decide_eq_true (by kernel_rfl)) (by unfold Func.isWrapper; first | (rw [if_pos (by decide +kernel)]; kernel_rfl) | (rw [if_neg (by decide +kernel)]; exact ⟨rfl, rfl⟩))
    (fun os started H enc _ => padTells_lifted os started H enc)

theorem padTells_holds : Rows.PadTellsSaid := padTells_over
#print axioms padTells_holds
end Go.Proofs.Ytliedfjaeakgeaa
