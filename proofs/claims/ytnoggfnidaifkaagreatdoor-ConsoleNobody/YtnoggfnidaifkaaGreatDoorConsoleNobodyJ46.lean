/- The console of a card of one page, as New makes it. -/
import Derived.Test.YtnoggfnidaifkaaGreatDoorConsoleNobodyJ38
import Derived.Test.YtnoggfnidaifkaaGreatDoorConsoleNobodyJ43
import Derived.Test.YtnoggfnidaifkaaGreatDoorConsoleNobodyJ45
import Derived.Test.YtnoggfnidaifkaaGreatDoorConsoleNobodyJ21
import Derived.Test.YtnoggfnidaifkaaGreatDoorConsoleNobodyJ17
import Derived.Test.YtnoggfnidaifkaaGreatDoorConsoleNobodyJ23
import Derived.Test.YtnoggfnidaifkaaGreatDoorConsoleNobodyJ22
import Derived.Test.YtnoggfnidaifkaaGreatDoorConsoleNobodyJ01
namespace Go.Proofs.YtnoggfnidaifkaaGreatDoor.L25
set_option maxRecDepth 20000
open A2 B4 C3 D24 G6 I11 J23 K9 L24 M5 N8 O7 P22 R15 T10 V12 W13
open Go.RowKit
set_option linter.unusedVariables false
set_option linter.unusedSimpArgs false
theorem dot_0 (w : World) : Calls Tryz.prog 38 #[.agg (rowF (iv fun _ => 0) 514)] w fun e w' => e = Ending.returned (.int .i64 4) ∧ Below w.heap.size w w' := by
  have k := V12.dot_any 0 0 (fun _ => 0) w
  rw [← vF_row, show vF 0 0 (fun _ => 0) = fun _ => 0 from funext fun j => by unfold vF; split <;> first | rfl | (split <;> rfl)] at k
  exact k
theorem lines_0 (w : World) : Calls Tryz.prog 39 #[.agg (rowF (iv fun _ => 0) 514)] w fun e w' => e = Ending.returned (.int .i64 262) ∧ Below w.heap.size w w' := by
  have k := V12.lines_any 0 0 (fun _ => 0) w
  rw [← vF_row, show vF 0 0 (fun _ => 0) = fun _ => 0 from funext fun j => by unfold vF; split <;> first | rfl | (split <;> rfl)] at k
  exact k
theorem of_0 (w : World) : Calls Tryz.prog 37 #[.agg #[.int .i64 4, .int .i64 262, .int .i64 0, .int .i64 0, .int .i64 0, .int .i64 0]] w fun e w' => e = Ending.returned (.agg #[.int .i64 8, .int .i64 3, .int .i64 4, .int .i64 4, .int .i64 262]) ∧ Below w.heap.size w w' :=
  (of_any 4 262 0 0 0 0 w).mono fun e w' ⟨e1, b1⟩ => ⟨e1.trans (by kernel_rfl), b1⟩
theorem zero_20 (w : World) : (zeroValue 41).run Tryz.prog w = .ok (.agg (rowF (iv fun _ => 0) 20)) w := by kernel_rfl
set_option maxHeartbeats 4000000 in
theorem geometry_is {w : World} {b v c d : Nat} {bs : List Int} (h : HasM w b v c d bs zK) : Calls Tryz.prog 14 #[.pointer (some ⟨b, 0, none⟩)] w fun e w' => e = Ending.returned (.agg #[.int .i64 8, .int .i64 3, .int .i64 4, .int .i64 4, .int .i64 262]) ∧ Below w.heap.size w w' := by
  have SR := hide (show ∀ j, j < 20 → segs (XP v c zK) (1 + j) = iv (fun _ => 0) j from fun j hj => by
    have q := seg_of h.1 0 rfl (a := 0) rfl (j + 1) (by omega)
    rw [show 0 + (j + 1) = 1 + j by omega] at q
    exact q)
  have SV := hide (show ∀ j, j < 514 → segs (XP v c zK) (8483 + j) = iv (fun _ => 0) j from fun j hj => seg_of h.1 10 rfl (a := 8483) rfl j hj)
  have H := hide h
  have KD := hide dot_0
  have KL := hide lines_0
  have KO := hide of_0
  have LT := hide h.lts
  clear h
  go_enter Tryz.func14, Tryz.ntmps14
  have I20 := hide (show (Tryz.prog.info? 41).map (·.size) = some (rowF (iv fun _ => 0) 20).size by rw [rowF_size]; kernel_rfl)
  have O20 := hide (rowF_one (fun _ => 0) 20)
  have Z20 := hide zero_20
  obtain ⟨ZR, hZR⟩ : ∃ q, rowF (iv fun _ => 0) 20 = q := ⟨_, rfl⟩
  have HZR := hide hZR
  rw [hZR] at I20 O20 Z20
  clear hZR
  go_upto_region 2 with (first
    | (refine wpList_load_part rfl 41 (.tmp 8) rfl b 1 rfl (H.out.next ((Below.refl _ w).alloc (Nat.le_refl _) _)).1.1 20 (by decide) (iv fun _ => 0) SR.out _ Tryz.underlying41 rfl (by kernel_rfl) ?_; rw [HZR.out])
    | (refine wpList_alloced rfl 41 rfl ZR Z20.out ?_)
    | (refine wpList_store_row rfl 41 (.tmp 3) (.tmp 9) rfl (w.alloc (.cells #[.int .i64 0, .int .i64 0, .int .i64 0, .int .i64 0, .int .i64 0] 38)).heap.size _ rfl rfl 41 _ (heap_alloc_new _ _) I20.out rfl O20.out ?_))
  refine under_name fun w2 hw2 => ?_
  have e1 : (w.alloc (.cells #[.int .i64 0, .int .i64 0, .int .i64 0, .int .i64 0, .int .i64 0] 38)).heap.size = w.heap.size + 1 := by simp
  have q1 : w2.heap[w.heap.size]? = some (.cells #[.int .i64 0, .int .i64 0, .int .i64 0, .int .i64 0, .int .i64 0] 38 (0, 0)) := by
    rw [hw2, setRow_other _ _ _ _ (by simp), heap_alloc_old _ _ (by simp)]
    exact heap_alloc_new _ _
  have q2 : w2.heap[w.heap.size + 1]? = some (.cells ZR 41 (0, 0)) := by
    rw [hw2]
    have k := setRow_heap _ _ _ ZR _ _ (heap_alloc_new (w.alloc (.cells #[.int .i64 0, .int .i64 0, .int .i64 0, .int .i64 0, .int .i64 0] 38)) (.cells ZR 41))
    rw [e1] at k ⊢
    exact k
  have bw : Below w.heap.size w w2 := by
    rw [hw2]
    exact below_setRow (((Below.refl _ w).alloc (Nat.le_refl _) _).alloc (by simp) _) (by simp) _
  have Q1 : Hid (w2.heap[w.heap.size]? = some (.cells #[.int .i64 0, .int .i64 0, .int .i64 0, .int .i64 0, .int .i64 0] 38 (0, 0))) := hide q1
  have BW := hide bw
  have H2 := hide (H.out.next bw)
  have c11 := kept_cell ((cell_of_row w2 _ 11 _ _ _ q2).trans (show _ = some (Value.int .i64 0) by rw [← HZR.out]; exact rowF_at _ 20 11 (by decide))) (lt_of_block q2)
  have c12 := kept_cell ((cell_of_row w2 _ 12 _ _ _ q2).trans (show _ = some (Value.int .i64 0) by rw [← HZR.out]; exact rowF_at _ 20 12 (by decide))) (lt_of_block q2)
  have c13 := kept_cell ((cell_of_row w2 _ 13 _ _ _ q2).trans (show _ = some (Value.int .i64 0) by rw [← HZR.out]; exact rowF_at _ 20 13 (by decide))) (lt_of_block q2)
  have c14 := kept_cell ((cell_of_row w2 _ 14 _ _ _ q2).trans (show _ = some (Value.int .i64 0) by rw [← HZR.out]; exact rowF_at _ 20 14 (by decide))) (lt_of_block q2)
  have RV : Hid (∀ u, (∃ x : Kept w2, u = x.val) → u.rangeAt b 8483 (rowF (iv fun _ => 0) 514).toList) := hide (fun u hu => by
    obtain ⟨x, hx⟩ := hu
    rw [hx, ← rowF_ext SV.out]
    exact (H2.out.next x.below).1.1.range 8483 514 (by decide))
  have IV := hide (show (Tryz.prog.info? 53).map (·.size) = some (rowF (iv fun _ => 0) 514).size by rw [rowF_size]; kernel_rfl)
  obtain ⟨VR, hVR⟩ : ∃ q, rowF (iv fun _ => 0) 514 = q := ⟨_, rfl⟩
  rw [hVR] at RV KD KL IV
  clear hVR hw2 q1 q2 bw SR SV H
  simp only [Act.put, List.setIfInBounds_toArray, List.set_cons_succ, List.set_cons_zero, e1]
  clear e1
  haveI := kept_some w2
  refine wp_region_kept_last _ _ (show _ = [_, _, _, _, _, _, _, _, _, _, _, _, _, _, _, _, _, _, _, _] ++ [_] from rfl) (by kernel_rfl) (by kernel_rfl) (by kernel_rfl) ?_
  repeat (first
    | (refine wpQuiet_mid rfl 53 (.tmp 12) rfl b 8483 rfl VR _ RV.out Tryz.underlying53 rfl IV.out ?_; simp only [Act.put, List.setIfInBounds_toArray, List.set_cons_succ, List.set_cons_zero])
    | (refine wpQuiet_mid rfl 53 (.tmp 17) rfl b 8483 rfl VR _ RV.out Tryz.underlying53 rfl IV.out ?_; simp only [Act.put, List.setIfInBounds_toArray, List.set_cons_succ, List.set_cons_zero])
    | go_big_quiet_step ((first
        | (go_at_call 38; exact kept_call (KD.out _))
        | (go_at_call 39; exact kept_call (KL.out _))
        | (go_at_call 37; exact kept_call (KO.out _)))))
  refine wpQuiet_nil ?_
  rintro _ ⟨wk, rfl⟩
  have R3 := hide ((wk.block w.heap.size (lt_of_block Q1.out)).trans Q1.out)
  have B3 := hide (bnext BW.out wk.below)
  go_wp2_with (first
    | (refine wpList_store_row rfl 38 (.tmp 2) (.tmp 29) rfl w.heap.size _ rfl rfl 38 _ R3.out (by kernel_rfl) rfl (by kernel_rfl) ?_))
  (try simp only [Exit.inBlock, Exit.then])
  refine bodyPost_ret (results_cell_row rfl _ _ w.heap.size 38 _ (0, 0) _ rfl (setRow_heap _ _ _ _ _ _ R3.out) Tryz.underlying38 rfl (by kernel_rfl)) rfl ?_
  exact ⟨rfl, below_setRow B3.out (Nat.le_refl _) _⟩
def rc (pc : Int) : Nat → Int := fun j => if j = 4 then 4 else if j = 5 then pc else 0
theorem conOk_new {pc : Int} (h : 0 ≤ pc ∧ pc ≤ 65535) : ConOk (rc pc) 0 8 3 4 4 262 0 0 0 := by
  refine ⟨⟨by simp [rc], by simp [rc], by simp [rc], by simp [rc], by simp [rc], by simpa [rc] using h, by decide⟩, ⟨.inl rfl, by decide, by decide, by decide⟩, by decide, by decide, by decide⟩
theorem vz_K : VZ zK := by
  refine ⟨by decide, fun j _ => ⟨Int.le_refl _, show (0 : Int) ≤ 65535 by decide⟩, by decide, fun j hj => ?_, by decide, fun j hj => ?_, by decide, rfl, ?_⟩
  · show 0 ≤ fl0 j ∧ fl0 j ≤ 255
    unfold fl0
    split <;> decide
  · show 0 ≤ padZ (fun _ => 0) 0 (2 * j) ∧ padZ (fun _ => 0) 0 (2 * j) ≤ 65535
    rw [padZ_0]
    exact ⟨Int.le_refl _, show (0 : Int) ≤ 65535 by decide⟩
  · kernel_rfl
set_option maxHeartbeats 4000000 in
theorem con_new {w : World} {c d : Nat} {bs : List Int} (hc : HasCard w c d bs) (hl : bs.length = 8192) (hT : Tabs w) (hC : CT w) (hG : 10 ≤ w.heap.size) :
    Calls Tryz.prog 4 #[.pointer (some ⟨c, 0, none⟩)] w fun e w' => ∃ g b v pc, (0 ≤ pc ∧ pc ≤ 65535) ∧ e = Ending.returned (.pointer (some ⟨g, 0, none⟩)) ∧ HasM w' b v c d bs zK ∧ HasK w' g b (rc pc) false 0 8 3 4 4 262 0 0 0 ∧ (w.heap.size ≤ b ∧ w.heap.size ≤ v ∧ w.heap.size ≤ g) ∧ g ≠ b ∧ Below w.heap.size w w' := by
  have KN := hide (new_is hc (by omega) (by omega) hT)
  have HC := hide hC
  have HL := hide hl
  have HG := hide hG
  clear hc hT hC hl hG
  go_enter Tryz.func4, Tryz.ntmps4
  go_wp2_with fail
  refine KN.out.mono ?_
  rintro e w1 ⟨b, v, rfl, x1, ⟨lb, lv⟩, b1⟩
  have H1 := hide (show HasM w1 b v c d bs zK by
    refine ⟨?_, HC.out.next b1, gz_0 _ _, ⟨Nat.le_trans HG.out lb, Nat.le_trans HG.out lv⟩, ?_, ?_⟩
    · rw [← xp_0 (fun _ => 0)] at x1
      exact x1
    · rw [HL.out]; decide
    · rw [HL.out]; decide)
  have B1 := hide b1
  have LB := hide (show w.heap.size ≤ b ∧ w.heap.size ≤ v from ⟨lb, lv⟩)
  clear x1 b1 lb lv KN HC
  go_wp2_with fail
  refine (start_is H1.out).mono ?_
  rintro e w2 ⟨⟨pc, hpc, rfl⟩, h2, o2⟩
  have H2 := hide h2
  have PC := hide hpc
  have B2 := hide (B1.out.trans (o2.below (B := w.heap.size) (fun k e => by rcases e with rfl | rfl; exact LB.out.1; exact LB.out.2) B1.out.size))
  clear h2 o2 hpc H1 B1
  go_wp2_with fail
  refine (geometry_is H2.out).mono ?_
  rintro e w3 ⟨rfl, b3⟩
  have H3 := hide (H2.out.next b3)
  have B3 := hide (bnext B2.out b3)
  clear b3 H2 B2
  go_wp2
  go_ret
  have ba := (Below.refl w3.heap.size w3).alloc (Nat.le_refl _) (.cells (conC b (rc pc) false 0 8 3 4 4 262 0 0 0) 40)
  exact ⟨w3.heap.size, b, v, pc, PC.out, rfl, H3.out.next ba, heap_alloc_new _ _, ⟨LB.out.1, LB.out.2, B3.out.size⟩, Nat.ne_of_gt H3.out.lts.1, bnext B3.out ba⟩
end Go.Proofs.YtnoggfnidaifkaaGreatDoor.L25
