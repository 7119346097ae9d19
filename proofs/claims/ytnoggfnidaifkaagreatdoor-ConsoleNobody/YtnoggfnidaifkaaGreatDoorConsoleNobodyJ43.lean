/- The processor behind a reset, of a machine as New makes it. -/
import Derived.Test.YtnoggfnidaifkaaGreatDoorConsoleNobodyJ32
import Derived.Test.YtnoggfnidaifkaaGreatDoorConsoleNobodyJ42
namespace Go.Proofs.YtnoggfnidaifkaaGreatDoor.L25
set_option maxRecDepth 20000
open A2 B4 C3 D24 G6 I11 J23 K9 L24 M5 N8 O7 P22 R15 T10 V12 W13
open Go.RowKit
set_option linter.unusedVariables false
def zK : Nat → Nat → Int := Z0 (fun _ => 0) 0
def r4 : Nat → Int := fun j => if j = 4 then 4 else 0
def zS : Nat → Nat → Int := upZ (upZ (upZ (upZ zK 20 r4) 21 (oneV 0)) 22 (oneV 0)) 23 (oneV 0)
theorem zS_low (k : Nat) (hk : k < 20) : zS k = zK k := by
  unfold zS
  rw [upZ_other _ _ _ _ (by omega), upZ_other _ _ _ _ (by omega), upZ_other _ _ _ _ (by omega), upZ_other _ _ _ _ (by omega)]
theorem zK_good : ∀ k, GZ k (zK k) := gz_0 _ _
theorem built_S0 (b : Nat) (w : World) : (Instr.build 112 #[(1, .pointer (some ⟨b, 0, none⟩))]).run Tryz.prog w = .ok (.agg #[.int .i64 0, .int .i64 0, .int .i64 0, .int .i64 0, .int .i64 0, .int .i64 0, .bool false, .int .i64 0, .pointer (some ⟨b, 0, none⟩), .int .i64 0, .string ⟨#[]⟩, .int .i64 0, .int .i64 0, .int .i64 0, .int .i64 0, .int .i64 0, .int .i64 0, .int .i64 0, .int .i64 0, .int .i64 0, .int .i64 0, .int .i64 0, .int .i64 0, .int .i64 0, .bool false]) w := run_build w _ _ _ (by kernel_rfl)
theorem zero_S0 (w : World) : (zeroValue 112).run Tryz.prog w = .ok (.agg #[.int .i64 0, .int .i64 0, .int .i64 0, .int .i64 0, .int .i64 0, .int .i64 0, .bool false, .int .i64 0, .pointer none, .int .i64 0, .string ⟨#[]⟩, .int .i64 0, .int .i64 0, .int .i64 0, .int .i64 0, .int .i64 0, .int .i64 0, .int .i64 0, .int .i64 0, .int .i64 0, .int .i64 0, .int .i64 0, .int .i64 0, .int .i64 0, .bool false]) w := by kernel_rfl
theorem tam_reset (w : World) : Calls Tryz.prog 35 #[.agg #[.int .i64 0, .int .i64 248, .int .i64 0, .int .i64 0, .int .i64 0, .int .i64 0, .int .i64 0, .int .i64 0], .int .i64 128, .int .i64 0] w fun e w' => e = Ending.returned (.agg (rowF (iv fl0) 8)) ∧ Below w.heap.size w w' :=
  (M5.tam_any fl0 128 0 w).mono fun e w' ⟨e1, b1⟩ => ⟨e1.trans (by kernel_rfl), b1⟩
theorem seg_of {w : World} {b v c d : Nat} {bs : List Int} {Z : Nat → Nat → Int} (h : HasP w b v c d bs Z) (k : Nat) {n : Nat} {f : Nat → Value} (hk : (XP v c Z)[k]? = some (n, f)) {a : Nat} (ha : (blens.take k).sum = a) : ∀ j, j < n → segs (XP v c Z) (a + j) = f j := fun j hj => by
  have q := segs_get (XP v c Z) k n f j hk hj
  rw [h.isB.off k ha] at q
  exact q
theorem row_zS (b : Nat) : #[.int .i64 0, .int .i64 0, .int .i64 0, .int .i64 0, .int .i64 4, .int .i64 0, .bool false, .int .i64 0, .pointer (some ⟨b, 0, none⟩), .int .i64 0, .string ⟨#[]⟩, .int .i64 0, .int .i64 0, .int .i64 0, .int .i64 0, .int .i64 0, .int .i64 0, .int .i64 0, .int .i64 0, .int .i64 0, .int .i64 0, .int .i64 0, .int .i64 0, .int .i64 0, .bool false] = rowF (segs (SP b ⟨#[]⟩ (fun _ => 0) (fun _ => 0) false zS)) 25 := rfl
theorem row_pS {b : Nat} {Z : Nat → Nat → Int} (h20 : Z 20 = r4) (h21 : Z 21 = oneV 0) (h22 : Z 22 = oneV 0) {y : Int} (h23 : Z 23 0 = y) : rowF (segs (SP b ⟨#[]⟩ (fun _ => 0) (fun _ => 0) false Z)) 25 = #[.int .i64 0, .int .i64 0, .int .i64 0, .int .i64 0, .int .i64 4, .int .i64 0, .bool false, .int .i64 0, .pointer (some ⟨b, 0, none⟩), .int .i64 y, .string ⟨#[]⟩, .int .i64 0, .int .i64 0, .int .i64 0, .int .i64 0, .int .i64 0, .int .i64 0, .int .i64 0, .int .i64 0, .int .i64 0, .int .i64 0, .int .i64 0, .int .i64 0, .int .i64 0, .bool false] := by
  unfold SP
  rw [h20, h21, h22, h23]
  rfl
theorem rd_low (Z : Nat → Nat → Int) (h9 : Z 9 = fl0) (x : Int) (hx : kindW (physOf fl0 x) = 0) (k : Nat) (hk : k ≠ 23) : rS Z x k = Z k := by
  have e : phZ Z x = physOf fl0 x := by unfold phZ; rw [h9]
  unfold rS rdZ
  rw [show phZ Z x = physOf fl0 x from e, if_neg (by omega), if_neg (by omega), if_neg (by omega), if_neg (by omega), if_neg (by omega)]
  exact cyc_at _ _ _ hk
theorem pS_low (k : Nat) (hk : k ≠ 23) : pS zS 65534 (wOf 65534 1) k = zS k := by
  have h9 : zS 9 = fl0 := (zS_low 9 (by decide)).trans rfl
  have e1 := fun k hk => rd_low zS h9 65534 (by decide) k hk
  unfold pS
  rw [rd_low (rS zS 65534) ((e1 9 (by decide)).trans h9) (wOf 65534 1) (by decide) k hk, e1 k hk]
theorem jn_le (x y : Int) : 0 ≤ jn x y ∧ jn x y ≤ 65535 := by
  unfold jn
  omega
set_option maxHeartbeats 4000000 in
theorem start_is {w : World} {b v c d : Nat} {bs : List Int} (h : HasM w b v c d bs zK) :
    Calls Tryz.prog 13 #[.pointer (some ⟨b, 0, none⟩)] w fun e w' => (∃ pc, (0 ≤ pc ∧ pc ≤ 65535) ∧ e = Ending.returned (.agg #[.int .i64 0, .int .i64 0, .int .i64 0, .int .i64 0, .int .i64 4, .int .i64 pc, .bool false, .int .i64 0])) ∧ HasM w' b v c d bs zK ∧ OnlyE (EX b v) w w' := by
  have HA := hide (h.next ((Below.refl w.heap.size w).alloc (Nat.le_refl _) (.cells #[.int .i64 0, .int .i64 0, .int .i64 0, .int .i64 0, .int .i64 0, .int .i64 0, .bool false, .int .i64 0] 35)))
  have BA := hide ((Below.refl w.heap.size w).alloc (Nat.le_refl _) (.cells #[.int .i64 0, .int .i64 0, .int .i64 0, .int .i64 0, .int .i64 0, .int .i64 0, .bool false, .int .i64 0] 35))
  have G0 : Hid ((w.alloc (.cells #[.int .i64 0, .int .i64 0, .int .i64 0, .int .i64 0, .int .i64 0, .int .i64 0, .bool false, .int .i64 0] 35)).heap[w.heap.size]? = some (.cells #[.int .i64 0, .int .i64 0, .int .i64 0, .int .i64 0, .int .i64 0, .int .i64 0, .bool false, .int .i64 0] 35 (0, 0))) := hide (heap_alloc_new _ _)
  have LT := hide h.lts
  have HS := hide h.size
  have KT := hide tam_reset
  clear h
  go_enter Tryz.func13, Tryz.ntmps13
  go_wp2_with fail
  obtain ⟨g0, hg0⟩ : ∃ g, w.heap.size = g := ⟨_, rfl⟩
  have NE : Hid (¬ EX b v g0 ∧ w.heap.size ≤ g0 ∧ (g0 ≠ b ∧ g0 ≠ v ∧ g0 ≠ c ∧ g0 ≠ d ∧ 10 ≤ g0)) := hide (by
    have := LT.out; have := HS.out
    exact ⟨fun e => by rcases e with e | e <;> omega, by omega, by omega⟩)
  rw [hg0] at G0 ⊢
  refine (missing_is HA.out.1 HA.out.2.2.1).mono ?_
  rintro e w1 ⟨rfl, p1, o1⟩
  have H1 := hide (HA.out.bus p1 o1 HA.out.2.2.1)
  have F1 := hide (o1.obj G0.out NE.out.1)
  have O1 : Hid (OnlyE (EX b v) w w1) := hide ((ex_below BA.out).trans o1)
  clear p1 o1 HA G0 BA
  go_wp2_with fail
  refine (M5.fresh_any _).mono ?_
  rintro e w2 ⟨rfl, b2⟩
  have H2 := hide (H1.out.next b2)
  have F2 := hide (obj_next F1.out b2)
  have O2 := hide (O1.out.trans (ex_below b2))
  clear b2 H1 F1 O1
  go_wp2_with fail
  refine (KT.out _).mono ?_
  rintro e w3 ⟨rfl, b3⟩
  have H3 := hide (H2.out.next b3)
  have F3 := hide (obj_next F2.out b3)
  have O3 := hide (O2.out.trans (ex_below b3))
  clear b3 H2 F2 O2
  go_upto_region 4 with (first
    | (refine wpList_store_part rfl 50 (.tmp 11) (.tmp 9) rfl b 8475 8 (iv fl0) rfl rfl H3.out.1.1 (by decide) (by kernel_rfl) (fun _ _ => rfl) ?_))
  refine under_name fun w4 hw4 => ?_
  have b4 : But b w3 w4 := by rw [hw4]; exact But.cells _ _ _ (But.refl b w3)
  have H4 := hide (show HasM w4 b v c d bs zK by
    have q : HasF 70 w4 b 9263 (segs (XP v c zK)) := by
      rw [hw4]
      refine (H3.out.1.1.cells 8475 8 (iv fl0)).ext fun j hj => ?_
      by_cases e : 8475 ≤ j ∧ j < 8475 + 8
      · rw [if_pos e]
        have g := seg_of H3.out.1 9 rfl (a := 8475) rfl (j - 8475) (by omega)
        rw [show 8475 + (j - 8475) = j by omega] at g
        exact g.symm
      · rw [if_neg e]
    have q2 : HasP w4 b v c d bs zK := HasX.row H3.out.1 b4 q H3.out.1.isB rfl rfl
    exact H3.out.bus q2 (ex_but b4) H3.out.2.2.1)
  have F4 := hide (b4.obj F3.out NE.out.2.2.1)
  have O4 := hide (O3.out.trans (ex_but b4))
  clear hw4 b4 H3 F3 O3
  go_upto_region 5 with (first
    | (refine wpList_built rfl 112 _ rfl #[(1, .pointer (some ⟨b, 0, none⟩))] (by simp [Act.eval]) _ (built_S0 _) ?_)
    | (refine wpList_alloced rfl 112 rfl #[.int .i64 0, .int .i64 0, .int .i64 0, .int .i64 0, .int .i64 0, .int .i64 0, .bool false, .int .i64 0, .pointer none, .int .i64 0, .string ⟨#[]⟩, .int .i64 0, .int .i64 0, .int .i64 0, .int .i64 0, .int .i64 0, .int .i64 0, .int .i64 0, .int .i64 0, .int .i64 0, .int .i64 0, .int .i64 0, .int .i64 0, .int .i64 0, .bool false] zero_S0 ?_)
    | (refine wpList_store_row rfl 112 (.tmp 3) (.tmp 13) rfl w4.heap.size _ rfl rfl 112 _ (heap_alloc_new _ _) (by kernel_rfl) rfl (by kernel_rfl) ?_))
  refine under_name fun w5 hw5 => ?_
  have G5 : Hid (w5.heap[w4.heap.size]? = some (.cells #[.int .i64 0, .int .i64 0, .int .i64 0, .int .i64 0, .int .i64 0, .int .i64 0, .bool false, .int .i64 0, .pointer (some ⟨b, 0, none⟩), .int .i64 0, .string ⟨#[]⟩, .int .i64 0, .int .i64 0, .int .i64 0, .int .i64 0, .int .i64 0, .int .i64 0, .int .i64 0, .int .i64 0, .int .i64 0, .int .i64 0, .int .i64 0, .int .i64 0, .int .i64 0, .bool false] 112 (0, 0))) := hide (by rw [hw5]; exact setRow_heap _ _ _ _ _ _ (heap_alloc_new _ _))
  have B5 : Hid (Below w4.heap.size w4 w5) := hide (by rw [hw5]; exact below_setRow ((Below.refl _ w4).alloc (Nat.le_refl _) _) (Nat.le_refl _) _)
  obtain ⟨s, hs0⟩ : ∃ s, w4.heap.size = s := ⟨_, rfl⟩
  have SL : Hid (w.heap.size ≤ s ∧ s ≠ g0 ∧ (s ≠ b ∧ s ≠ v ∧ s ≠ c ∧ s ≠ d ∧ 10 ≤ s)) := hide (by
    have l0 := lt_of_block F4.out
    have lt4 := H4.out.lts
    have sz := H4.out.size
    exact ⟨by rw [← hs0]; exact O4.out.size, by omega, by omega⟩)
  have H5 := hide (H4.out.next B5.out)
  have F5 := hide (obj_next F4.out B5.out)
  have O5 := hide (O4.out.trans (ex_below B5.out))
  rw [hs0] at G5 ⊢
  clear hw5 hs0 B5 H4 F4 O4
  have s4 : w5.cell? ⟨s, 4, none⟩ = some (.int .i64 0) := (cell_of_row _ s 4 _ _ _ G5.out).trans rfl
  have f4 := frozen_of_row w5 s 4 _ _ G5.out
  go_upto_region 6 with fail
  refine under_name fun w6 hw6 => ?_
  have k6 : OnlyE (fun i => i = s) w5 w6 := by rw [hw6]; exact ⟨rfl, rfl, rfl, by simp [World.setCell], fun i hi hE => heap_setCell_other w5 _ i _ hE⟩
  have Q6 : Hid (HasQ w6 s b v c d bs ⟨#[]⟩ (fun _ => 0) (fun _ => 0) false zS) := hide (by
    have m5 := H5.out.but k6 SL.out.2.2
    have g6 : w6.heap[s]? = some (.cells #[.int .i64 0, .int .i64 0, .int .i64 0, .int .i64 0, .int .i64 4, .int .i64 0, .bool false, .int .i64 0, .pointer (some ⟨b, 0, none⟩), .int .i64 0, .string ⟨#[]⟩, .int .i64 0, .int .i64 0, .int .i64 0, .int .i64 0, .int .i64 0, .int .i64 0, .int .i64 0, .int .i64 0, .int .i64 0, .int .i64 0, .int .i64 0, .int .i64 0, .int .i64 0, .bool false] 112 (0, 0)) := by rw [hw6]; exact heap_setCell_same w5 s 4 _ _ _ G5.out
    obtain ⟨n1, n2, n3, n4, n5⟩ := SL.out.2.2
    refine ⟨?_, hasP_low m5.1 zS_low, m5.2.1, good_up (good_up (good_up (good_up zK_good 20 _ ?_) 21 _ trivial) 22 _ trivial) 23 _ trivial, ⟨n1, n2, n3, n4, n5, m5.2.2.2.1.1, m5.2.2.2.1.2⟩, m5.2.2.2.2⟩
    · unfold HasF
      rw [← row_zS]
      exact g6
    · have q := cutR_good r4
      rwa [show cutR r4 = r4 from funext fun j => by unfold cutR r4; by_cases e5 : j = 5 <;> by_cases e4 : j = 4 <;> simp [e5, e4]] at q)
  have F6 := hide (k6.obj F5.out (fun e => SL.out.2.1 e.symm))
  have O6 := hide (ex_own O5.out k6 SL.out.1)
  clear hw6 k6 H5 F5 O5 G5 s4 f4
  go_wp2_with fail
  refine (readWord_is Q6.out 65534).mono ?_
  rintro e w7 ⟨rfl, q7, o7⟩
  have PC := hide (jn_le (rV bs zS 65534) (rV bs (rS zS 65534) (wOf 65534 1)))
  have H7 := hide (show HasM w7 b v c d bs zK from ⟨hasP_low q7.mach.1 (fun k hk => by rw [pS_low k (by omega), zS_low k hk]), q7.mach.2.1, zK_good, q7.mach.2.2.2⟩)
  have F7 := hide (o7.obj F6.out (fun e => by rcases e with e | e | e; exact SL.out.2.1 e.symm; exact NE.out.1 (.inl e); exact NE.out.1 (.inr e)))
  have O7 := hide (eq_drop O6.out o7 SL.out.1)
  have G7 := q7.1
  unfold HasF at G7
  obtain ⟨y, hy⟩ : ∃ y, pS zS 65534 (wOf 65534 1) 23 0 = y := ⟨_, rfl⟩
  rw [row_pS ((pS_low 20 (by decide)).trans rfl) ((pS_low 21 (by decide)).trans rfl) ((pS_low 22 (by decide)).trans rfl) hy] at G7
  replace G7 := hide G7
  obtain ⟨pc, hpc⟩ : ∃ pc, pV bs zS 65534 (wOf 65534 1) = pc := ⟨_, rfl⟩
  rw [hpc]
  replace PC := hide (show 0 ≤ pc ∧ pc ≤ 65535 by rw [← hpc]; exact PC.out)
  clear q7 o7 hy hpc F6 O6 Q6
  have s5 : w7.cell? ⟨s, 5, none⟩ = some (.int .i64 0) := (cell_of_row _ s 5 _ _ _ G7.out).trans rfl
  have f5 := frozen_of_row w7 s 5 _ _ G7.out
  go_upto_region 7 with fail
  refine under_name fun w8 hw8 => ?_
  have G8 := hide (show w8.heap[s]? = some (.cells ((#[.int .i64 0, .int .i64 0, .int .i64 0, .int .i64 0, .int .i64 4, .int .i64 0, .bool false, .int .i64 0, .pointer (some ⟨b, 0, none⟩), .int .i64 y, .string ⟨#[]⟩, .int .i64 0, .int .i64 0, .int .i64 0, .int .i64 0, .int .i64 0, .int .i64 0, .int .i64 0, .int .i64 0, .int .i64 0, .int .i64 0, .int .i64 0, .int .i64 0, .int .i64 0, .bool false] : Array Value).setIfInBounds 5 (.int .i64 pc)) 112 (0, 0)) by rw [hw8]; exact heap_setCell_same w7 s 5 _ _ _ G7.out)
  have k8 : OnlyE (fun i => i = s) w7 w8 := by rw [hw8]; exact ⟨rfl, rfl, rfl, by simp [World.setCell], fun i hi hE => heap_setCell_other w7 _ i _ hE⟩
  have H8 := hide (H7.out.but k8 SL.out.2.2)
  have F8 := hide (k8.obj F7.out (fun e => SL.out.2.1 e.symm))
  have O8 := hide (ex_own O7.out k8 SL.out.1)
  clear hw8 k8 H7 F7 O7 G7 s5 f5
  have R8 := hide (show w8.rangeAt s 0 (#[.int .i64 0, .int .i64 0, .int .i64 0, .int .i64 0, .int .i64 4, .int .i64 pc, .bool false, .int .i64 0] : Array Value).toList from fun j u hu => by
    rw [cell_of_row w8 s (0 + j) _ _ _ G8.out]
    rcases j with _ | _ | _ | _ | _ | _ | _ | _ | j <;> first | exact hu | exact absurd hu (by simp))
  go_wp2_with (first
    | (refine wpList_load_mid rfl 35 (.tmp 21) rfl s 0 rfl _ _ R8.out Tryz.underlying35 rfl (by kernel_rfl) ?_)
    | (refine wpList_store_row rfl 35 (.tmp 2) (.tmp 22) rfl g0 _ rfl rfl 35 _ F8.out (by kernel_rfl) rfl (by kernel_rfl) ?_))
  have k9 : OnlyE (fun i => i = g0) w8 (w8.setRow g0 #[.int .i64 0, .int .i64 0, .int .i64 0, .int .i64 0, .int .i64 4, .int .i64 pc, .bool false, .int .i64 0]) := ⟨rfl, rfl, rfl, by simp [World.setRow], fun i hi hE => setRow_other w8 g0 i _ hE⟩
  refine bodyPost_ret (results_cell_row rfl _ _ g0 35 _ (0, 0) _ rfl (setRow_heap _ _ _ _ _ _ F8.out) Tryz.underlying35 rfl (by kernel_rfl)) rfl ?_
  exact ⟨⟨pc, PC.out, rfl⟩, H8.out.but k9 NE.out.2.2, ex_own O8.out k9 NE.out.2.1⟩
end Go.Proofs.YtnoggfnidaifkaaGreatDoor.L25
