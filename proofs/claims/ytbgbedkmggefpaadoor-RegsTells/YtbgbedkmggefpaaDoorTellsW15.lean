/- RegsTells: the law's walk, the answers under letters. -/
import Derived.Test.YtbgbedkmggefpaaDoorLaw15
import Derived.Test.YtbgbedkmggefpaaDoorStays15
import Derived.Test.YtbgbedkmggefpaaDoorFresh15
import Derived.Test.YtbgbedkmggefpaaDoorRefW15
import Derived.Test.YtbgbedkmggefpaaDoorRefV15
import Derived.Deep.RegionWith
namespace Go.Proofs.YtbgbedkmggefpaaDoor
open Go.RowKit
set_option linter.unusedVariables false

/-- The four numbers. -/
def Has4 (w : World) (b : Nat) (n0 n1 n2 n3 : Int) : Prop := w.heap[b]? = some (.cells #[.int .i64 n0, .int .i64 n1, .int .i64 n2, .int .i64 n3] 25 (0, 0))
theorem Has4.next {w w' : World} {b : Nat} {n0 n1 n2 n3 : Int} (h : Has4 w b n0 n1 n2 n3) (k : Below w.heap.size w w') : Has4 w' b n0 n1 n2 n3 := (k.block b (lt_of_block h)).trans h
theorem Has4.lt {w : World} {b : Nat} {n0 n1 n2 n3 : Int} (h : Has4 w b n0 n1 n2 n3) : b < w.heap.size := lt_of_block h
theorem Has4.c0 {w : World} {b : Nat} {n0 n1 n2 n3 : Int} (h : Has4 w b n0 n1 n2 n3) : w.cell? ⟨b, 0, none⟩ = some (.int .i64 n0) := (cell_of_row w b 0 _ _ _ h).trans rfl
theorem Has4.c1 {w : World} {b : Nat} {n0 n1 n2 n3 : Int} (h : Has4 w b n0 n1 n2 n3) : w.cell? ⟨b, 1, none⟩ = some (.int .i64 n1) := (cell_of_row w b 1 _ _ _ h).trans rfl
theorem Has4.c2 {w : World} {b : Nat} {n0 n1 n2 n3 : Int} (h : Has4 w b n0 n1 n2 n3) : w.cell? ⟨b, 2, none⟩ = some (.int .i64 n2) := (cell_of_row w b 2 _ _ _ h).trans rfl
theorem Has4.c3 {w : World} {b : Nat} {n0 n1 n2 n3 : Int} (h : Has4 w b n0 n1 n2 n3) : w.cell? ⟨b, 3, none⟩ = some (.int .i64 n3) := (cell_of_row w b 3 _ _ _ h).trans rfl
theorem tells_in (s : Int) (f : Nat → Int) (n0 n1 n2 n3 s' x W H F m : Int) (f' : Nat → Int) (O R K : Bool) (w : World) (hM : HasMask w) (hm : f 5 = m) (h0 : 0 ≤ n2) (h1 : n2 < 16) (ho : (bits .and .i64 (m / 2 ^ n2.toNat) 1 == 1) = O) (CW : Hid (∀ w, HasMask w → Calls Tryd.prog 7 #[.agg (rowG s f), .int .i64 n0, .int .i64 n1] w fun e w' => e = .returned (.tuple #[.agg (rowG s' f'), .int .i64 x]) ∧ Below w.heap.size w w')) (RW : Hid (∀ w, Calls Tryd.prog 8 #[.agg (rowG s f), .int .i64 n0, .int .i64 n1] w fun e w' => e = .returned (.tuple #[.agg (rowG s' f'), .int .i64 x]) ∧ Below w.heap.size w w')) (CM : Hid (∀ w, Calls Tryd.prog 9 #[.agg (rowG s f)] w fun e w' => e = .returned (.tuple #[.int .i64 W, .int .i64 H]) ∧ Below w.heap.size w w')) (RM : Hid (∀ w, Calls Tryd.prog 10 #[.agg (rowG s f)] w fun e w' => e = .returned (.tuple #[.int .i64 W, .int .i64 H]) ∧ Below w.heap.size w w')) (CF : Hid (∀ w, Calls Tryd.prog 11 #[.agg (rowG s f)] w fun e w' => e = .returned (.int .i64 F) ∧ Below w.heap.size w w')) (RF : Hid (∀ w, Calls Tryd.prog 12 #[.agg (rowG s f)] w fun e w' => e = .returned (.int .i64 F) ∧ Below w.heap.size w w')) (CO : Hid (∀ w, Calls Tryd.prog 13 #[.agg (rowG s f), .int .i64 n2] w fun e w' => e = .returned (.bool O) ∧ Below w.heap.size w w')) (CR : Hid (∀ w, Calls Tryd.prog 14 #[.agg (rowG s f), .int .i64 n3] w fun e w' => e = .returned (.bool R) ∧ Below w.heap.size w w')) (RR : Hid (∀ w, Calls Tryd.prog 15 #[.agg (rowG s f), .int .i64 n3] w fun e w' => e = .returned (.bool R) ∧ Below w.heap.size w w')) (CV : Hid (∀ w, HasMask w → Calls Tryd.prog 16 #[.agg (rowG s f)] w fun e w' => e = .returned (.bool K) ∧ Below w.heap.size w w')) (RV : Hid (∀ w, Calls Tryd.prog 17 #[.agg (rowG s f)] w fun e w' => e = .returned (.bool K) ∧ Below w.heap.size w w')) (C0 : Hid (∀ w, Calls Tryd.prog 18 #[] w fun e w' => e = .returned (.agg #[.int .i64 0, .int .i64 0, .int .i64 0, .int .i64 0, .int .i64 0, .int .i64 0, .int .i64 0, .int .i64 0, .int .i64 0, .int .i64 0, .int .i64 0, .int .i64 0, .int .i64 0, .int .i64 0, .int .i64 0, .int .i64 0, .int .i64 0, .int .i64 0, .int .i64 0, .int .i64 0, .int .i64 0]) ∧ Below w.heap.size w w')) (V0 : Hid (∀ w, HasMask w → Calls Tryd.prog 16 #[.agg #[.int .i64 0, .int .i64 0, .int .i64 0, .int .i64 0, .int .i64 0, .int .i64 0, .int .i64 0, .int .i64 0, .int .i64 0, .int .i64 0, .int .i64 0, .int .i64 0, .int .i64 0, .int .i64 0, .int .i64 0, .int .i64 0, .int .i64 0, .int .i64 0, .int .i64 0, .int .i64 0, .int .i64 0]] w fun e w' => e = .returned (.bool true) ∧ Below w.heap.size w w')) : Calls Tryd.prog 3 #[.agg (rowG s f), .agg #[.int .i64 n0, .int .i64 n1, .int .i64 n2, .int .i64 n3]] w fun e w' => e = .returned (.bool true) ∧ Below w.heap.size w w' := by
  have V := hide ((hasG_new 24 w s f).alloc (.cells #[.int .i64 n0, .int .i64 n1, .int .i64 n2, .int .i64 n3] 25))
  have Q := hide (show Has4 ((w.alloc (.cells (rowG s f) 24)).alloc (.cells #[.int .i64 n0, .int .i64 n1, .int .i64 n2, .int .i64 n3] 25)) (w.heap.size + 1) n0 n1 n2 n3 from heap_alloc2_new w (.cells (rowG s f) 24) (.cells #[.int .i64 n0, .int .i64 n1, .int .i64 n2, .int .i64 n3] 25))
  have B := hide (((Below.refl _ w).alloc (Nat.le_refl _) (.cells (rowG s f) 24)).alloc (by simp) (.cells #[.int .i64 n0, .int .i64 n1, .int .i64 n2, .int .i64 n3] 25))
  have M := hide (hM.next B.out)
  clear hM
  go_enter Tryd.func3, Tryd.ntmps3
  set_option maxRecDepth 20000 in go_wp2_with (first | (refine wpList_load_row rfl 24 (.tmp 2) rfl w.heap.size rfl 24 _ (0, 0) _ V.out Tryd.underlying24 rfl (info_G _ _) ?_))
  refine under_calls fun w0 hw0 => ?_
  rw [← hw0] at V Q B M
  clear hw0
  refine (CW.out _ M.out).mono ?_
  rintro e w1 ⟨rfl, bw⟩
  replace B := hide (bnext B.out bw); replace M := hide (M.out.next bw); replace V := hide (V.out.next bw); replace Q := hide (Q.out.next bw)
  clear bw CW
  have q0 := Q.out.c0
  have q1 := Q.out.c1
  set_option maxRecDepth 20000 in
  go_wp2_with (first
    | (refine wpList_store_row rfl 24 (.tmp 5) (.tmp 21) rfl w1.heap.size _ rfl rfl 24 _ (heap_alloc_new w1 (.cells #[.int .i64 0, .int .i64 0, .int .i64 0, .int .i64 0, .int .i64 0, .int .i64 0, .int .i64 0, .int .i64 0, .int .i64 0, .int .i64 0, .int .i64 0, .int .i64 0, .int .i64 0, .int .i64 0, .int .i64 0, .int .i64 0, .int .i64 0, .int .i64 0, .int .i64 0, .int .i64 0, .int .i64 0] 24)) (info_G _ _) (by rw [rowG_size]; rfl) (rowG_one _ _) ?_; refine under_list fun u1 hu => ?_; have bw : Below w1.heap.size w1 u1 := (by rw [hu]; exact below_setRow ((Below.refl _ w1).alloc (Nat.le_refl _) _) (Nat.le_refl _) _); have V5 := hide (show HasG 24 u1 w1.heap.size s' f' by rw [hu]; exact setRow_heap _ _ _ _ _ _ (heap_alloc_new _ _)); replace B := hide (bnext B.out bw); replace M := hide (M.out.next bw); replace V := hide (V.out.next bw); replace Q := hide (Q.out.next bw); clear q0 q1; have q0 := Q.out.c0; have q1 := Q.out.c1; clear hu bw)
    | (refine wpList_load_row rfl 24 (.tmp 2) rfl w.heap.size rfl 24 _ (0, 0) _ V.out Tryd.underlying24 rfl (info_G _ _) ?_))
  refine (RW.out _).mono ?_
  rintro e w2 ⟨rfl, bw⟩
  replace B := hide (bnext B.out bw); replace M := hide (M.out.next bw); replace V := hide (V.out.next bw); replace Q := hide (Q.out.next bw)
  replace V5 := hide (V5.out.next bw)
  clear bw RW q0 q1
  set_option maxRecDepth 20000 in
  go_wp2_with (first
    | (refine wpList_store_row rfl 28 (.tmp 7) (.tmp 30) rfl w2.heap.size _ rfl rfl 28 _ (heap_alloc_new w2 (.cells #[.int .i64 0, .int .i64 0, .int .i64 0, .int .i64 0, .int .i64 0, .int .i64 0, .int .i64 0, .int .i64 0, .int .i64 0, .int .i64 0, .int .i64 0, .int .i64 0, .int .i64 0, .int .i64 0, .int .i64 0, .int .i64 0, .int .i64 0, .int .i64 0, .int .i64 0, .int .i64 0, .int .i64 0] 28)) (info_R _ _) (by rw [rowG_size]; rfl) (rowG_one _ _) ?_; refine under_list fun u2 hu => ?_; have bw : Below w2.heap.size w2 u2 := (by rw [hu]; exact below_setRow ((Below.refl _ w2).alloc (Nat.le_refl _) _) (Nat.le_refl _) _); have V7 := hide (show HasG 28 u2 w2.heap.size s' f' by rw [hu]; exact setRow_heap _ _ _ _ _ _ (heap_alloc_new _ _)); replace B := hide (bnext B.out bw); replace M := hide (M.out.next bw); replace V := hide (V.out.next bw); replace Q := hide (Q.out.next bw); replace V5 := hide (V5.out.next bw); clear hu bw)
    | (refine wpList_load_row rfl 24 (.tmp 2) rfl w.heap.size rfl 24 _ (0, 0) _ V.out Tryd.underlying24 rfl (info_G _ _) ?_))
  obtain ⟨g5, h5⟩ : ∃ g, g = w1.heap.size := ⟨_, rfl⟩
  obtain ⟨g7, h7⟩ : ∃ g, g = w2.heap.size := ⟨_, rfl⟩
  rw [← h5] at V5 ⊢
  rw [← h7] at V7 ⊢
  clear h5 h7
  refine (CM.out _).mono ?_
  rintro e w3 ⟨rfl, bw⟩
  replace B := hide (bnext B.out bw); replace M := hide (M.out.next bw); replace V := hide (V.out.next bw); replace Q := hide (Q.out.next bw)
  replace V5 := hide (V5.out.next bw)
  replace V7 := hide (V7.out.next bw)
  clear bw CM
  set_option maxRecDepth 20000 in go_wp2_with (first | (refine wpList_load_row rfl 24 (.tmp 2) rfl w.heap.size rfl 24 _ (0, 0) _ V.out Tryd.underlying24 rfl (info_G _ _) ?_))
  refine (RM.out _).mono ?_
  rintro e w4 ⟨rfl, bw⟩
  replace B := hide (bnext B.out bw); replace M := hide (M.out.next bw); replace V := hide (V.out.next bw); replace Q := hide (Q.out.next bw)
  replace V5 := hide (V5.out.next bw)
  replace V7 := hide (V7.out.next bw)
  clear bw RM
  have q2 := Q.out.c2
  have c5 : w4.cell? ⟨w.heap.size, 6, none⟩ = some (.int .i64 m) := by rw [← hm]; exact V.out.at 5 (by decide)
  clear hm
  set_option maxRecDepth 20000 in go_wp2_with fail
  have k2 := kept_cell q2 Q.out.lt
  have k3 := kept_cell Q.out.c3 Q.out.lt
  have er := eqR_self s' f'
  have ez := eqG_self 0 (fun _ => 0)
  rw [← zero_lit] at ez
  clear q2 c5
  haveI := kept_some w4
  refine wp_region_kept (by kernel_rfl) (by kernel_rfl) ?_
  set_option maxRecDepth 20000 in
  repeat (first
    | (refine wpQuiet_row rfl 24 (.tmp 2) rfl w.heap.size rfl 24 _ (0, 0) _ (fun w' ⟨x, hx⟩ => by rw [hx]; exact (x.block _ V.out.lt).trans V.out) Tryd.underlying24 rfl (info_G _ _) ?_; simp only [Act.put, List.setIfInBounds_toArray, List.set_cons_succ, List.set_cons_zero])
    | (refine wpQuiet_row rfl 24 (.tmp 5) rfl g5 rfl 24 _ (0, 0) _ (fun w' ⟨x, hx⟩ => by rw [hx]; exact (x.block _ V5.out.lt).trans V5.out) Tryd.underlying24 rfl (info_G _ _) ?_; simp only [Act.put, List.setIfInBounds_toArray, List.set_cons_succ, List.set_cons_zero])
    | (refine wpQuiet_row rfl 28 (.tmp 7) rfl g7 rfl 28 _ (0, 0) _ (fun w' ⟨x, hx⟩ => by rw [hx]; exact (x.block _ V7.out.lt).trans V7.out) Tryd.underlying28 rfl (info_R _ _) ?_; simp only [Act.put, List.setIfInBounds_toArray, List.set_cons_succ, List.set_cons_zero])
    | go_big_quiet_step ((first
      | (go_at_call 11; exact kept_call (CF.out _))
      | (go_at_call 12; exact kept_call (RF.out _))
      | (go_at_call 13; exact kept_call (CO.out _))
      | (go_at_call 14; exact kept_call (CR.out _))
      | (go_at_call 15; exact kept_call (RR.out _))
      | (go_at_call_of 16 (Value.agg (rowG s f)); exact kept_call (CV.out _ (M.out.next (Kept.below _))))
      | (go_at_call 16; exact kept_call (V0.out _ (M.out.next (Kept.below _))))
      | (go_at_call 17; exact kept_call (RV.out _))
      | (go_at_call 18; exact kept_call (C0.out _)))))
  refine wpQuiet_nil ?_
  rintro _ ⟨wk, rfl⟩
  clear k2 k3 er ez
  set_option maxRecDepth 20000 in go_wp2_with fail
  go_ret
  exact ⟨rfl, bnext B.out wk.below⟩
end Go.Proofs.YtbgbedkmggefpaaDoor
