/- Package psg: the LFO, a channel's period, how loud it is. -/
import Derived.Test.YtcpilhbinkamiaaDoorGoOn22
import Derived.Test.YtcpilhbinkamiaaDoorLastOp
namespace Go.Proofs.YtcpilhbinkamiaaDoor
open Go.RowKit
set_option linter.unusedVariables false

theorem lfo_any {w : World} {b : Nat} {f : Nat → Int} (h : HasF 27 w b 244 (iv f)) (ok : okP f) : Calls Tryd.prog 17 #[.pointer (some ⟨b, 0, none⟩)] w fun e w' => e = Ending.returned (.int .i64 (lfoOf f)) ∧ w' = w := by
  have c := h.int 3 (by decide)
  have hb := ok.2.2.2.1
  have K := hide (fun w => set_7 hb.1 hb.2 w)
  have m := and_3 (f 3)
  by_cases h1 : 128 ≤ f 3
  · have HQ : Hid (lfoOf f = 0) := hide (by unfold lfoOf; rw [if_pos h1])
    have hd : decide (128 ≤ f 3) = true := by simp [h1]
    rw [hd] at K
    clear hd ok h
    generalize f 3 = x at *
    go_enter Tryd.func17, Tryd.ntmps17
    go_wp2_with (go_at_call 32; refine (K.out _).mono ?_; rintro e w' ⟨rfl, hw⟩; subst w')
    go_ret
    exact ⟨ret_int HQ.out.symm, rfl⟩
  · have HQ : Hid (lfoOf f = f 3 % 4) := hide (by unfold lfoOf; rw [if_neg h1])
    have hd : decide (128 ≤ f 3) = false := by simp; omega
    rw [hd] at K
    clear hd ok h
    generalize f 3 = x at *
    go_enter Tryd.func17, Tryd.ntmps17
    go_wp2_with (go_at_call 32; refine (K.out _).mono ?_; rintro e w' ⟨rfl, hw⟩; subst w')
    go_ret
    exact ⟨ret_int HQ.out.symm, rfl⟩

theorem chPeriod_any {w : World} {b : Nat} {x : Nat → Int} (h : HasF 24 w b 40 (iv x)) (x0 : 0 ≤ x 0) (x1 : x 0 ≤ 4095) (q : Bool) : Calls Tryd.prog 33 #[.pointer (some ⟨b, 0, none⟩), .bool q] w fun e w' => e = Ending.returned (.int .i64 (if q = true then 6 * perOf (x 3) else 6 * orL (x 0) 4096)) ∧ w' = w := by
  have c0 := h.int 0 (by decide)
  have c3 := h.int 3 (by decide)
  have p := perOf_in (x 3)
  have o := orL_in (n := x 0) (l := 4096) (by omega)
  have K1 := hide (fun w => period_any (x 3) w)
  have K2 := hide (fun w => orLongest_any (x 0) 4096 w)
  generalize orL (x 0) 4096 = ol at *
  generalize perOf (x 3) = pe at *
  clear h
  cases q
  · go_enter Tryd.func33, Tryd.ntmps33
    go_wp2_with (first
      | (go_at_call 35; refine (K2.out _).mono ?_; rintro e w' ⟨rfl, hw⟩; subst w'))
    go_ret
    exact ⟨rfl, rfl⟩
  · go_enter Tryd.func33, Tryd.ntmps33
    go_wp2_with (first
      | (go_at_call 49; refine (K1.out _).mono ?_; rintro e w' ⟨rfl, hw⟩; subst w'))
    go_ret
    exact ⟨rfl, rfl⟩

theorem chGain_any {w : World} {b : Nat} {x : Nat → Int} (h : HasF 24 w b 40 (iv x)) (hL : HasLevels w) (m : Int) (b0 : 0 ≤ x 2) (b1 : x 2 ≤ 255) (m0 : 0 ≤ m) (m1 : m ≤ 255) : Calls Tryd.prog 34 #[.pointer (some ⟨b, 0, none⟩), .int .i64 m] w fun e w' => e = Ending.returned (.agg #[.int .i64 (gainOf (x 1) (x 2 / 16) (m / 16)), .int .i64 (gainOf (x 1) (x 2 % 16) (m % 16))]) ∧ Below w.heap.size w w' := by
  have c1 := h.int 1 (by decide)
  have c2 := h.int 2 (by decide)
  have a1 := and_15 (x 2)
  have a2 := and_15 m
  have HL := hide hL
  have HB := hide h.lt
  clear h hL
  generalize x 1 = v at *
  generalize x 2 = y at *
  go_enter Tryd.func34, Tryd.ntmps34
  go_wp2_with fail
  refine under_name fun wa hwa => ?_
  have d1 : wa.cell? ⟨b, 1, none⟩ = some (.int .i64 v) := by rw [hwa]; exact ((((Below.refl _ w).alloc (Nat.le_refl _) _)).cell (p := ⟨b, 1, none⟩) HB.out).trans c1
  have d2 : wa.cell? ⟨b, 2, none⟩ = some (.int .i64 y) := by rw [hwa]; exact ((((Below.refl _ w).alloc (Nat.le_refl _) _)).cell (p := ⟨b, 2, none⟩) HB.out).trans c2
  have R0 : Hid (wa.heap[w.heap.size]? = some (.cells #[.int .i64 0, .int .i64 0] 40 (0, 0))) := hide (by rw [hwa]; exact heap_alloc_new _ _)
  have B0 : Hid (Below w.heap.size w wa) := hide (by rw [hwa]; exact (Below.refl _ w).alloc (Nat.le_refl _) _)
  have sb : b < wa.heap.size := Nat.lt_of_lt_of_le HB.out B0.out.size
  clear hwa c1 c2
  have k1 := kept_cell d1 sb
  have k2 := kept_cell d2 sb
  have KG : Hid (∀ (z : Kept wa) (p q r : Int), Calls Tryd.prog 15 #[.int .i64 p, .int .i64 q, .int .i64 r] z.val fun e w' => e = Ending.returned (.int .i64 (gainOf p q r)) ∧ w' = z.val) := hide (fun z p q r => gain_any p q r _ ((HL.out.next B0.out).next z.below))
  haveI := kept_some wa
  refine wp_region_kept_last _ _ (show _ = [_, _, _, _, _, _, _, _, _, _, _, _, _, _, _, _, _, _, _, _, _, _, _, _, _] ++ [_] from rfl) (by kernel_rfl) (by kernel_rfl) (by kernel_rfl) ?_
  repeat (go_big_quiet_step ((first
    | (go_at_call 15; exact kept_same (KG.out _ _ _ _)))))
  refine wpQuiet_nil ?_
  rintro _ ⟨wk, rfl⟩
  have R3 := hide ((wk.block w.heap.size (lt_of_block R0.out)).trans R0.out)
  have B3 := hide (bnext B0.out wk.below)
  clear KG k1 k2 R0 B0 d1 d2
  go_wp2_with (first
    | (refine wpList_store_row rfl 40 (.tmp 4) (.tmp 29) rfl w.heap.size _ rfl rfl 40 _ R3.out (by kernel_rfl) rfl (by kernel_rfl) ?_))
  (try simp only [Exit.inBlock, Exit.then])
  refine bodyPost_ret (results_cell_row rfl _ _ w.heap.size 40 _ (0, 0) _ rfl (setRow_heap _ _ _ _ _ _ R3.out) Tryd.underlying40 rfl (by kernel_rfl)) rfl ?_
  exact ⟨rfl, below_setRow B3.out (Nat.le_refl _) _⟩
end Go.Proofs.YtcpilhbinkamiaaDoor
