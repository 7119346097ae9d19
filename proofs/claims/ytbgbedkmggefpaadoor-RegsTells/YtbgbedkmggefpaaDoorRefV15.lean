/- The document's own answer for layer 15: the contract of Valid. -/
import Derived.Test.YtbgbedkmggefpaaDoorRef15
import Derived.Test.YtbgbedkmggefpaaDoorTells15
namespace Go.Proofs.YtbgbedkmggefpaaDoor
open Go.RowKit
set_option linter.unusedVariables false

theorem okR_out (s : Int) (f : Nat → Int) (h : s < 0 ∨ 31 < s) : okR s f = false := by
  unfold okR
  rw [decide_eq_false (by omega), Bool.and_false]
theorem rvalid_any (s : Int) (f : Nat → Int) (w : World) : Calls Tryd.prog 17 #[.agg (rowG s f)] w fun e w' => e = .returned (.bool (okR s f)) ∧ Below w.heap.size w w' := by
  have V := hide (hasG_new 28 w s f)
  have B := hide ((Below.refl _ w).alloc (Nat.le_refl _) (.cells (rowG s f) 28))
  have c0 := V.out.c0
  by_cases hs : s < 0
  · have HO := hide (okR_out s f (.inl hs))
    go_enter Tryd.func17, Tryd.ntmps17
    go_wp2_with fail
    go_ret
    exact ⟨ret_bool HO.out.symm, B.out⟩
  · by_cases hs2 : 31 < s
    · have HO := hide (okR_out s f (.inr hs2))
      go_enter Tryd.func17, Tryd.ntmps17
      go_wp2_with fail
      go_ret
      exact ⟨ret_bool HO.out.symm, B.out⟩
    · go_enter Tryd.func17, Tryd.ntmps17
      go_wp2_with fail
      refine named_code fun wa hwa => ?_
      rw [← hwa] at V B c0
      clear hwa c0
      go_loopw [3] (fun si wr => ∃ j : Nat, j ≤ 20 ∧ si = .int .i64 (j : Int) ∧ (∀ k, k < j → fits (f k) (mk k) = true) ∧ HasG 28 wr w.heap.size s f ∧ Below w.heap.size w wr) (fun si _ => 20 - (intOf si).toNat)
      case atStart => exact ⟨0, by omega, rfl, fun i hi => absurd hi (by omega), V.out, B.out⟩
      case round =>
        obtain ⟨j, hj, rfl, hne, hv, hb⟩ := hrel
        have HN := hide hne
        replace V := hide hv
        replace B := hide hb
        clear hne hv hb
        by_cases h : j < 20
        · have ki := kept_cell (V.out.at j h) V.out.lt
          have CM := hide (rmask_any j h (mk j) rfl)
          have CO := hide (ronly_any (f j) (mk j) (andW (f j) (mk j)) (mk_mask j) rfl)
          have HF := hide (fun (k : fits (f j) (mk j) = false) => okR_no s f j h k)
          have HG := hide (show fits (f j) (mk j) = decide (0 ≤ f j ∧ f j ≤ 65535 ∧ andW (f j) (mk j) = f j) from rfl)
          have HK := hide (fun (k : fits (f j) (mk j) = true) (i : Nat) (hi : i < j + 1) => show fits (f i) (mk i) = true by
            by_cases e : i = j
            · subst e; exact k
            · exact HN.out i (by omega))
          generalize fits (f j) (mk j) = q at *
          generalize andW (f j) (mk j) = x at *
          generalize f j = n at *
          generalize mk j = m at *
          by_cases h0 : n < 0
          · have d0 : decide (n < 0) = true := decide_eq_true h0
            replace HF := hide (HF.out (by rw [HG.out]; exact decide_eq_false (by omega)))
            clear HK HG
            go_wp2_with fail
            haveI := kept_some wr
            refine wp_region_kept (by kernel_rfl) (by kernel_rfl) ?_
            repeat (go_big_quiet_step ((first | (go_at_call 24; exact kept_call (CM.out _)) | (go_at_call 23; exact kept_same (CO.out _)))))
            refine wpQuiet_nil ?_
            rintro _ ⟨wk, rfl⟩
            clear ki CM CO
            go_wp2_with fail
            go_ret
            exact ⟨ret_bool HF.out.symm, bnext B.out wk.below⟩
          · have d0 : decide (n < 0) = false := decide_eq_false h0
            by_cases h1 : 65535 < n
            · have d1 : decide (65535 < n) = true := decide_eq_true h1
              replace HF := hide (HF.out (by rw [HG.out]; exact decide_eq_false (by omega)))
              clear HK HG
              go_wp2_with fail
              haveI := kept_some wr
              refine wp_region_kept (by kernel_rfl) (by kernel_rfl) ?_
              repeat (go_big_quiet_step ((first | (go_at_call 24; exact kept_call (CM.out _)) | (go_at_call 23; exact kept_same (CO.out _)))))
              refine wpQuiet_nil ?_
              rintro _ ⟨wk, rfl⟩
              clear ki CM CO
              go_wp2_with fail
              go_ret
              exact ⟨ret_bool HF.out.symm, bnext B.out wk.below⟩
            · have d1 : decide (65535 < n) = false := decide_eq_false h1
              by_cases hx : x = n
              · subst hx
                replace HK := hide (HK.out (by rw [HG.out]; exact decide_eq_true ⟨by omega, by omega, rfl⟩))
                clear HF HG
                go_wp2_with fail
                haveI := kept_some wr
                refine wp_region_kept (by kernel_rfl) (by kernel_rfl) ?_
                repeat (go_big_quiet_step ((first | (go_at_call 24; exact kept_call (CM.out _)) | (go_at_call 23; exact kept_same (CO.out _)))))
                refine wpQuiet_nil ?_
                rintro _ ⟨wk, rfl⟩
                clear ki CM CO
                go_wp2_with fail
                go_roundw
                case rel => exact ⟨j + 1, by omega, by go_num, HK.out, V.out.next wk.below, bnext B.out wk.below⟩
                case measure => simp [intOf]; omega
              · have d2 : (x != n) = true := by simpa using hx
                replace HF := hide (HF.out (by rw [HG.out]; exact decide_eq_false (fun k => hx k.2.2)))
                clear HK HG
                go_wp2_with fail
                haveI := kept_some wr
                refine wp_region_kept (by kernel_rfl) (by kernel_rfl) ?_
                repeat (go_big_quiet_step ((first | (go_at_call 24; exact kept_call (CM.out _)) | (go_at_call 23; exact kept_same (CO.out _)))))
                refine wpQuiet_nil ?_
                rintro _ ⟨wk, rfl⟩
                clear ki CM CO
                go_wp2_with fail
                go_ret
                exact ⟨ret_bool HF.out.symm, bnext B.out wk.below⟩
        · obtain rfl : j = 20 := by omega
          have HO := hide (okR_sel s f HN.out)
          rw [decide_eq_true (by omega)] at HO
          go_wp2_with fail
          go_ret
          exact ⟨ret_bool HO.out.symm, B.out⟩
end Go.Proofs.YtbgbedkmggefpaaDoor
