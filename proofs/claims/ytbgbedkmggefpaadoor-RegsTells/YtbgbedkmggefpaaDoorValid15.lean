/- Package regs: the contract of Valid. -/
import Derived.Test.YtbgbedkmggefpaaDoorRegs15
namespace Go.Proofs.YtbgbedkmggefpaaDoor
open Go.RowKit
set_option linter.unusedVariables false

theorem okR_no (s : Int) (f : Nat → Int) (k : Nat) (hk : k < 20) (h : fits (f k) (mk k) = false) : okR s f = false := by
  have e : okTo f 20 = false := by
    cases c : okTo f 20 with
    | false => rfl
    | true =>
      rw [(okTo_iff f 20).1 c k hk] at h
      cases h
  unfold okR
  rw [e]
  rfl
theorem okR_sel (s : Int) (f : Nat → Int) (h : ∀ k, k < 20 → fits (f k) (mk k) = true) : okR s f = decide (0 ≤ s ∧ s ≤ 31) := by
  unfold okR
  rw [(okTo_iff f 20).2 h]
  rfl
theorem valid_at (s : Int) (f : Nat → Int) (hw : ∀ j, j < 20 → (Lit.int .i64 (f j)).wf = true) (w : World) (hM : HasMask w) (cs : List Value) (hcs : cs = (listG f).map (Value.int .i64))
    (hi : ∀ (j : Nat), j < 20 → ∀ w : World, (Instr.index 22 (.agg cs.toArray) (.int .i64 (j : Int))).run Tryd.prog w = .ok (.int .i64 (f j)) w) :
    Calls Tryd.prog 16 #[.agg (rowG s f)] w fun e w' => e = .returned (.bool (okR s f)) ∧ Below w.heap.size w w' := by
  have HX := hide hi
  have V := hide (hasG_new 24 w s f)
  have R := hide (show (w.alloc (.cells (rowG s f) 24)).rangeAt w.heap.size 1 cs by rw [hcs]; exact V.out.range)
  have I := hide (show (Tryd.prog.info? 22).map (·.size) = some cs.length by rw [hcs]; exact info_T f)
  have B := hide ((Below.refl _ w).alloc (Nat.le_refl _) (.cells (rowG s f) 24))
  have M := hide (hM.next B.out)
  have HW := hide hw
  clear hi hcs hM hw
  go_enter Tryd.func16, Tryd.ntmps16
  go_wp2_with (first | (refine wpList_load_mid rfl 22 (.tmp 5) rfl w.heap.size 1 rfl cs _ R.out Tryd.underlying22 rfl I.out ?_))
  obtain ⟨wa, hwa⟩ : ∃ wa, wa = w.alloc (.cells (rowG s f) 24) := ⟨_, rfl⟩
  rw [← hwa] at V B M ⊢
  clear hwa R I
  go_loop [7] (fun si => ∃ j : Nat, j ≤ 20 ∧ si = .int .i64 (j : Int) ∧ ∀ k, k < j → fits (f k) (mk k) = true) (fun si => 20 - (intOf si).toNat)
  case atStart => exact ⟨0, by omega, rfl, fun i hi => absurd hi (by omega)⟩
  case round =>
    obtain ⟨j, hj, rfl, hne⟩ := hrel
    have HN := hide hne
    clear hne
    by_cases h : j < 20
    · have hx := HX.out j h
      have cm := M.out.at j h
      have hb := bic_fits (f j) (mk j) (HW.out j h) (mk_mask j)
      by_cases hf : fits (f j) (mk j) = true
      · rw [hf] at hb
        replace hb : (bits .andNot .i64 (f j) (mk j) != 0) = false := hb
        have HF := hide hf
        clear hf
        generalize f j = n at hx hb
        generalize mk j = m at cm hb
        go_wp2_with fail
        go_round
        case rel =>
          refine ⟨j + 1, by omega, by go_num, fun i hi => ?_⟩
          by_cases hij : i = j
          · subst hij; exact HF.out
          · exact HN.out i (by omega)
        case measure => simp [intOf]; omega
      · have hf2 : fits (f j) (mk j) = false := by simpa using hf
        rw [hf2] at hb
        replace hb : (bits .andNot .i64 (f j) (mk j) != 0) = true := hb
        have HF := hide (okR_no s f j h hf2)
        clear hf hf2
        generalize f j = n at hx hb
        generalize mk j = m at cm hb
        go_wp2_with fail
        go_ret
        exact ⟨ret_bool HF.out.symm, B.out⟩
    · obtain rfl : j = 20 := by omega
      have c0 := V.out.c0
      have HF := hide (okR_sel s f HN.out)
      by_cases h0 : 0 ≤ s
      · by_cases h1 : s ≤ 31
        · rw [decide_eq_true ⟨h0, h1⟩] at HF
          go_wp2_with fail
          go_ret
          exact ⟨ret_bool HF.out.symm, B.out⟩
        · rw [decide_eq_false (fun k => h1 k.2)] at HF
          go_wp2_with fail
          go_ret
          exact ⟨ret_bool HF.out.symm, B.out⟩
      · rw [decide_eq_false (fun k => h0 k.1)] at HF
        go_wp2_with fail
        go_ret
        exact ⟨ret_bool HF.out.symm, B.out⟩
theorem valid_any (s : Int) (f : Nat → Int) (hw : ∀ j, j < 20 → (Lit.int .i64 (f j)).wf = true) (w : World) (hM : HasMask w) :
    Calls Tryd.prog 16 #[.agg (rowG s f)] w fun e w' => e = .returned (.bool (okR s f)) ∧ Below w.heap.size w w' :=
  valid_at s f hw w hM _ rfl fun j hj w => tab_index f j hj w
end Go.Proofs.YtbgbedkmggefpaaDoor
