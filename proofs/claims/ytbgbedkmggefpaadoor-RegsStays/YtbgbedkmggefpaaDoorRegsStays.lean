/- RegsStays, at the landed commit: whatever slice of writes comes in, the call returns true: registers that may be stay so, whatever is written, and others than the chosen one stay as they are. No condition but what the card says. -/
import Derived.Test.YtbgbedkmggefpaaDoorStays15
import Derived.Test.YtbgbedkmggefpaaDoorRefV15
import Derived.Test.YtbgbedkmggefpaaDoorFresh15
import Derived.Test.YtbgbedkmggefpaaDoorLaw15
import Derived.Test.YtbgbedkmggefpaaDoorCell1
import Derived.Test.YtbgbedkmggefpaaDoorArrRows
import Derived.Test.YtbgbedkmggefpaaDoorMaskLaid
import Derived.Test.YtbgbedkmggefpaaDoorTie
import Derived.Test.YtbgbedkmggefpaaDoorCards
import Derived.SevenTiedAt
import Derived.OpenShut
import Derived.ShutString
import Derived.ChangeOld
namespace Go.Proofs.YtbgbedkmggefpaaDoor
open Go.ChangeShapes Go.WideShapes Go.ChangeAt Go.RowKit
open Go.ChangeMaps (open_string shut_string)
set_option linter.unusedVariables false
theorem own : ownKnob Tryd.prog.godebug = none := by kernel_rfl

/-- The i-th: its two cells, in any world in whose old blocks nothing has turned. -/
theorem IsArrs.two {w : World} {a : Option Addr} {len cap : Nat} (h : IsArrs .i64 2 w a len cap) (i : Nat) (hi : i < len) : ∃ b off x y, a = some ⟨b, off, none⟩ ∧ b < w.heap.size ∧ len ≤ cap ∧ cap ≤ maxLen ∧
    ∀ w', Below w.heap.size w w' → w'.cell? ⟨b, off + i * 2, none⟩ = some (.int .i64 x) ∧ w'.cell? ⟨b, off + i * 2 + 1, none⟩ = some (.int .i64 y) := by
  obtain ⟨b, off, e, hb, h1, h2, hc⟩ := h.cells (by omega) (by decide)
  obtain ⟨x, _, c0⟩ := hc i hi 0 (by decide)
  obtain ⟨y, _, c1⟩ := hc i hi 1 (by decide)
  exact ⟨b, off, x, y, e, hb, h1, h2, fun w' bw => ⟨(bw.cell (p := ⟨b, _, none⟩) hb).trans c0, (bw.cell (p := ⟨b, _, none⟩) hb).trans c1⟩⟩
theorem hasMask_row {w u : World} {g : Nat} {cs : Array Value} (h : HasMask w) (hu : u = w.setRow g cs) (hg : ¬ g = 0) : HasMask u := by
  obtain ⟨t, fr, e⟩ := h
  subst hu
  exact ⟨t, fr, (setRow_other w g 0 cs (fun k => hg k.symm)).trans e⟩
theorem regsStays_walk (a0 : Option Addr) (len0 cap0 : Nat) (w : World) (w0 : IsArrs .i64 2 w a0 len0 cap0) (hL : HasMask w) : Calls Tryd.prog 4 #[.slice a0 len0 cap0] w fun e w' => e = .returned (.bool true) ∧ Below w.heap.size w w' := by
  have hx0 : len0 < 9223372036854775808 := by have := w0.max; simp only [maxLen] at this; omega
  have R := hide w0
  have M := hide hL
  have hp := hL.pos
  have B := hide (Below.refl w.heap.size w)
  clear w0 hL
  go_enter Tryd.func4, Tryd.ntmps4
  go_wp2_with fail
  refine (fresh_any _).mono ?_
  rintro e w1 ⟨rfl, bw⟩
  replace B := hide (bnext B.out bw)
  replace M := hide (M.out.next bw)
  have p1 : w.heap.size ≤ w1.heap.size := B.out.size
  clear bw
  go_wp2_with (first
    | (refine wpList_store_row rfl 24 (.tmp 3) (.tmp 8) rfl w1.heap.size _ rfl rfl 24 _ (heap_alloc_new w1 (.cells #[.int .i64 0, .int .i64 0, .int .i64 0, .int .i64 0, .int .i64 0, .int .i64 0, .int .i64 0, .int .i64 0, .int .i64 0, .int .i64 0, .int .i64 0, .int .i64 0, .int .i64 0, .int .i64 0, .int .i64 0, .int .i64 0, .int .i64 0, .int .i64 0, .int .i64 0, .int .i64 0, .int .i64 0] 24)) (info_G _ _) (by rw [rowG_size]; rfl) (rowG_one _ _) ?_; refine under_list fun u1 hu => ?_; have bw : Below w1.heap.size w1 u1 := (by rw [hu]; exact below_setRow ((Below.refl _ w1).alloc (Nat.le_refl _) _) (Nat.le_refl _) _); have V3 := hide (show HasG 24 u1 w1.heap.size 0 (fun _ => 0) by rw [hu]; exact setRow_heap _ _ _ _ _ _ (heap_alloc_new _ _)); replace B := hide (bnext B.out bw); replace M := hide (M.out.next bw); clear hu bw)
    | (refine wpList_load_row rfl 24 (.tmp 3) rfl w1.heap.size rfl 24 _ (0, 0) _ V3.out Tryd.underlying24 rfl (info_G _ _) ?_))
  obtain ⟨g3, h3⟩ : ∃ g, g = w1.heap.size := ⟨_, rfl⟩
  rw [← h3] at V3 p1 ⊢
  clear h3
  have CV := hide (valid_any 0 (fun _ => 0) (okR_wf okR_0))
  rw [okR_0] at CV
  refine (CV.out _ M.out).mono ?_
  rintro e w2 ⟨rfl, bw⟩
  replace B := hide (bnext B.out bw)
  replace M := hide (M.out.next bw)
  replace V3 := hide (V3.out.next bw)
  clear bw CV
  go_wp2_with fail
  go_loopw [4] (fun si wr => ∃ (i : Nat) (s : Int) (f : Nat → Int), i ≤ 60 ∧ i ≤ len0 ∧ si = .int .i64 (i : Int) ∧ okR s f = true ∧ HasG 24 wr g3 s f ∧ HasMask wr ∧ Below w.heap.size w wr) (fun si _ => 60 - (intOf si).toNat)
  case atStart => exact ⟨0, 0, _, by omega, by omega, rfl, okR_0, V3.out, M.out, B.out⟩
  case round =>
    obtain ⟨i, s, f, hi6, hil, rfl, ok, hv, hm, hb⟩ := hrel
    have OK := hide ok
    replace V3 := hide hv
    replace M := hide hm
    replace B := hide hb
    clear hv hm hb ok
    by_cases hl : i < len0
    · by_cases h6 : i < 60
      · obtain ⟨bb, off, x, y, rfl, hb, hlc, hcm, hc⟩ := R.out.two i hl
        obtain ⟨s', f', z, cw, ok', same⟩ := write_stays s x y f OK.out
        have CW := hide cw
        have OK2 := hide ok'
        have SAME := hide same
        clear cw ok' same
        go_wp2_with fail
        refine wp_region_cell _ _ _ _ (show _ = ([_, _, _, _, _, _, _, _, _, _, _, _, _, _, _] ++ [_, _]) ++ [_] from rfl) #[.int .i64 0, .int .i64 0, .int .i64 0, .int .i64 0, .int .i64 0, .int .i64 0, .int .i64 0, .int .i64 0, .int .i64 0, .int .i64 0, .int .i64 0, .int .i64 0, .int .i64 0, .int .i64 0, .int .i64 0, .int .i64 0, .int .i64 0, .int .i64 0, .int .i64 0, .int .i64 0, .int .i64 0] (rowG s' f') 24 65 5 35 24 (by kernel_rfl) (by kernel_rfl) (by kernel_rfl) (by kernel_rfl) rfl rfl (by decide) rfl (info_G _ _) (by rw [rowG_size]; rfl) (rowG_one _ _) ?_ ?_
        · intro a w
          rfl
        apply Exists.intro
        refine ⟨fun W hW => ?_, ?_, ?_⟩
        · have VW := hide (V3.out.next hW)
          have MW := hide (M.out.next hW)
          have hcw := hc W (bnext B.out hW)
          have k0 := kept_cell hcw.1 (block_lt_of_cell hcw.1)
          have k1 := kept_cell hcw.2 (block_lt_of_cell hcw.2)
          clear hcw
          haveI := kept_some W
          repeat (first
            | (refine wpQuiet_row rfl 24 (.tmp 3) rfl g3 rfl 24 _ (0, 0) _ (fun w' ⟨x, hx⟩ => by rw [hx]; exact (x.block _ VW.out.lt).trans VW.out) Tryd.underlying24 rfl (info_G _ _) ?_; simp only [Act.put, List.setIfInBounds_toArray, List.set_cons_succ, List.set_cons_zero])
            | go_big_quiet_step ((go_at_call 7; exact kept_call (CW.out _ (MW.out.next (Kept.below _))))))
          refine wpQuiet_nil ?_
          rfl
        · rfl
        intro g wx bx hg lg
        have ng : ¬ g3 = g := by have := V3.out.lt; omega
        have lg2 : w.heap.size ≤ g3 := p1
        have X := hide (show HasG 24 wx g s' f' from hg)
        replace V3 := hide (V3.out.next bx)
        replace M := hide (M.out.next bx)
        replace B := hide (bnext B.out bx)
        clear hg bx lg CW hc
        have CV := hide (valid_any s' f' (okR_wf OK2.out))
        have CR := hide (rvalid_any s' f')
        rw [OK2.out] at CV CR
        simp only [Act.put, List.setIfInBounds_toArray, List.set_cons_succ, List.set_cons_zero]
        go_wp2_with (first | (refine wpList_load_row rfl 24 (.tmp 5) rfl g rfl 24 _ (0, 0) _ X.out Tryd.underlying24 rfl (info_G _ _) ?_))
        refine (CV.out _ M.out).mono ?_
        rintro e w3 ⟨rfl, bw⟩
        replace B := hide (bnext B.out bw)
        replace M := hide (M.out.next bw)
        replace V3 := hide (V3.out.next bw)
        replace X := hide (X.out.next bw)
        clear bw CV
        go_wp2_with (first | (refine wpList_load_want rfl 24 (.tmp 5) rfl g rfl 24 _ (0, 0) _ X.out Tryd.underlying24 rfl (info_G _ _) ?_))
        refine (CR.out _).mono ?_
        rintro e w4 ⟨rfl, bw⟩
        replace B := hide (bnext B.out bw)
        replace M := hide (M.out.next bw)
        replace V3 := hide (V3.out.next bw)
        replace X := hide (X.out.next bw)
        clear bw CR
        go_wp2_with fail
        go_loopw [7] (fun sk wq => ∃ k : Nat, k ≤ 20 ∧ sk = .int .i64 (k : Int) ∧ HasG 24 wq g3 s f ∧ HasG 24 wq g s' f' ∧ HasMask wq ∧ Below w.heap.size w wq) (fun sk _ => 20 - (intOf sk).toNat)
        case atStart => exact ⟨0, by omega, rfl, V3.out, X.out, M.out, B.out⟩
        case round =>
          obtain ⟨k, hk, rfl, hv, hx, hm, hb⟩ := hrel
          replace V3 := hide hv
          replace X := hide hx
          replace M := hide hm
          replace B := hide hb
          clear hv hx hm hb
          by_cases hk2 : k < 20
          · have k0 := kept_cell V3.out.c0 V3.out.lt
            have k3 := kept_cell (V3.out.at k hk2) V3.out.lt
            have kx := kept_cell (X.out.at k hk2) X.out.lt
            by_cases e : (k : Int) = s
            · have d : ((k : Int) != s) = false := by simp [e]
              clear e
              go_wp2_with fail
              haveI := kept_some wr
              refine wp_region_kept (by kernel_rfl) (by kernel_rfl) ?_
              repeat (go_big_quiet_step (fail))
              refine wpQuiet_nil ?_
              rintro _ ⟨wk, rfl⟩
              clear k0 k3 kx
              go_wp2_with fail
              go_roundw
              case rel => exact ⟨k + 1, by omega, by go_num, V3.out.next wk.below, X.out.next wk.below, M.out.next wk.below, bnext B.out wk.below⟩
              case measure => simp [intOf]; omega
            · have d : ((k : Int) != s) = true := by simpa using e
              rw [SAME.out k hk2 e] at kx
              clear e
              go_wp2_with fail
              haveI := kept_some wr
              refine wp_region_kept (by kernel_rfl) (by kernel_rfl) ?_
              repeat (go_big_quiet_step (fail))
              refine wpQuiet_nil ?_
              rintro _ ⟨wk, rfl⟩
              clear k0 k3 kx
              go_wp2_with fail
              go_roundw
              case rel => exact ⟨k + 1, by omega, by go_num, V3.out.next wk.below, X.out.next wk.below, M.out.next wk.below, bnext B.out wk.below⟩
              case measure => simp [intOf]; omega
          · obtain rfl : k = 20 := by omega
            go_wp2_with (first
              | (refine wpList_load_row rfl 24 (.tmp 5) rfl g rfl 24 _ (0, 0) _ X.out Tryd.underlying24 rfl (info_G _ _) ?_)
              | (refine wpList_store_row rfl 24 (.tmp 3) (.tmp 64) rfl g3 _ rfl rfl 24 _ V3.out (info_G _ _) (by rw [rowG_size, rowG_size]) (rowG_one _ _) ?_; refine under_list fun u2 hu => ?_; replace B := hide (show Below w.heap.size w u2 by rw [hu]; exact below_setRow B.out lg2 _); replace M := hide (hasMask_row M.out hu (by omega)); replace V3 := hide (show HasG 24 u2 g3 s' f' by rw [hu]; exact setRow_heap _ _ _ _ _ _ V3.out); clear hu X))
            go_roundw
            case rel => exact ⟨i + 1, s', f', by omega, by omega, by go_num, OK2.out, V3.out, M.out, B.out⟩
            case measure => simp [intOf]; omega
      · have hi : i = 60 := by omega
        go_wp2_with fail
        go_ret
        exact ⟨rfl, B.out⟩
    · have hi : i = len0 := by omega
      go_wp2_with fail
      go_ret
      exact ⟨rfl, B.out⟩

set_option maxRecDepth 100000 in
theorem regsStays_lifted (os : Os) (started : os.Started) (H : Type) (enc : TypeId × Value → H) :
    ReturnsInHanded {} Tryd.checked os 4 .any (fun w args => (Rows.regsStaysSpec.pre enc Tryd.prog Tryd.f4 [] false w args ∧ laidMetH Tryd.prog laidMask w) ∧ sizedMet enc Tryd.prog Tryd.f4 (OpenSpec.ofChange Rows.regsStaysSpec) false w args)
      (Rows.regsStaysSpec.post enc Tryd.prog Tryd.f4 false true false false) := by
  refine returnsInHanded_of_change_and (C := Tryd.checked) (X := fun w _ => laidMetH Tryd.prog laidMask w) (fun _ _ _ hh h => h.of_heap hh) own started (by kernel_rfl) Tryd.func4
    (ChangeSpec.witness_at (enc := enc) (C := Tryd.checked) (os := os) (X := fun w _ => laidMetH Tryd.prog laidMask w) false (laidWorld os) #[.slice none 0 0] 8 rfl (by kernel_rfl) (by kernel_rfl) (by kernel_rfl) (by kernel_rfl) (by kernel_rfl) (laidWorld_mask os _)) ?_
  intro W base args ds gs before hval0 hW _ _ hL _
  have hval : ∀ (j : Nat) t v, Tryd.f4.params[j]? = some t → args[j]? = some v → Value.okWide Tryd.prog W .any base t v := hval0
  have hW' := hW
  obtain ⟨p, q, hA0, hV, rfl, hfz, hnd⟩ := hW
  have hA : DataW.TrodAll enc Tryd.prog W 0 (fun _ => true) true Tryd.f4.params.toList args.toList ds p := hA0
  rw [Tryd.params4] at hA hval
  obtain ⟨v0, vs0, d0, ds0, p0, q0, hargs, rfl, rfl, h0, r0⟩ := trodAll_cons hA
  obtain ⟨rfl, rfl, rfl⟩ := trodAll_nil r0
  obtain rfl : args = #[v0] := by cases args; simp_all
  obtain ⟨rfl, rfl⟩ := trodVars_none hV
  obtain ⟨a0, len0, cap0, rfl⟩ := okWide_slice Tryd.underlying43 (hval 0 43 v0 rfl rfl)
  have k0 := h0
  have lt0 : ∀ x ∈ p0, x.block < W.heap.size := by obtain ⟨m, hm⟩ := k0; exact DataW.trod_lt m _ _ _ hm
  have w0 : IsArrs .i64 2 W a0 len0 cap0 := open_arrays Tryd.underlying43 Tryd.underlying44 (by kernel_rfl) Tryd.underlying3 (by kernel_rfl) h0
  clear hA0 hval0
  refine (regsStays_walk a0 len0 cap0 W w0 (laid_mask hL)).mono fun e W' ⟨he, bel⟩ => ?_
  subst he
  exact ⟨_, rfl, _, _, _, [], _, [], hW', trodAll_mk1 (shut_bool Tryd.underlying4 _), (trodAll_cons_mk (Below.trod laidOut (by kernel_rfl) (of_decide_eq_true (by kernel_rfl)) k0 bel lt0) trodAll_mk0), rfl, bel.frame _, fun h => by cases h⟩

theorem regsStays_over : Rows.regsStaysRow.holds Tryd.pinned (OpenSpec.ofChange Rows.regsStaysSpec) :=
  OpenClaim.holds_of_wide 4 Tryd.f4 rfl rfl rfl rfl rfl rfl rfl ⟨rfl, rfl, rfl, rfl, rfl⟩ rfl rfl rfl rfl rfl (by kernel_rfl) Tryd.func4 (by kernel_rfl)
    (of_decide_eq_true (by kernel_rfl)) (by unfold Func.isWrapper; first | (rw [if_pos (by decide +kernel)]; kernel_rfl) | (rw [if_neg (by decide +kernel)]; exact ⟨rfl, rfl⟩))
    (fun os started H enc _ => regsStays_lifted os started H enc)

theorem regsStays_row : Rows.RegsStaysSaid := regsStays_over

theorem regsStays_holds : Rows.RegsStaysCardSaid :=
  Claim7.holds_tied_plain_at .later [] [.data] true (true, "59ef52cc746e8c26c16d4abe50a86ce5d85f02911841ee7c261a6b4b0c85cb8b") false
    regsStays_row (fun _ h => by cases h) (by kernel_rfl) (fun _ h => by cases h) regsStays_row_tie rfl ⟨rfl, rfl⟩ (by kernel_rfl) rfl
    (fun f fn hf hfn => by
      obtain rfl : f = 4 := Option.some.inj ((show Tryd.prog.funcNamed "phosphor/phosphorlaw15.RegsStays" = some 4 by kernel_rfl).symm.trans hf) |>.symm
      obtain rfl : fn = Tryd.f4 := (Option.some.inj (Tryd.func4.symm.trans hfn)).symm
      exact ⟨by kernel_rfl, fun j t ht => by
        rw [Tryd.params4] at ht
        rcases j with _ | j
        · obtain rfl : t = 43 := by simpa using ht.symm
          exact (show Tryd.prog.wantsStandIn 43 = false by kernel_rfl)
        · simp at ht⟩)
    (by kernel_rfl)
#print axioms regsStays_holds
end Go.Proofs.YtbgbedkmggefpaaDoor
