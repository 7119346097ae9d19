/- RegsMaps, at the landed commit: whatever registers come in, the call returns true: the map has 32, 64 or 128 cells in a line and 32 or 64 lines, the step is one of four, and just one line of the picture is told, or none. No condition. -/
import Derived.Test.YtbgbedkmggefpaaTells15
import Derived.Test.YtbgbedkmggefpaaOpen15
namespace Go.Proofs.Ytbgbedkmggefpaa
open Go.ChangeShapes Go.WideShapes Go.ChangeAt Go.RowKit
set_option linter.unusedVariables false
theorem own : ownKnob Try.prog.godebug = none := by kernel_rfl

/-- How many of the lines from -1 on, so many of them, are told. -/
def cntT (t : Int) (j : Nat) : Int := if 64 ≤ t ∧ t - 63 < (j : Int) then 1 else 0
theorem cnt_step (t : Int) (j : Nat) : cntT t (j + 1) = cntT t j + (if rasOf t ((j : Int) - 1) = true then 1 else 0) := by
  unfold cntT rasOf
  by_cases h : 64 ≤ t ∧ (j : Int) - 1 = t - 64
  · rw [if_pos (by omega), if_neg (by omega), decide_eq_true h, if_pos rfl]
    rfl
  · rw [decide_eq_false h]
    by_cases k : 64 ≤ t ∧ t - 63 < (j : Int)
    · rw [if_pos (by omega), if_pos k]
      rfl
    · rw [if_neg (by omega), if_neg k]
      rfl
theorem cnt_01 (t : Int) (j : Nat) : 0 ≤ cntT t j ∧ cntT t j ≤ 1 := by unfold cntT; split <;> omega
set_option maxHeartbeats 2000000 in
theorem maps_all (s W H S t c : Int) (f : Nat → Int) (w : World) (t0 : 0 ≤ t) (ht : bits .and .i64 (f 6) 65535 = t) (hW : W = 32 ∨ W = 64 ∨ W = 128) (hH : H = 32 ∨ H = 64) (hS : S = 1 ∨ S = 32 ∨ S = 64 ∨ S = 128) (hc : (t < 64 ∧ c = 0) ∨ (64 ≤ t ∧ t < 364 ∧ c = 1) ∨ (364 ≤ t ∧ c = 0)) (he : cntT t 301 = c)
    (CM : Hid (∀ w, Calls Try.prog 4 #[.agg (rowG s f)] w fun e w' => e = .returned (.tuple #[.int .i64 W, .int .i64 H]) ∧ Below w.heap.size w w'))
    (CF : Hid (∀ w, Calls Try.prog 5 #[.agg (rowG s f)] w fun e w' => e = .returned (.int .i64 S) ∧ Below w.heap.size w w'))
    (CR : Hid (∀ l w, Calls Try.prog 6 #[.agg (rowG s f), .int .i64 l] w fun e w' => e = .returned (.bool (rasOf t l)) ∧ Below w.heap.size w w')) : Calls Try.prog 3 #[.agg (rowG s f)] w fun e w' => e = .returned (.bool true) ∧ Below w.heap.size w w' := by
  have V := hide (hasG_new 24 w s f)
  have B := hide ((Below.refl _ w).alloc (Nat.le_refl _) (.cells (rowG s f) 24))
  have HW := hide hW
  have HH := hide hH
  have HS := hide hS
  have HC := hide hc
  have HE := hide he
  have HT := hide ht
  clear hW hH hS hc he ht
  go_enter Try.func3, Try.ntmps3
  go_wp2_with (first | (refine wpList_load_row rfl 24 (.tmp 1) rfl w.heap.size rfl 24 _ (0, 0) _ V.out Try.underlying24 rfl (info_G _ _) ?_))
  refine named_calls fun w0 hw0 => ?_
  rw [← hw0] at V B
  clear hw0
  refine (CM.out _).mono ?_
  rintro e w1 ⟨rfl, b1⟩
  replace V := hide (V.out.next b1)
  replace B := hide (bnext B.out b1)
  clear b1 CM
  go_wp2_with (first | (refine wpList_load_row rfl 24 (.tmp 1) rfl w.heap.size rfl 24 _ (0, 0) _ V.out Try.underlying24 rfl (info_G _ _) ?_))
  refine (CF.out _).mono ?_
  rintro e w2 ⟨rfl, b2⟩
  replace V := hide (V.out.next b2)
  replace B := hide (bnext B.out b2)
  clear b2 CF
  go_wp2_with fail
  go_loopw [6, 7] (fun sc sl wr => ∃ j : Nat, j ≤ 301 ∧ sc = .int .i64 (cntT t j) ∧ sl = .int .i64 ((j : Int) - 1) ∧ HasG 24 wr w.heap.size s f ∧ Below w.heap.size w wr) (fun _ sl _ => (301 - intOf sl).toNat)
  case atStart => exact ⟨0, by omega, by simp [cntT]; omega, rfl, V.out, B.out⟩
  case round =>
    obtain ⟨j, hj, rfl, rfl, hv, hb⟩ := hrel
    replace V := hide hv
    replace B := hide hb
    clear hv hb
    have k01 := cnt_01 t j
    have HS1 := hide (cnt_step t j)
    by_cases h : j < 301
    · go_wp2_with (first | (refine wpList_load_row rfl 24 (.tmp 1) rfl w.heap.size rfl 24 _ (0, 0) _ V.out Try.underlying24 rfl (info_G _ _) ?_))
      refine (CR.out _ _).mono ?_
      rintro e w3 ⟨rfl, b3⟩
      replace V := hide (V.out.next b3)
      replace B := hide (bnext B.out b3)
      clear b3
      by_cases hr : rasOf t ((j : Int) - 1) = true
      · rw [hr, if_pos rfl] at HS1
        rw [hr]
        clear hr
        go_wp2_with fail
        go_roundw
        case rel => exact ⟨j + 1, by omega, by rw [HS1.out], by go_num, V.out, B.out⟩
        case measure => simp [intOf]; omega
      · have hr2 : rasOf t ((j : Int) - 1) = false := by simpa using hr
        rw [hr2, if_neg (by decide)] at HS1
        rw [hr2]
        clear hr hr2
        go_wp2_with fail
        go_roundw
        case rel => exact ⟨j + 1, by omega, by rw [HS1.out]; simp, by go_num, V.out, B.out⟩
        case measure => simp [intOf]; omega
    · obtain rfl : j = 301 := by omega
      rw [HE.out] at k01 ⊢
      have c6 : wr.cell? ⟨w.heap.size, 7, none⟩ = some (.int .i64 (f 6)) := V.out.at 6 (by decide)
      have ht := HT.out
      rcases HC.out with ⟨h1, rfl⟩ | ⟨h1, h2, rfl⟩ | ⟨h1, rfl⟩
      all_goals
        rcases HW.out with rfl | rfl | rfl
        all_goals
          rcases HH.out with rfl | rfl
          all_goals
            rcases HS.out with rfl | rfl | rfl | rfl
            all_goals
              go_wp2_with fail
              go_ret
              exact ⟨rfl, B.out⟩
theorem regsMaps_walk (s : Int) (f : Nat → Int) (w0 : (Lit.int .i64 s).wf = true) (g0 : ∀ j, j < 20 → (Lit.int .i64 (f j)).wf = true) (w : World) : Calls Try.prog 3 #[.agg (rowG s f)] w fun e w' => e = .returned (.bool true) ∧ Below w.heap.size w w' := by
  clear w0 g0
  obtain ⟨p, hp⟩ : ∃ p, pairOf (f 9) 4 = p := ⟨_, rfl⟩
  obtain ⟨q, hq⟩ : ∃ q : Nat, bitOf (f 9) 6 = (q : Int) := ⟨(bitOf (f 9) 6).toNat, by have := bitOf_01 (f 9) 6; omega⟩
  obtain ⟨r, hr⟩ : ∃ r, pairOf (f 5) 11 = r := ⟨_, rfl⟩
  have p4 : p < 4 := by rw [← hp]; exact pairOf_lt _ _
  have r4 : r < 4 := by rw [← hr]; exact pairOf_lt _ _
  have q2 : q < 2 := by have := bitOf_01 (f 9) 6; omega
  refine maps_all s (wideOf p) (highOf2 q) (farOf r) (f 6 % 65536) (cntT (f 6 % 65536) 301) f w (by omega) (and_65535 _) ?_ ?_ ?_ ?_ rfl (hide (map_any s f p q hp hq)) (hide (far_any s f r hr)) (hide (fun l => raster_any s f l _ rfl))
  · rcases p with _ | _ | _ | _ | p
    · exact .inl rfl
    · exact .inr (.inl rfl)
    · exact .inr (.inr rfl)
    · exact .inr (.inr rfl)
    · omega
  · rcases q with _ | _ | q
    · exact .inl rfl
    · exact .inr rfl
    · omega
  · rcases r with _ | _ | _ | _ | r
    · exact .inl rfl
    · exact .inr (.inl rfl)
    · exact .inr (.inr (.inl rfl))
    · exact .inr (.inr (.inr rfl))
    · omega
  · unfold cntT
    split <;> omega

set_option maxRecDepth 100000 in
theorem regsMaps_lifted (os : Os) (started : os.Started) (H : Type) (enc : TypeId × Value → H) :
    ReturnsInHanded {} Try.checked os 3 .any (Rows.regsMapsSpec.pre6 enc Try.prog Try.f3 Rows.regsMapsRow.domain false) (Rows.regsMapsSpec.post enc Try.prog Try.f3 false true false false) := by
  refine returnsInHanded_of_change (C := Try.checked) own started (by kernel_rfl) Try.func3
    (ChangeSpec.witness6 (enc := enc) (C := Try.checked) false ⟨#[], #[.agg #[.int .i64 0, .int .i64 0, .int .i64 0, .int .i64 0, .int .i64 0, .int .i64 0, .int .i64 0, .int .i64 0, .int .i64 0, .int .i64 0, .int .i64 0, .int .i64 0, .int .i64 0, .int .i64 0, .int .i64 0, .int .i64 0, .int .i64 0, .int .i64 0, .int .i64 0, .int .i64 0, .int .i64 0]], []⟩ 8 (by kernel_rfl) (by kernel_rfl) (by kernel_rfl) (by kernel_rfl)) ?_
  intro W base args ds gs before hval0 hW hcnd _
  have hval : ∀ (j : Nat) t v, Try.f3.params[j]? = some t → args[j]? = some v → Value.okWide Try.prog W .any base t v := hval0
  have hW' := hW
  obtain ⟨p, q, hA0, hV, rfl, hfz, hnd⟩ := hW
  have hA : DataW.TrodAll enc Try.prog W 0 (fun _ => true) true Try.f3.params.toList args.toList ds p := hA0
  rw [Try.params3] at hA hval
  obtain ⟨v0, vs0, d0, ds0, p0, q0, hargs, rfl, rfl, h0, r0⟩ := trodAll_cons hA
  obtain ⟨rfl, rfl, rfl⟩ := trodAll_nil r0
  obtain rfl : args = #[v0] := by cases args; simp_all
  obtain ⟨rfl, rfl⟩ := trodVars_none hV
  have k0 := h0
  have lt0 : ∀ x ∈ p0, x.block < W.heap.size := by obtain ⟨m, hm⟩ := k0; exact DataW.trod_lt m _ _ _ hm
  obtain ⟨s0, f0, rfl, w0, g0⟩ := open_regs Try.underlying24 (by kernel_rfl) rfl rfl Try.underlying3 (by kernel_rfl) rfl rfl Try.underlying22 (by kernel_rfl) Try.underlying3 (by kernel_rfl) (hval 0 24 v0 rfl rfl) h0
  clear hA0 hval0
  refine (regsMaps_walk s0 f0 w0 g0 W).mono fun e W' ⟨he, bel⟩ => ?_
  subst he
  exact ⟨_, rfl, _, _, _, [], _, [], hW', trodAll_mk1 (shut_bool Try.underlying4 _), (trodAll_cons_mk (Below.trod laidOut (by kernel_rfl) (of_decide_eq_true (by kernel_rfl)) k0 bel lt0) trodAll_mk0), rfl, bel.frame _, fun h => by cases h⟩

theorem regsMaps_over : Rows.regsMapsRow.holds Try.pinned (OpenSpec.ofChange Rows.regsMapsSpec) :=
  OpenClaim.holds_of_wide 3 Try.f3 rfl rfl rfl rfl rfl rfl rfl ⟨rfl, rfl, rfl, rfl, rfl⟩ rfl rfl rfl rfl rfl (by kernel_rfl) Try.func3 (by kernel_rfl)
    (of_decide_eq_true (by kernel_rfl)) (by unfold Func.isWrapper; first | (rw [if_pos (by decide +kernel)]; kernel_rfl) | (rw [if_neg (by decide +kernel)]; exact ⟨rfl, rfl⟩))
    (fun os started H enc _ => regsMaps_lifted os started H enc)

theorem regsMaps_holds : Rows.RegsMapsSaid := regsMaps_over
#print axioms regsMaps_holds
end Go.Proofs.Ytbgbedkmggefpaa
