/- For every two numbers the law PadSix of layer 23 returns true: a pad of six buttons tells these each second time that Clr is set, with Sel nothing, and its first ones else. No condition. -/
import Derived.Test.YtliedfjaeakgeaaPad23
import Derived.Test.YtliedfjaeakgeaaKeys23
import Derived.Test.YtliedfjaeakgeaaStructs
import Derived.OpenShut
import Derived.ShutString
import Derived.ChangeOld
import Derived.Below
namespace Go.Proofs.Ytliedfjaeakgeaa
open Go.ChangeShapes Go.WideShapes Go.ChangeAt Go.RowKit
open Go.ChangeMaps (open_string shut_string)
set_option linter.unusedVariables false
theorem own : ownKnob Try.prog.godebug = none := by kernel_rfl

def k6 (keys : Int) : Nat → Int := fun j => if j = 0 then keys else 0
def x6 : Nat → Bool := fun j => j == 0
theorem row6 (keys : Int) : rowF (pc (k6 keys) x6) 10 = #[.int .i64 keys, .bool true, .int .i64 0, .bool false, .int .i64 0, .bool false, .int .i64 0, .bool false, .int .i64 0, .bool false] := rfl
theorem six_2 (d : Bool) (w : World) : Calls Try.prog 7 #[.agg #[.bool false, .bool false, .bool d, .int .i64 0], .int .i64 2] w fun e w' => e = Ending.returned (.agg #[.bool false, .bool true, .bool (!d), .int .i64 0]) ∧ Below w.heap.size w w' := write_any false false d 0 2 w
theorem six_0 (d : Bool) (w : World) : Calls Try.prog 7 #[.agg #[.bool false, .bool true, .bool d, .int .i64 0], .int .i64 0] w fun e w' => e = Ending.returned (.agg #[.bool false, .bool false, .bool d, .int .i64 0]) ∧ Below w.heap.size w w' := write_any false true d 0 0 w
set_option maxHeartbeats 2000000 in
theorem padSix_walk (keys n : Int) (w0 : (Lit.int .i64 keys).wf = true) (w1 : (Lit.int .i64 n).wf = true) (w : World) : Calls Try.prog 5 #[.int .i64 keys, .int .i64 n] w fun e w' => e = .returned (.bool true) ∧ Below w.heap.size w w' := by
  clear w0 w1
  have en := and_7 n
  obtain ⟨N, hN⟩ : ∃ N : Nat, n % 8 = N := ⟨(n % 8).toNat, by omega⟩
  have hN8 : N < 8 := by omega
  rw [hN] at en
  clear hN
  have K2 := hide six_2
  have K0 := hide six_0
  go_enter Try.func5, Try.ntmps5
  go_wp2_with fail
  refine under_name fun wa hwa => ?_
  have P0 := hide (show HasP 23 wa (w.heap.size + 1) false false (par 0) 0 by rw [hwa]; exact heap_alloc2_new _ _ _)
  have Q0 := hide (show HasF 26 wa w.heap.size 10 (pc (k6 keys) x6) by
    have h := hasF_new 26 w 10 (pc (k6 keys) x6)
    rw [row6] at h
    rw [hwa]
    exact h.next ((Below.refl _ _).alloc (Nat.le_refl _) _))
  have B0 := hide (show Below w.heap.size w wa by rw [hwa]; exact ((Below.refl _ w).alloc (Nat.le_refl _) _).alloc (by simp) _)
  clear hwa
  obtain ⟨s0, hs0⟩ : ∃ s, w.heap.size = s := ⟨_, rfl⟩
  rw [hs0] at P0 Q0 ⊢
  have HS := hide hs0
  clear hs0
  go_loopw [7] (fun v w' => ∃ k : Nat, k ≤ N ∧ v = .int .i64 k ∧ HasP 23 w' (s0 + 1) false false (par k) 0 ∧ HasF 26 w' s0 10 (pc (k6 keys) x6) ∧ Below w.heap.size w w') (fun v _ => N - (intOf v).toNat)
  case atStart => exact ⟨0, Nat.zero_le _, rfl, P0.out, Q0.out, B0.out⟩
  case round =>
    clear P0 Q0 B0
    obtain ⟨k, hk, rfl, h1, h2, h3⟩ := hrel
    have P1 := hide h1
    have Q1 := hide h2
    have B1 := hide h3
    clear h1 h2 h3
    by_cases hlt : k < N
    · go_wp2_with (first
        | (refine wpList_load_row rfl 23 (.tmp 6) rfl (s0 + 1) rfl _ _ _ _ P1.out Try.underlying23 rfl (by kernel_rfl) ?_))
      refine (K2.out _ _).mono ?_
      rintro e w2 ⟨rfl, b2⟩
      go_wp2_with fail
      refine (K0.out _ _).mono ?_
      rintro e w3 ⟨rfl, b3⟩
      have P3 := hide ((P1.out.next b2).next b3)
      have Q3 := hide ((Q1.out.next b2).next b3)
      have B3 := hide (bnext (bnext B1.out b2) b3)
      clear b2 b3 P1 Q1 B1
      go_wp2_with (first
        | (refine wpList_store_row rfl 23 (.tmp 6) (.tmp 23) rfl (s0 + 1) _ rfl rfl 23 _ P3.out (by kernel_rfl) rfl (by kernel_rfl) ?_
           refine under_list fun w4 hw4 => ?_
           have P4 : Hid (HasP 23 w4 (s0 + 1) false false (par (k + 1)) 0) := hide (by rw [hw4, par_next]; exact setRow_heap _ _ _ _ _ _ P3.out)
           have Q4 : Hid (HasF 26 w4 s0 10 (pc (k6 keys) x6)) := hide (by rw [hw4]; exact Q3.out.row _ (by omega))
           have B4 : Hid (Below w.heap.size w w4) := hide (by rw [hw4]; exact below_setRow B3.out (by have := HS.out; omega) _)
           clear hw4 P3 Q3 B3))
      exact ⟨⟨k + 1, by omega, by go_num, P4.out, Q4.out, B4.out⟩, by simp [intOf]; omega⟩
    · obtain rfl : k = N := by omega
      rcases (show k % 2 = 0 ∨ k % 2 = 1 by omega) with h2 | h2
      · have hp : par k = false := by unfold par; rw [h2]; rfl
        have em : (k : Int).tmod 2 = 0 := by rw [Int.tmod_eq_emod_of_nonneg (by omega)]; omega
        rw [hp] at P1
        clear hp h2
        obtain ⟨F, hF⟩ : ∃ F : Bool → Int, ∀ s, rdOf s false 0 (k6 keys) x6 true = F s := ⟨fun s => rdOf s false 0 (k6 keys) x6 true, fun _ => rfl⟩
        have KR : Hid (∀ (s : Bool) (w : World), Calls Try.prog 9 #[.agg #[.bool s, .bool false, .bool false, .int .i64 0], .agg (rowF (pc (k6 keys) x6) 10), .bool true] w fun e w' => e = Ending.returned (.int .i64 (F s)) ∧ Below w.heap.size w w') := hide (fun s w => by rw [← hF s]; exact read_any s false false 0 (k6 keys) x6 true w)
        have f1 : bits .or .i64 176 (bits .andNot .i64 15 (keys / 16)) = F true := (by rw [or_176, ← hF]; show 191 - keys / 16 % 16 = 191 - keys % 65536 / 16 % 16; omega); have f0 : bits .or .i64 176 (bits .andNot .i64 15 keys) = F false := (by rw [or_176, ← hF]; show 191 - keys % 16 = 191 - keys % 65536 / 1 % 16; omega)
        clear hF
        have i0 := kept_cell P1.out.c0 P1.out.lt
        have i1 := kept_cell P1.out.c1 P1.out.lt
        have i2 := kept_cell P1.out.c2 P1.out.lt
        have i3 := kept_cell P1.out.c3 P1.out.lt
        have j2 := P1.out.c2
        have j3 := P1.out.c3
        have RQ := hide (Q1.out.range 0 10 (by decide))
        simp only [Nat.zero_add] at RQ
        have RI : Hid ((Try.prog.info? 26).map (·.size) = some (rowF (pc (k6 keys) x6) 10).size) := hide (by rw [rowF_size]; kernel_rfl)
        have HQ := hide Q1.out.lt
        have HP := hide P1.out.lt
        clear P1 Q1
        generalize rowF (pc (k6 keys) x6) 10 = R at *
        go_wp2_with fail
        haveI := kept_some wr
        refine wp_region_kept (by kernel_rfl) (by kernel_rfl) ?_
        repeat (first
          | (refine wpQuiet_mid rfl 26 (.tmp 5) rfl s0 0 rfl R _ (fun w' ⟨x, hx⟩ => by rw [hx]; intro j v hv; rw [x.cell s0 _ HQ.out]; exact RQ.out j v hv) Try.underlying26 rfl RI.out ?_; simp only [Act.put, List.setIfInBounds_toArray, List.set_cons_succ, List.set_cons_zero])
          | go_big_quiet_step ((go_at_call 9; exact kept_call (KR.out _ _))))
        refine wpQuiet_nil ?_
        rintro _ ⟨wk, rfl⟩
        have y2 := i2 wk
        have y3 := i3 wk
        clear i0 i1 i2 i3
        go_wp2
        go_ret
        exact ⟨by first | rfl | exact ret_bool (by simp), bnext B1.out wk.below⟩
      · have hp : par k = true := by unfold par; rw [h2]; rfl
        have em : (k : Int).tmod 2 = 1 := by rw [Int.tmod_eq_emod_of_nonneg (by omega)]; omega
        rw [hp] at P1
        clear hp h2
        obtain ⟨F, hF⟩ : ∃ F : Bool → Int, ∀ s, rdOf s true 0 (k6 keys) x6 true = F s := ⟨fun s => rdOf s true 0 (k6 keys) x6 true, fun _ => rfl⟩
        have KR : Hid (∀ (s : Bool) (w : World), Calls Try.prog 9 #[.agg #[.bool s, .bool false, .bool true, .int .i64 0], .agg (rowF (pc (k6 keys) x6) 10), .bool true] w fun e w' => e = Ending.returned (.int .i64 (F s)) ∧ Below w.heap.size w w') := hide (fun s w => by rw [← hF s]; exact read_any s false true 0 (k6 keys) x6 true w)
        have f1 : F true = 176 := (by rw [← hF]; rfl); have f0 : bits .or .i64 176 (bits .andNot .i64 15 (keys / 256)) = F false := (by rw [or_176, ← hF]; show 191 - keys / 256 % 16 = 191 - keys % 65536 / 256 % 16; omega)
        clear hF
        have i0 := kept_cell P1.out.c0 P1.out.lt
        have i1 := kept_cell P1.out.c1 P1.out.lt
        have i2 := kept_cell P1.out.c2 P1.out.lt
        have i3 := kept_cell P1.out.c3 P1.out.lt
        have j2 := P1.out.c2
        have j3 := P1.out.c3
        have RQ := hide (Q1.out.range 0 10 (by decide))
        simp only [Nat.zero_add] at RQ
        have RI : Hid ((Try.prog.info? 26).map (·.size) = some (rowF (pc (k6 keys) x6) 10).size) := hide (by rw [rowF_size]; kernel_rfl)
        have HQ := hide Q1.out.lt
        have HP := hide P1.out.lt
        clear P1 Q1
        generalize rowF (pc (k6 keys) x6) 10 = R at *
        go_wp2_with fail
        haveI := kept_some wr
        refine wp_region_kept (by kernel_rfl) (by kernel_rfl) ?_
        repeat (first
          | (refine wpQuiet_mid rfl 26 (.tmp 5) rfl s0 0 rfl R _ (fun w' ⟨x, hx⟩ => by rw [hx]; intro j v hv; rw [x.cell s0 _ HQ.out]; exact RQ.out j v hv) Try.underlying26 rfl RI.out ?_; simp only [Act.put, List.setIfInBounds_toArray, List.set_cons_succ, List.set_cons_zero])
          | go_big_quiet_step ((go_at_call 9; exact kept_call (KR.out _ _))))
        refine wpQuiet_nil ?_
        rintro _ ⟨wk, rfl⟩
        have y2 := i2 wk
        have y3 := i3 wk
        clear i0 i1 i2 i3
        go_wp2
        go_ret
        exact ⟨by first | rfl | exact ret_bool (by simp), bnext B1.out wk.below⟩

set_option maxRecDepth 100000 in
theorem padSix_lifted (os : Os) (started : os.Started) (H : Type) (enc : TypeId × Value → H) :
    ReturnsInHanded {} Try.checked os 5 .any (Rows.padSixSpec.pre6 enc Try.prog Try.f5 Rows.padSixRow.domain false) (Rows.padSixSpec.post enc Try.prog Try.f5 false true false false) := by
  refine returnsInHanded_of_change (C := Try.checked) own started (by kernel_rfl) Try.func5
    (ChangeSpec.witness6 (enc := enc) (C := Try.checked) false ⟨#[], #[.int .i64 0, .int .i64 0], []⟩ 8 (by kernel_rfl) (by kernel_rfl) (by kernel_rfl) (by kernel_rfl)) ?_
  intro W base args ds gs before hval0 hW hcnd _
  have hval : ∀ (j : Nat) t v, Try.f5.params[j]? = some t → args[j]? = some v → Value.okWide Try.prog W .any base t v := hval0
  have hW' := hW
  obtain ⟨p, q, hA0, hV, rfl, hfz, hnd⟩ := hW
  have hA : DataW.TrodAll enc Try.prog W 0 (fun _ => true) true Try.f5.params.toList args.toList ds p := hA0
  rw [Try.params5] at hA hval
  obtain ⟨v0, vs0, d0, ds0, p0, q0, hargs, rfl, rfl, h0, r0⟩ := trodAll_cons hA
  obtain ⟨v1, vs1, d1, ds1, p1, q1, rfl, rfl, rfl, h1, r1⟩ := trodAll_cons r0
  obtain ⟨rfl, rfl, rfl⟩ := trodAll_nil r1
  obtain rfl : args = #[v0, v1] := by cases args; simp_all
  obtain ⟨rfl, rfl⟩ := trodVars_none hV
  obtain ⟨a0, rfl, rfl, rfl, w0⟩ := open_int Try.underlying3 (hval 0 3 v0 rfl rfl) h0
  obtain ⟨a1, rfl, rfl, rfl, w1⟩ := open_int Try.underlying3 (hval 1 3 v1 rfl rfl) h1
  clear hA0 hval0
  refine (padSix_walk a0 a1 w0 w1 W).mono fun e W' ⟨he, bel⟩ => ?_
  subst he
  exact ⟨_, rfl, _, _, _, [], _, [], hW', trodAll_mk1 (shut_bool Try.underlying4 _), (trodAll_cons_mk (shut_int Try.underlying3 w0) (trodAll_cons_mk (shut_int Try.underlying3 w1) trodAll_mk0)), rfl, bel.frame _, fun h => by cases h⟩

theorem padSix_over : Rows.padSixRow.holds Try.pinned (OpenSpec.ofChange Rows.padSixSpec) :=
  OpenClaim.holds_of_wide 5 Try.f5 rfl rfl rfl rfl rfl rfl rfl ⟨rfl, rfl, rfl, rfl, rfl⟩ rfl rfl rfl rfl rfl (by kernel_rfl) Try.func5 (by kernel_rfl)
    (of_decide_eq_true (by kernel_rfl)) (by unfold Func.isWrapper; first | (rw [if_pos (by decide +kernel)]; kernel_rfl) | (rw [if_neg (by decide +kernel)]; exact ⟨rfl, rfl⟩))
    (fun os started H enc _ => padSix_lifted os started H enc)

theorem padSix_holds : Rows.PadSixSaid := padSix_over
#print axioms padSix_holds
end Go.Proofs.Ytliedfjaeakgeaa
