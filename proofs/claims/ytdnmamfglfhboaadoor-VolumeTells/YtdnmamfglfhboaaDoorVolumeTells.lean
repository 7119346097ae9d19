/- For every number and three more the law VolumeTells of layer 20 returns true, where the program's table of levels holds what its own initialiser lays: any attenuation, and any volume and balances, are as loud as the document says. -/
import Derived.Test.YtdnmamfglfhboaaDoorRef20
import Derived.Test.YtdnmamfglfhboaaDoorLevLaid
import Derived.Test.YtdnmamfglfhboaaDoorArrays
import Derived.Test.YtdnmamfglfhboaaDoorTwo
import Derived.Test.YtdnmamfglfhboaaDoorNamed
import Derived.Test.YtdnmamfglfhboaaDoorTie
import Derived.Test.YtdnmamfglfhboaaDoorCards
import Derived.SevenTiedAt
import Derived.OpenShut
import Derived.ShutString
import Derived.ChangeOld
import Derived.Below
namespace Go.Proofs.YtdnmamfglfhboaaDoor
open Go.ChangeShapes Go.WideShapes Go.ChangeAt Go.RowKit
open Go.ChangeMaps (open_string shut_string)
set_option linter.unusedVariables false
theorem own : ownKnob Tryd.prog.godebug = none := by kernel_rfl

set_option maxRecDepth 20000 in
set_option maxHeartbeats 2000000 in
theorem volumeTells_walk (n : Int) (zs : List Int) (w : World) (w0 : (Lit.int .i64 n).wf = true) (l1 : zs.length = 3) (w1 : ∀ z ∈ zs, (Lit.int .i64 z).wf = true) (hL : HasLevels w) :
    Calls Tryd.prog 3 #[.int .i64 n, .agg (zs.map (Value.int .i64)).toArray] w fun e w' => e = .returned (.bool true) ∧ Below w.heap.size w w' := by
  obtain ⟨x, y, z, rfl⟩ := three_of zs l1
  clear w0 w1 l1
  simp only [List.map]
  have HL := hide hL
  have e1 : gainOf 30 15 15 = 862 := by decide
  clear hL
  go_enter Tryd.func3, Tryd.ntmps3
  go_wp2_with fail
  refine under_name fun wa hwa => ?_
  have B := hide (by rw [hwa]; exact (Below.refl _ w).alloc (Nat.le_refl _) _ : Below w.heap.size w wa)
  have HA := hide (HL.out.next B.out)
  have hs : w.heap.size < wa.heap.size := by rw [hwa]; simp
  have d0 := kept_cell (by rw [hwa]; simp : wa.cell? ⟨w.heap.size, 0, none⟩ = some (.int .i64 x)) hs
  have d1 := kept_cell (by rw [hwa]; simp : wa.cell? ⟨w.heap.size, 1, none⟩ = some (.int .i64 y)) hs
  have d2 := kept_cell (by rw [hwa]; simp : wa.cell? ⟨w.heap.size, 2, none⟩ = some (.int .i64 z)) hs
  clear hwa
  haveI := kept_some wa
  refine wp_region_kept (by kernel_rfl) (by kernel_rfl) ?_
  repeat (go_big_quiet_step ((first
    | (go_at_call 6; exact kept_same (level_any _ _ (HA.out.next (Kept.below _))))
    | (go_at_call 8; exact kept_same (gain_any _ _ _ _ (HA.out.next (Kept.below _))))
    | (go_at_call 7; exact kept_call (rlevel_any _ _))
    | (go_at_call 9; exact kept_call (rgain_any _ _ _ _)))))
  refine wpQuiet_nil ?_
  rintro _ ⟨wk, rfl⟩
  go_wp2
  go_ret
  exact ⟨rfl, bnext B.out wk.below⟩

set_option maxRecDepth 100000 in
theorem volumeTells_lifted (os : Os) (started : os.Started) (H : Type) (enc : TypeId × Value → H) :
    ReturnsInHanded {} Tryd.checked os 3 .any (fun w args => (Rows.volumeTellsSpec.pre enc Tryd.prog Tryd.f3 [] false w args ∧ laidMetH Tryd.prog laidLev w) ∧ sizedMet enc Tryd.prog Tryd.f3 (OpenSpec.ofChange Rows.volumeTellsSpec) false w args)
      (Rows.volumeTellsSpec.post enc Tryd.prog Tryd.f3 false true false false) := by
  refine returnsInHanded_of_change_and (C := Tryd.checked) (X := fun w _ => laidMetH Tryd.prog laidLev w) (fun _ _ _ hh h => h.of_heap hh) own started (by kernel_rfl) Tryd.func3
    (ChangeSpec.witness_at (enc := enc) (C := Tryd.checked) (os := os) (X := fun w _ => laidMetH Tryd.prog laidLev w) false (laidWorld os) #[.int .i64 0, .agg #[.int .i64 0, .int .i64 0, .int .i64 0]] 8 rfl (by kernel_rfl) (by kernel_rfl) (by kernel_rfl) (by kernel_rfl) (by kernel_rfl) (laidWorld_lev os _)) ?_
  intro W base args ds gs before hval0 hW _ _ hL _
  have hval : ∀ (j : Nat) t v, Tryd.f3.params[j]? = some t → args[j]? = some v → Value.okWide Tryd.prog W .any base t v := hval0
  have hW' := hW
  obtain ⟨p, q, hA0, hV, rfl, hfz, hnd⟩ := hW
  have hA : DataW.TrodAll enc Tryd.prog W 0 (fun _ => true) true Tryd.f3.params.toList args.toList ds p := hA0
  rw [Tryd.params3] at hA hval
  obtain ⟨v0, vs0, d0, ds0, p0, q0, hargs, rfl, rfl, h0, r0⟩ := trodAll_cons hA
  obtain ⟨v1, vs1, d1, ds1, p1, q1, rfl, rfl, rfl, h1, r1⟩ := trodAll_cons r0
  obtain ⟨rfl, rfl, rfl⟩ := trodAll_nil r1
  obtain rfl : args = #[v0, v1] := by cases args; simp_all
  obtain ⟨rfl, rfl⟩ := trodVars_none hV
  obtain ⟨a0, rfl, rfl, rfl, w0⟩ := open_int Tryd.underlying3 (hval 0 3 v0 rfl rfl) h0
  have k1 := h1
  have lt1 : ∀ x ∈ p1, x.block < W.heap.size := by obtain ⟨m, hm⟩ := k1; exact DataW.trod_lt m _ _ _ hm
  obtain ⟨z1, l1, rfl, w1⟩ := open_array_ints Tryd.underlying22 Tryd.underlying3 (by kernel_rfl) (by kernel_rfl) (hval 1 22 v1 rfl rfl) h1
  clear hA0 hval0
  refine (volumeTells_walk a0 z1 W w0 l1 w1 (laid_lev hL)).mono fun e W' ⟨he, bel⟩ => ?_
  subst he
  exact ⟨_, rfl, _, _, _, [], _, [], hW', trodAll_mk1 (shut_bool Tryd.underlying4 _), (trodAll_cons_mk (shut_int Tryd.underlying3 w0) (trodAll_cons_mk (Below.trod laidOut (by kernel_rfl) (of_decide_eq_true (by kernel_rfl)) k1 bel lt1) trodAll_mk0)), rfl, bel.frame _, fun h => by cases h⟩

theorem volumeTells_over : Rows.volumeTellsRow.holds Tryd.pinned (OpenSpec.ofChange Rows.volumeTellsSpec) :=
  OpenClaim.holds_of_wide 3 Tryd.f3 rfl rfl rfl rfl rfl rfl rfl ⟨rfl, rfl, rfl, rfl, rfl⟩ rfl rfl rfl rfl rfl (by kernel_rfl) Tryd.func3 (by kernel_rfl)
    (of_decide_eq_true (by kernel_rfl)) (by unfold Func.isWrapper; first | (rw [if_pos (by decide +kernel)]; kernel_rfl) | (rw [if_neg (by decide +kernel)]; exact ⟨rfl, rfl⟩))
    (fun os started H enc _ => volumeTells_lifted os started H enc)

theorem volumeTells_row : Rows.VolumeTellsSaid := volumeTells_over

theorem volumeTells_holds : Rows.VolumeTellsCardSaid :=
  Claim7.holds_tied_plain_at .later [] [.data] true (true, "7d6a7dd12b8796ad1bf6b83b9e77345f4a5b8493b29a3d6ae523c26583a2ed21") false
    volumeTells_row (fun _ h => by cases h) (by kernel_rfl) (fun _ h => by cases h) volumeTells_row_tie rfl ⟨rfl, rfl⟩ (by kernel_rfl) rfl
    (fun f fn hf hfn => by
      obtain rfl : f = 3 := Option.some.inj ((show Tryd.prog.funcNamed "phosphor/phosphorlaw20.VolumeTells" = some 3 by kernel_rfl).symm.trans hf) |>.symm
      obtain rfl : fn = Tryd.f3 := (Option.some.inj (Tryd.func3.symm.trans hfn)).symm
      exact ⟨by kernel_rfl, fun j t ht => by
        rw [Tryd.params3] at ht
        rcases j with _ | _ | j
        · obtain rfl : t = 3 := by simpa using ht.symm
          exact (show Tryd.prog.wantsStandIn 3 = false by kernel_rfl)
        · obtain rfl : t = 22 := by simpa using ht.symm
          exact (show Tryd.prog.wantsStandIn 22 = false by kernel_rfl)
        · simp at ht⟩)
    (by kernel_rfl)
#print axioms volumeTells_holds
end Go.Proofs.YtdnmamfglfhboaaDoor
