/- A branch goes on behind itself, or as far as it says, by its flag, and takes two cycles, or four; it changes no flag but T: for every three numbers. What the card leans on: the eight listed variables hold at the call's beginning what the program's text lays. -/
import Derived.Test.YtkpcpjneeinkdaaGreatDoorCpuBranchesJ51
import Derived.Test.YtkpcpjneeinkdaaGreatDoorCpuBranchesJ52
import Derived.Test.YtkpcpjneeinkdaaGreatDoorTie
import Derived.Test.YtkpcpjneeinkdaaGreatDoorCards
import Derived.SevenTiedAt
import Derived.OpenShut
import Derived.ShutString
import Derived.ChangeOld
import Derived.Below
namespace Go.Proofs.YtkpcpjneeinkdaaGreatDoor
open Go.Proofs.YtkpcpjneeinkdaaGreatDoor.A2 Go.Proofs.YtkpcpjneeinkdaaGreatDoor.B4 Go.Proofs.YtkpcpjneeinkdaaGreatDoor.C3 Go.Proofs.YtkpcpjneeinkdaaGreatDoor.D24 Go.Proofs.YtkpcpjneeinkdaaGreatDoor.G6 Go.Proofs.YtkpcpjneeinkdaaGreatDoor.I11 Go.Proofs.YtkpcpjneeinkdaaGreatDoor.J23 Go.Proofs.YtkpcpjneeinkdaaGreatDoor.K9 Go.Proofs.YtkpcpjneeinkdaaGreatDoor.L24 Go.Proofs.YtkpcpjneeinkdaaGreatDoor.L25 Go.Proofs.YtkpcpjneeinkdaaGreatDoor.M5 Go.Proofs.YtkpcpjneeinkdaaGreatDoor.N8 Go.Proofs.YtkpcpjneeinkdaaGreatDoor.O7 Go.Proofs.YtkpcpjneeinkdaaGreatDoor.P22 Go.Proofs.YtkpcpjneeinkdaaGreatDoor.R15 Go.Proofs.YtkpcpjneeinkdaaGreatDoor.T10 Go.Proofs.YtkpcpjneeinkdaaGreatDoor.V12 Go.Proofs.YtkpcpjneeinkdaaGreatDoor.W13
open Go.ChangeShapes Go.WideShapes Go.ChangeAt Go.RowKit
open Go.ChangeMaps (open_string shut_string)
set_option linter.unusedVariables false
theorem own : ownKnob Tryz.prog.godebug = none := by kernel_rfl
set_option maxRecDepth 100000 in
theorem cpuBranches_lifted (os : Os) (started : os.Started) (H : Type) (enc : TypeId × Value → H) :
    ReturnsInHanded {} Tryz.checked os 8 .any (fun w args => (Rows.cpuBranchesSpec.pre enc Tryz.prog Tryz.f8 [] false w args ∧ laidMetH Tryz.prog laidCpu w) ∧ sizedMet enc Tryz.prog Tryz.f8 (OpenSpec.ofChange Rows.cpuBranchesSpec) false w args)
      (Rows.cpuBranchesSpec.post enc Tryz.prog Tryz.f8 false true false false) := by
  refine returnsInHanded_of_change_and (C := Tryz.checked) (X := fun w _ => laidMetH Tryz.prog laidCpu w) (fun _ _ _ hh h => h.of_heap hh) own started (by kernel_rfl) Tryz.func8
    (ChangeSpec.witness_at (enc := enc) (C := Tryz.checked) (os := os) (X := fun w _ => laidMetH Tryz.prog laidCpu w) false (laidWorld os) #[.int .i64 0, .int .i64 0, .int .u8 0] 8 rfl (by kernel_rfl) (by kernel_rfl) (by kernel_rfl) (by kernel_rfl) (by kernel_rfl) (laidWorld_cpu os _)) ?_
  intro W base args ds gs before hval0 hW _ _ hL _
  have hval : ∀ (j : Nat) t v, Tryz.f8.params[j]? = some t → args[j]? = some v → Value.okWide Tryz.prog W .any base t v := hval0
  have hW' := hW
  obtain ⟨p, q, hA0, hV, rfl, hfz, hnd⟩ := hW
  have hA : DataW.TrodAll enc Tryz.prog W 0 (fun _ => true) true Tryz.f8.params.toList args.toList ds p := hA0
  rw [Tryz.params8] at hA hval
  obtain ⟨v0, vs0, d0, ds0, p0, q0, hargs, rfl, rfl, h0, r0⟩ := trodAll_cons hA
  obtain ⟨v1, vs1, d1, ds1, p1, q1, rfl, rfl, rfl, h1, r1⟩ := trodAll_cons r0
  obtain ⟨v2, vs2, d2, ds2, p2, q2, rfl, rfl, rfl, h2, r2⟩ := trodAll_cons r1
  obtain ⟨rfl, rfl, rfl⟩ := trodAll_nil r2
  obtain rfl : args = #[v0, v1, v2] := by cases args; simp_all
  obtain ⟨rfl, rfl⟩ := trodVars_none hV
  obtain ⟨a0, rfl, rfl, rfl, w0⟩ := open_int Tryz.underlying3 (hval 0 3 v0 rfl rfl) h0
  obtain ⟨a1, rfl, rfl, rfl, w1⟩ := open_int Tryz.underlying3 (hval 1 3 v1 rfl rfl) h1
  obtain ⟨a2, rfl, rfl, rfl, w2⟩ := open_int Tryz.underlying5 (hval 2 5 v2 rfl rfl) h2
  clear hA0 hval0
  refine (cpuBranches_walk a0 a1 a2 W w0 w1 w2 (laid_cpu hL)).mono fun e W' ⟨he, bel⟩ => ?_
  subst he
  exact ⟨_, rfl, _, _, _, [], _, [], hW', trodAll_mk1 (shut_bool Tryz.underlying4 _), (trodAll_cons_mk (shut_int Tryz.underlying3 w0) (trodAll_cons_mk (shut_int Tryz.underlying3 w1) (trodAll_cons_mk (shut_int Tryz.underlying5 w2) trodAll_mk0))), rfl, bel.frame _, fun h => by cases h⟩
theorem cpuBranches_over : Rows.cpuBranchesRow.holds Tryz.pinned (OpenSpec.ofChange Rows.cpuBranchesSpec) :=
  OpenClaim.holds_of_wide 8 Tryz.f8 rfl rfl rfl rfl rfl rfl rfl ⟨rfl, rfl, rfl, rfl, rfl⟩ rfl rfl rfl rfl rfl (by kernel_rfl) Tryz.func8 (by kernel_rfl)
    (of_decide_eq_true (by kernel_rfl)) (by unfold Func.isWrapper; first | (rw [if_pos (by decide +kernel)]; kernel_rfl) | (rw [if_neg (by decide +kernel)]; exact ⟨rfl, rfl⟩))
    (fun os started H enc _ => cpuBranches_lifted os started H enc)
theorem cpuBranches_row : Rows.CpuBranchesSaid := cpuBranches_over
theorem cpuBranches_holds : Rows.CpuBranchesCardSaid :=
  Claim7.holds_tied_plain_at .later [] [.data, .data, .data, .data, .handle, .data, .data, .data] true (true, "e26201405555bb61aab2f185cd13dd007649450404d4b0e783a3e288a56358ff") true
    cpuBranches_row (fun _ h => by cases h) (by kernel_rfl) (fun _ h => by cases h) cpuBranches_row_tie rfl ⟨rfl, rfl⟩ (by kernel_rfl) rfl
    (fun f fn hf hfn => by
      obtain rfl : f = 8 := Option.some.inj ((show Tryz.prog.funcNamed "phosphor/phosphorlaw25.CpuBranches" = some 8 by kernel_rfl).symm.trans hf) |>.symm
      obtain rfl : fn = Tryz.f8 := (Option.some.inj (Tryz.func8.symm.trans hfn)).symm
      exact ⟨by kernel_rfl, fun j t ht => by
        rw [Tryz.params8] at ht
        rcases j with _ | _ | _ | j
        · obtain rfl : t = 3 := by simpa using ht.symm
          exact (show Tryz.prog.wantsStandIn 3 = false by kernel_rfl)
        · obtain rfl : t = 3 := by simpa using ht.symm
          exact (show Tryz.prog.wantsStandIn 3 = false by kernel_rfl)
        · obtain rfl : t = 5 := by simpa using ht.symm
          exact (show Tryz.prog.wantsStandIn 5 = false by kernel_rfl)
        · simp at ht⟩)
    (by kernel_rfl)
#print axioms cpuBranches_holds
end Go.Proofs.YtkpcpjneeinkdaaGreatDoor
