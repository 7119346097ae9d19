/- Consoles that no call made, and of no card, do nothing: for any number of ticks. What the card leans on: the ten listed variables hold at the call's beginning what the program's text lays. -/
import Derived.Test.YtnoggfnidaifkaaGreatDoorConsoleNobodyJ51
import Derived.Test.YtnoggfnidaifkaaGreatDoorConsoleNobodyJ52
import Derived.Test.YtnoggfnidaifkaaGreatDoorTie
import Derived.Test.YtnoggfnidaifkaaGreatDoorCards
import Derived.SevenTiedAt
import Derived.OpenShut
import Derived.ShutString
import Derived.ChangeOld
import Derived.Below
namespace Go.Proofs.YtnoggfnidaifkaaGreatDoor
set_option maxRecDepth 20000
open A2 B4 C3 D24 G6 I11 J23 K9 L24 L25 M5 N8 O7 P22 R15 T10 V12 W13
open Go.ChangeShapes Go.WideShapes Go.ChangeAt Go.RowKit
open Go.ChangeMaps (open_string shut_string)
set_option linter.unusedVariables false
theorem own : ownKnob Tryz.prog.godebug = none := by kernel_rfl
set_option maxRecDepth 100000 in
theorem consoleNobody_lifted (os : Os) (started : os.Started) (H : Type) (enc : TypeId × Value → H) :
    ReturnsInHanded {} Tryz.checked os 3 .any (fun w args => (Rows.consoleNobodySpec.pre enc Tryz.prog Tryz.f3 [] false w args ∧ laidMetH Tryz.prog laidCon w) ∧ sizedMet enc Tryz.prog Tryz.f3 (OpenSpec.ofChange Rows.consoleNobodySpec) false w args)
      (Rows.consoleNobodySpec.post enc Tryz.prog Tryz.f3 false true false false) := by
  refine returnsInHanded_of_change_and (C := Tryz.checked) (X := fun w _ => laidMetH Tryz.prog laidCon w) (fun _ _ _ hh h => h.of_heap hh) own started (by kernel_rfl) Tryz.func3
    (ChangeSpec.witness_at (enc := enc) (C := Tryz.checked) (os := os) (X := fun w _ => laidMetH Tryz.prog laidCon w) false (laidWorld os) #[.int .i64 0] 8 rfl (by kernel_rfl) (by kernel_rfl) (by kernel_rfl) (by kernel_rfl) (by kernel_rfl) (laidWorld_con os _)) ?_
  intro W base args ds gs before hval0 hW _ _ hL _
  have hval : ∀ (j : Nat) t v, Tryz.f3.params[j]? = some t → args[j]? = some v → Value.okWide Tryz.prog W .any base t v := hval0
  have hW' := hW
  obtain ⟨p, q, hA0, hV, rfl, hfz, hnd⟩ := hW
  have hA : DataW.TrodAll enc Tryz.prog W 0 (fun _ => true) true Tryz.f3.params.toList args.toList ds p := hA0
  rw [Tryz.params3] at hA hval
  obtain ⟨v0, vs0, d0, ds0, p0, q0, hargs, rfl, rfl, h0, r0⟩ := trodAll_cons hA
  obtain ⟨rfl, rfl, rfl⟩ := trodAll_nil r0
  obtain rfl : args = #[v0] := by cases args; simp_all
  obtain ⟨rfl, rfl⟩ := trodVars_none hV
  obtain ⟨a0, rfl, rfl, rfl, w0⟩ := open_int Tryz.underlying3 (hval 0 3 v0 rfl rfl) h0
  clear hA0 hval0
  refine (consoleNobody_walk a0 W w0 (laid_con hL)).mono fun e W' ⟨he, bel⟩ => ?_
  subst he
  exact ⟨_, rfl, _, _, _, [], _, [], hW', trodAll_mk1 (shut_bool Tryz.underlying4 _), (trodAll_cons_mk (shut_int Tryz.underlying3 w0) trodAll_mk0), rfl, bel.frame _, fun h => by cases h⟩
theorem consoleNobody_inPlace : (Rows.consoleNobodyRow.inPlace == Tryz.pinned.checked.prog.inPlace 3) = true := by kernel_rfl
theorem consoleNobody_unfollowed : (Rows.consoleNobodyRow.unfollowed == Tryz.pinned.checked.prog.unfollowed 3) = true := by kernel_rfl
theorem consoleNobody_recurses : (Rows.consoleNobodyRow.recurses == Tryz.pinned.checked.prog.recurses 3) = true := by kernel_rfl
theorem consoleNobody_named : (Rows.consoleNobodyRow.named == Tryz.pinned.checked.prog.varsNamed 3) = true := by kernel_rfl
theorem consoleNobody_laidOutB : laidOutB Tryz.pinned.checked.prog = true := by kernel_rfl
theorem consoleNobody_heard : Tryz.pinned.checked.prog.stopsHeard = true := by kernel_rfl
theorem consoleNobody_mayEnter : Tryz.pinned.checked.prog.mayEnter = true := by kernel_rfl
theorem consoleNobody_facts : joinedFacts Tryz.pinned.checked.prog 3 Tryz.f3 Rows.consoleNobodySpec Rows.consoleNobodyRow = true := by
  unfold joinedFacts
  rw [consoleNobody_inPlace, consoleNobody_unfollowed, consoleNobody_recurses, consoleNobody_named, consoleNobody_laidOutB, consoleNobody_heard, consoleNobody_mayEnter]
  kernel_rfl
theorem consoleNobody_over : Rows.consoleNobodyRow.holds Tryz.pinned (OpenSpec.ofChange Rows.consoleNobodySpec) :=
  OpenClaim.holds_of_wide 3 Tryz.f3 rfl rfl rfl rfl rfl rfl rfl ⟨rfl, rfl, rfl, rfl, rfl⟩ rfl rfl rfl rfl rfl (by kernel_rfl) Tryz.func3 consoleNobody_facts
    (of_decide_eq_true (by kernel_rfl)) (by unfold Func.isWrapper; first | (rw [if_pos (by decide +kernel)]; kernel_rfl) | (rw [if_neg (by decide +kernel)]; exact ⟨rfl, rfl⟩))
    (fun os started H enc _ => consoleNobody_lifted os started H enc)
theorem consoleNobody_row : Rows.ConsoleNobodySaid := consoleNobody_over
theorem consoleNobody_holds : Rows.ConsoleNobodyCardSaid :=
  Claim7.holds_tied_plain_at .later [] [.data, .data, .data, .data, .data, .handle, .data, .data, .data, .data] true (true, "7fb650b981316a05affba96141d7270daf6dbac76ff1ad5bcbfba5c177de5196") true
    consoleNobody_row (fun _ h => by cases h) (by kernel_rfl) (fun _ h => by cases h) consoleNobody_row_tie rfl ⟨rfl, rfl⟩ (by kernel_rfl) rfl
    (fun f fn hf hfn => by
      obtain rfl : f = 3 := Option.some.inj ((show Tryz.prog.funcNamed "phosphor/phosphorlaw26.ConsoleNobody" = some 3 by kernel_rfl).symm.trans hf) |>.symm
      obtain rfl : fn = Tryz.f3 := (Option.some.inj (Tryz.func3.symm.trans hfn)).symm
      exact ⟨by kernel_rfl, fun j t ht => by
        rw [Tryz.params3] at ht
        rcases j with _ | j
        · obtain rfl : t = 3 := by simpa using ht.symm
          exact (show Tryz.prog.wantsStandIn 3 = false by kernel_rfl)
        · simp at ht⟩)
    (by kernel_rfl)
#print axioms consoleNobody_holds
end Go.Proofs.YtnoggfnidaifkaaGreatDoor
