/- Images are a card, or none; a card bytes are read where the published map says: for every image, mapping and list. What the card leans on: the four listed variables hold at the beginning of the call what the program text lays. -/
import Derived.Test.YthelklkfcllddaaGreatDoorTopCardsJ30
import Derived.Test.YthelklkfcllddaaGreatDoorTopCardsJ31
import Derived.Test.YthelklkfcllddaaGreatDoorTie
import Derived.Test.YthelklkfcllddaaGreatDoorCards
import Derived.Test.YthelklkfcllddaaGreatDoorTopCardsJ29
import Derived.Test.YthelklkfcllddaaGreatDoorTopCardsJ32
import Derived.SevenTiedAt
import Derived.OpenShut
import Derived.ShutString
import Derived.ChangeOld
import Derived.Below
namespace Go.Proofs.YthelklkfcllddaaGreatDoor
set_option maxRecDepth 20000
open B4 C3 G6 I11 L24 M5 P22 R15 W13
open Go.ChangeShapes Go.WideShapes Go.ChangeAt Go.RowKit
open Go.ChangeMaps (open_string shut_string)
set_option linter.unusedVariables false
theorem own : ownKnob Tryz.prog.godebug = none := by kernel_rfl
set_option maxRecDepth 100000 in
theorem topCards_lifted (os : Os) (started : os.Started) (H : Type) (enc : TypeId × Value → H) :
    ReturnsInHanded {} Tryz.checked os 3 .any (fun w args => (Rows.topCardsSpec.pre enc Tryz.prog Tryz.f3 [] false w args ∧ laidMetH Tryz.prog laidBus w) ∧ sizedMet enc Tryz.prog Tryz.f3 (OpenSpec.ofChange Rows.topCardsSpec) false w args)
      (Rows.topCardsSpec.post enc Tryz.prog Tryz.f3 false true false false) := by
  refine returnsInHanded_of_change_and (C := Tryz.checked) (X := fun w _ => laidMetH Tryz.prog laidBus w) (fun _ _ _ hh h => h.of_heap hh) own started (by kernel_rfl) Tryz.func3
    (ChangeSpec.witness_at (enc := enc) (C := Tryz.checked) (os := os) (X := fun w _ => laidMetH Tryz.prog laidBus w) false (laidWorld os) #[.agg #[.int .i64 0, .slice none 0 0], .agg #[.int .i64 0, .int .i64 0, .int .i64 0, .int .i64 0, .int .i64 0, .int .i64 0, .int .i64 0, .int .i64 0], .slice none 0 0] 8 rfl (by kernel_rfl) (by kernel_rfl) (by kernel_rfl) (by kernel_rfl) (by kernel_rfl) (laidWorld_bus os _)) ?_
  intro W base args ds gs before hval0 hW _ _ hL _
  have hval : ∀ (j : Nat) t v, Tryz.f3.params[j]? = some t → args[j]? = some v → Value.okWide Tryz.prog W .any base t v := hval0
  have hW' := hW
  obtain ⟨p, q, hA0, hV, rfl, hfz, hnd⟩ := hW
  have hA : DataW.TrodAll enc Tryz.prog W 0 (fun _ => true) true Tryz.f3.params.toList args.toList ds p := hA0
  rw [Tryz.params3] at hA hval
  obtain ⟨v0, vs0, d0, ds0, p0, q0, hargs, rfl, rfl, h0, r0⟩ := trodAll_cons hA
  obtain ⟨v1, vs1, d1, ds1, p1, q1, rfl, rfl, rfl, h1, r1⟩ := trodAll_cons r0
  obtain ⟨v2, vs2, d2, ds2, p2, q2, rfl, rfl, rfl, h2, r2⟩ := trodAll_cons r1
  obtain ⟨rfl, rfl, rfl⟩ := trodAll_nil r2
  obtain rfl : args = #[v0, v1, v2] := by cases args; simp_all
  obtain ⟨rfl, rfl⟩ := trodVars_none hV
  have k0 := h0
  have lt0 : ∀ x ∈ p0, x.block < W.heap.size := by obtain ⟨m, hm⟩ := k0; exact DataW.trod_lt m _ _ _ hm
  obtain ⟨cs0, fu0, rfl, sz0, hf0⟩ := open_struct_cells (n := 2) Tryz.underlying24 (by kernel_rfl) (hval 0 24 v0 rfl rfl) h0
  obtain ⟨y0f0, hy0f0⟩ := hf0 0 _ rfl
  obtain ⟨a0f0, g0f0, _, w0f0⟩ := DataW.trod_int Tryz.underlying3 hy0f0
  have e0f0 := cell_at (by kernel_rfl) g0f0
  obtain ⟨y0f1, hy0f1⟩ := hf0 1 _ rfl
  obtain ⟨a0f1, l0f1, c0f1, z0f1, g0f1, w0f1⟩ := open_field_ints Tryz.underlying22 Tryz.underlying5 (by kernel_rfl) hy0f1
  have e0f1 := cell_at (by kernel_rfl) g0f1
  obtain rfl : cs0 = #[.int .i64 a0f0, .slice a0f1 l0f1 c0f1] := cells_are [.int .i64 a0f0, .slice a0f1 l0f1 c0f1] sz0 (fun j hj => by
    rcases j with _ | _ | j
    · exact e0f0
    · exact e0f1
    · exact absurd hj (by simp only [List.length_cons, List.length_nil]; omega))
  clear hy0f0 g0f0 e0f0 hy0f1 g0f1 e0f1 sz0 hf0
  have k1 := h1
  have lt1 : ∀ x ∈ p1, x.block < W.heap.size := by obtain ⟨m, hm⟩ := k1; exact DataW.trod_lt m _ _ _ hm
  obtain ⟨z1, l1, rfl, w1⟩ := open_array_ints Tryz.underlying25 Tryz.underlying3 (by kernel_rfl) (by kernel_rfl) (hval 1 25 v1 rfl rfl) h1
  obtain ⟨a2, len2, cap2, rfl⟩ := okWide_slice Tryz.underlying26 (hval 2 26 v2 rfl rfl)
  have k2 := h2
  have lt2 : ∀ x ∈ p2, x.block < W.heap.size := by obtain ⟨m, hm⟩ := k2; exact DataW.trod_lt m _ _ _ hm
  have w2 : IsArrs .i64 2 W a2 len2 cap2 := open_arrays Tryz.underlying26 Tryz.underlying64 (by kernel_rfl) Tryz.underlying3 (by kernel_rfl) h2
  clear hA0 hval0
  refine (topCards_walk a0f0 a0f1 l0f1 c0f1 z0f1 z1 a2 len2 cap2 W w0f0 w0f1 l1 w1 w2 (laid_bus hL)).mono fun e W' ⟨he, bel⟩ => ?_
  subst he
  exact ⟨_, rfl, _, _, _, [], _, [], hW', trodAll_mk1 (shut_bool Tryz.underlying4 _), (trodAll_cons_mk (Below.trod laidOut (by kernel_rfl) (of_decide_eq_true (by kernel_rfl)) k0 bel lt0) (trodAll_cons_mk (Below.trod laidOut (by kernel_rfl) (of_decide_eq_true (by kernel_rfl)) k1 bel lt1) (trodAll_cons_mk (Below.trod laidOut (by kernel_rfl) (of_decide_eq_true (by kernel_rfl)) k2 bel lt2) trodAll_mk0))), rfl, bel.frame _, fun h => by cases h⟩
theorem topCards_inPlace : (Rows.topCardsRow.inPlace == Tryz.pinned.checked.prog.inPlace 3) = true := by kernel_rfl
theorem topCards_unfollowed : (Rows.topCardsRow.unfollowed == Tryz.pinned.checked.prog.unfollowed 3) = true := by kernel_rfl
theorem topCards_recurses : (Rows.topCardsRow.recurses == Tryz.pinned.checked.prog.recurses 3) = true := by kernel_rfl
theorem topCards_named : (Rows.topCardsRow.named == Tryz.pinned.checked.prog.varsNamed 3) = true := by kernel_rfl
theorem topCards_laidOutB : laidOutB Tryz.pinned.checked.prog = true := by kernel_rfl
theorem topCards_heard : Tryz.pinned.checked.prog.stopsHeard = true := by kernel_rfl
theorem topCards_mayEnter : Tryz.pinned.checked.prog.mayEnter = true := by kernel_rfl
theorem topCards_facts : joinedFacts Tryz.pinned.checked.prog 3 Tryz.f3 Rows.topCardsSpec Rows.topCardsRow = true := by
  unfold joinedFacts
  rw [topCards_inPlace, topCards_unfollowed, topCards_recurses, topCards_named, topCards_laidOutB, topCards_heard, topCards_mayEnter]
  kernel_rfl
theorem topCards_over : Rows.topCardsRow.holds Tryz.pinned (OpenSpec.ofChange Rows.topCardsSpec) :=
  OpenClaim.holds_of_wide 3 Tryz.f3 rfl rfl rfl rfl rfl rfl rfl ⟨rfl, rfl, rfl, rfl, rfl⟩ rfl rfl rfl rfl rfl (by kernel_rfl) Tryz.func3 topCards_facts
    (of_decide_eq_true (by kernel_rfl)) (by unfold Func.isWrapper; first | (rw [if_pos (by decide +kernel)]; kernel_rfl) | (rw [if_neg (by decide +kernel)]; exact ⟨rfl, rfl⟩))
    (fun os started H enc _ => topCards_lifted os started H enc)
theorem topCards_row : Rows.TopCardsSaid := topCards_over
theorem topCards_holds : Rows.TopCardsCardSaid :=
  Claim7.holds_tied_plain_at .later [] [.data, .data, .handle, .data] true (true, "90077d46161b1fc73e0220e0e35368e6726eaa2ea2f5a3ac8a2e8c23399d9095") true
    topCards_row (fun _ h => by cases h) (by kernel_rfl) (fun _ h => by cases h) topCards_row_tie rfl ⟨rfl, rfl⟩ (by kernel_rfl) rfl
    (fun f fn hf hfn => by
      obtain rfl : f = 3 := Option.some.inj ((show Tryz.prog.funcNamed "phosphor/phosphortop.TopCards" = some 3 by kernel_rfl).symm.trans hf) |>.symm
      obtain rfl : fn = Tryz.f3 := (Option.some.inj (Tryz.func3.symm.trans hfn)).symm
      exact ⟨by kernel_rfl, fun j t ht => by
        rw [Tryz.params3] at ht
        rcases j with _ | _ | _ | j
        · obtain rfl : t = 24 := by simpa using ht.symm
          exact (show Tryz.prog.wantsStandIn 24 = false by kernel_rfl)
        · obtain rfl : t = 25 := by simpa using ht.symm
          exact (show Tryz.prog.wantsStandIn 25 = false by kernel_rfl)
        · obtain rfl : t = 26 := by simpa using ht.symm
          exact (show Tryz.prog.wantsStandIn 26 = false by kernel_rfl)
        · simp at ht⟩)
    (by kernel_rfl)
#print axioms topCards_holds
end Go.Proofs.YthelklkfcllddaaGreatDoor
