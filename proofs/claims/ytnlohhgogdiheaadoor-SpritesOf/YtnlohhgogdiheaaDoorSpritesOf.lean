/- SpritesOf, at the landed commit: whatever slice of a table's words and number come in, the call returns true: any sprite of any table is the document's. No condition but what the card says. -/
import Derived.Test.YtnlohhgogdiheaaDoorOf18
import Derived.Test.YtnlohhgogdiheaaDoorRef18c
import Derived.Test.YtnlohhgogdiheaaDoorWant
import Derived.Test.YtnlohhgogdiheaaDoorHighLaid
import Derived.Test.YtnlohhgogdiheaaDoorArrays
import Derived.Test.YtnlohhgogdiheaaDoorTie
import Derived.Test.YtnlohhgogdiheaaDoorCards
import Derived.BigQuiet
import Derived.SevenTiedAt
import Derived.OpenShut
import Derived.ShutString
import Derived.ChangeOld
namespace Go.Proofs.YtnlohhgogdiheaaDoor
open Go.ChangeShapes Go.WideShapes Go.ChangeAt Go.RowKit
open Go.ChangeMaps (open_string shut_string)
set_option linter.unusedVariables false

theorem eqO_self (X Y C W H P : Int) (f fx fy : Bool) (w : World) : (binOp .eql 28 (.agg #[.int .i64 X, .int .i64 Y, .int .i64 C, .int .i64 W, .int .i64 H, .int .i64 P, .bool f, .bool fx, .bool fy]) (.agg #[.int .i64 X, .int .i64 Y, .int .i64 C, .int .i64 W, .int .i64 H, .int .i64 P, .bool f, .bool fx, .bool fy])).run Tryd.prog w = .ok (.bool true) w := by
  rw [run_eql_struct, run_equalIn_struct w 9999 28 _ _ (by kernel_rfl) (by kernel_rfl)]
  simp [Program.fieldsOf, Tryd.underlying28, Op.eqFields, part, isAgg, run_underlying Tryd.underlying3, run_underlying Tryd.underlying4, run_equalIn_int _ _ _ _ _ _ _ Tryd.underlying3, run_equalIn_bool' _ _ _ _ _ Tryd.underlying4]
theorem one_first : oneV 64 32 0 0 = .agg #[.int .i64 0, .int .i64 0, .int .i64 0, .int .i64 16, .int .i64 16, .int .i64 0, .bool false, .bool false, .bool false] := by kernel_rfl
set_option maxHeartbeats 2000000 in
theorem of_core (a0 : Option Addr) (len0 cap0 : Nat) (z0 : List Int) (a1 : Int) (w : World) (HW : Hid (IsRow .i64 w a0 len0 cap0 z0)) (HH : Hid (HasHigh w)) (X Y C W H P : Int) (f fx fy : Bool)
    (K1 : Hid (∀ u, HasHigh u → Calls Tryd.prog 10 #[.agg (tabL (listT len0 z0)).toArray, .int .i64 a1] u fun e w' => e = .returned (.agg #[.int .i64 X, .int .i64 Y, .int .i64 C, .int .i64 W, .int .i64 H, .int .i64 P, .bool f, .bool fx, .bool fy]) ∧ Below u.heap.size u w'))
    (K2 : Hid (∀ u, Calls Tryd.prog 11 #[.agg (tabL (listT len0 z0)).toArray, .int .i64 a1] u fun e w' => e = .returned (.agg #[.int .i64 X, .int .i64 Y, .int .i64 C, .int .i64 W, .int .i64 H, .int .i64 P, .bool f, .bool fx, .bool fy]) ∧ Below u.heap.size u w')) : Calls Tryd.prog 3 #[.slice a0 len0 cap0, .int .i64 a1] w fun e w' => e = .returned (.bool true) ∧ Below w.heap.size w w' := by
  have QE := eqO_self X Y C W H P f fx fy
  go_enter Tryd.func3, Tryd.ntmps3
  go_wp2_with fail
  refine (table_is a0 len0 cap0 z0 w HW.out).mono ?_
  rintro e w3 ⟨rfl, b3⟩
  generalize listT len0 z0 = T at *
  have B3 := hide b3
  clear b3 HW
  have I5 := hide (info_T T)
  have T5 := hide (tabL_one T)
  have S5 := hide (tabL_size (fun _ => 0) T)
  have N4 := hide (heap_alloc_new w3 (.cells (tabL fun _ => 0).toArray 23))
  go_wp2_with (first
    | (refine wpList_alloced rfl 23 rfl _ zero_T ?_; simp only [Act.put, List.setIfInBounds_toArray, List.set_cons_succ, List.set_cons_zero])
    | (refine wpList_store_row rfl 23 (.tmp 5) (.tmp 8) rfl w3.heap.size _ rfl rfl 23 _ N4.out I5.out S5.out T5.out ?_
       refine under_list fun w4 hw4 => ?_
       have n4 : Below w3.heap.size w3 w4 := by rw [hw4]; exact below_setRow ((Below.refl _ w3).alloc (Nat.le_refl _) _) (Nat.le_refl _) _
       have V4 := hide (show HasTb w4 w3.heap.size T by rw [hw4]; exact setRow_heap _ _ _ _ _ _ N4.out)
       have B4 := hide (bnext B3.out n4)
       clear hw4 N4 n4 B3))
  refine under_calls fun w5 hw5 => ?_
  have n5 : Below w4.heap.size w4 w5 := by rw [hw5]; exact (Below.refl _ w4).alloc (Nat.le_refl _) _
  have r5 : w5.heap[w4.heap.size]? = some (.cells #[.int .i64 64, .int .i64 32] 3 (0, 0)) := by rw [hw5]; exact heap_alloc_new _ _
  have V5 := hide (V4.out.next n5)
  have B5 := hide (bnext B4.out n5)
  have IR : IsRow .i64 w5 (some ⟨w4.heap.size, 0, none⟩) 2 2 [64, 32] := .inr ⟨⟨w4.heap.size, 0, none⟩, rfl, by omega, by decide, rfl, fun i hi => by
    have hi2 : i < 2 := hi
    rw [add_none, Nat.zero_add, cell_of_row w5 _ i _ _ _ r5]
    rcases (show i = 0 ∨ i = 1 by omega) with rfl | rfl <;> rfl, by decide⟩
  refine (table_is _ 2 2 [64, 32] w5 IR).mono ?_
  rintro e w6 ⟨rfl, b6⟩
  have V6 := hide (V5.out.next b6)
  have B6 := hide (bnext B5.out b6)
  clear hw5 n5 r5 IR b6 V4 V5 B4 B5
  go_wp2_with fail
  have CO : Calls Tryd.prog 10 #[.agg (tabL (listT 2 [64, 32])).toArray, .int .i64 0] w6 fun e w' => e = .returned (oneV 64 32 0 0) ∧ Below w6.heap.size w6 w' := of_is (listT 2 [64, 32]) 0 (by omega) w6 (hide (HH.out.next B6.out))
  rw [one_first] at CO
  refine CO.mono ?_
  rintro e w7 ⟨rfl, b7⟩
  have V7 := hide (V6.out.next b7)
  have B7 := hide (bnext B6.out b7)
  clear CO b7 V6 B6
  obtain ⟨zt, hzt⟩ : ∃ z, w3.heap.size = z := ⟨_, rfl⟩
  rw [hzt] at V7 ⊢
  clear hzt
  go_wp2_with fail
  refine under_name fun w8 hw8 => ?_
  have n8 : Below w7.heap.size w7 w8 := by rw [hw8]; exact (Below.refl _ w7).alloc (Nat.le_refl _) _
  have O8 := hide (show HasO w8 w7.heap.size 0 0 0 16 16 0 false false false by rw [hw8]; exact heap_alloc_new _ _)
  have V8 := hide (V7.out.next n8)
  have B8 := hide (bnext B7.out n8)
  clear hw8 n8 V7 B7
  obtain ⟨zo, hzo⟩ : ∃ z, w7.heap.size = z := ⟨_, rfl⟩
  rw [hzo] at O8 ⊢
  clear hzo
  have k0 := kept_cell O8.out.c0 O8.out.lt
  have k1 := kept_cell O8.out.c1 O8.out.lt
  have k3 := kept_cell O8.out.c3 O8.out.lt
  have k4 := kept_cell O8.out.c4 O8.out.lt
  have hb := HH.out.next B8.out
  have KM := hide (fun (x : Kept w8) => K1.out x.val (hb.next x.below))
  clear hb
  haveI := kept_some w8
  refine wp_region_kept (by kernel_rfl) (by kernel_rfl) ?_
  repeat (first
    | (refine wpQuiet_row rfl 23 (.tmp 5) rfl zt rfl 23 _ (0, 0) _ (fun w' ⟨x, hx⟩ => by rw [hx]; exact V8.out.next x.below) Tryd.underlying23 rfl I5.out ?_; simp only [Act.put, List.setIfInBounds_toArray, List.set_cons_succ, List.set_cons_zero])
    | (go_big_quiet_step ((first
        | (go_at_call 10; exact kept_call (KM.out _))
        | (go_at_call 11; exact kept_call (K2.out _))))))
  refine wpQuiet_nil ?_
  rintro _ ⟨wk, rfl⟩
  clear k0 k1 k3 k4
  go_wp2_with fail
  go_ret
  exact ⟨rfl, bnext B8.out wk.below⟩
theorem spritesOf_walk (a0 : Option Addr) (len0 cap0 : Nat) (z0 : List Int) (a1 : Int) (w : World) (w0 : IsRow .i64 w a0 len0 cap0 z0) (w1 : (Lit.int .i64 a1).wf = true) (hL : HasHigh w) : Calls Tryd.prog 3 #[.slice a0 len0 cap0, .int .i64 a1] w fun e w' => e = .returned (.bool true) ∧ Below w.heap.size w w' := by
  by_cases hk : a1 < 0 ∨ 64 ≤ a1
  · exact of_core a0 len0 cap0 z0 a1 w (hide w0) (hide hL) 0 0 0 0 0 0 false false false (hide fun u _ => of_no _ a1 hk u) (hide fun u => rof_no _ a1 hk u)
  · obtain ⟨k, rfl⟩ : ∃ k : Nat, a1 = (k : Int) := ⟨a1.toNat, by omega⟩
    exact of_core a0 len0 cap0 z0 (k : Int) w (hide w0) (hide hL) _ _ _ _ _ _ _ _ _ (hide fun u hu => of_is _ k (by omega) u (hide hu)) (hide fun u => rof_is _ k (by omega) u)
set_option maxRecDepth 100000 in
theorem spritesOf_lifted (os : Os) (started : os.Started) (H : Type) (enc : TypeId × Value → H) :
    ReturnsInHanded {} Tryd.checked os 3 .any (fun w args => (Rows.spritesOfSpec.pre enc Tryd.prog Tryd.f3 [] false w args ∧ laidMetH Tryd.prog laidHigh w) ∧ sizedMet enc Tryd.prog Tryd.f3 (OpenSpec.ofChange Rows.spritesOfSpec) false w args)
      (Rows.spritesOfSpec.post enc Tryd.prog Tryd.f3 false true false false) := by
  refine returnsInHanded_of_change_and (C := Tryd.checked) (X := fun w _ => laidMetH Tryd.prog laidHigh w) (fun _ _ _ hh h => h.of_heap hh) own started (by kernel_rfl) Tryd.func3
    (ChangeSpec.witness_at (enc := enc) (C := Tryd.checked) (os := os) (X := fun w _ => laidMetH Tryd.prog laidHigh w) false (laidWorld os) #[.slice none 0 0, .int .i64 0] 8 rfl (by kernel_rfl) (by kernel_rfl) (by kernel_rfl) (by kernel_rfl) (by kernel_rfl) (laidWorld_high os _)) ?_
  intro W base args ds gs before hval0 hW _ _ hL _
  have hval : ∀ (j : Nat) t v, Tryd.f3.params[j]? = some t → args[j]? = some v → Value.okWide Tryd.prog W .any base t v := hval0
  have hW' := hW
  obtain ⟨p, q, hA0, hV, rfl, hfz, hnd⟩ := hW
  have hA : DataW.TrodAll enc Tryd.prog W 0 (fun _ => true) true Tryd.f3.params.toList args.toList ds p := hA0
  rw [Tryd.params3] at hA hval
  obtain ⟨v0, vs0, d0, ds0, p0, q0, hargs, rfl, rfl, h0, r0⟩ := trodAll_cons hA
  obtain ⟨v1, vs1, d1, ds1, p1, q1, rfl, rfl, rfl, h1, r1⟩ := trodAll_cons r0
  obtain ⟨rfl, rfl, rfl⟩ := trodAll_nil r1
  obtain rfl : args = #[v0, v1] := by cases args; simp_all
  obtain ⟨rfl, rfl⟩ := trodVars_none hV
  obtain ⟨a0, len0, cap0, rfl⟩ := okWide_slice Tryd.underlying22 (hval 0 22 v0 rfl rfl)
  have k0 := h0
  have lt0 : ∀ x ∈ p0, x.block < W.heap.size := by obtain ⟨m, hm⟩ := k0; exact DataW.trod_lt m _ _ _ hm
  obtain ⟨z0, w0⟩ : ∃ zs, IsRow .i64 W a0 len0 cap0 zs := by
    obtain ⟨fuel, hf⟩ := h0
    rcases open_ints Tryd.underlying22 Tryd.underlying3 (by kernel_rfl) hf with ⟨hcs, _⟩ | ⟨x, l, c, zs, hcs, _, hl, hm, hz, _, hcell, hwz⟩
    · simp [Value.cells] at hcs
      obtain ⟨rfl, rfl, rfl⟩ := hcs
      exact ⟨[], .inl ⟨rfl, rfl, rfl, rfl⟩⟩
    · simp [Value.cells] at hcs
      obtain ⟨rfl, rfl, rfl⟩ := hcs
      exact ⟨zs, .inr ⟨_, rfl, hl, hm, by simpa using hz, hcell, hwz⟩⟩
  obtain ⟨a1, rfl, rfl, rfl, w1⟩ := open_int Tryd.underlying3 (hval 1 3 v1 rfl rfl) h1
  clear hA0 hval0
  refine (spritesOf_walk a0 len0 cap0 z0 a1 W w0 w1 (laid_high hL)).mono fun e W' ⟨he, bel⟩ => ?_
  subst he
  exact ⟨_, rfl, _, _, _, [], _, [], hW', trodAll_mk1 (shut_bool Tryd.underlying4 _), (trodAll_cons_mk (Below.trod laidOut (by kernel_rfl) (of_decide_eq_true (by kernel_rfl)) k0 bel lt0) (trodAll_cons_mk (shut_int Tryd.underlying3 w1) trodAll_mk0)), rfl, bel.frame _, fun h => by cases h⟩

theorem spritesOf_over : Rows.spritesOfRow.holds Tryd.pinned (OpenSpec.ofChange Rows.spritesOfSpec) :=
  OpenClaim.holds_of_wide 3 Tryd.f3 rfl rfl rfl rfl rfl rfl rfl ⟨rfl, rfl, rfl, rfl, rfl⟩ rfl rfl rfl rfl rfl (by kernel_rfl) Tryd.func3 (by kernel_rfl)
    (of_decide_eq_true (by kernel_rfl)) (by unfold Func.isWrapper; first | (rw [if_pos (by decide +kernel)]; kernel_rfl) | (rw [if_neg (by decide +kernel)]; exact ⟨rfl, rfl⟩))
    (fun os started H enc _ => spritesOf_lifted os started H enc)

theorem spritesOf_row : Rows.SpritesOfSaid := spritesOf_over

theorem spritesOf_holds : Rows.SpritesOfCardSaid :=
  Claim7.holds_tied_plain_at .later [] [.data] true (true, "0a37a5a4315790cd1c1c663d3aa689065fbd0f428761630f5de7b36c5ae14ed1") false
    spritesOf_row (fun _ h => by cases h) (by kernel_rfl) (fun _ h => by cases h) spritesOf_row_tie rfl ⟨rfl, rfl⟩ (by kernel_rfl) rfl
    (fun f fn hf hfn => by
      obtain rfl : f = 3 := Option.some.inj ((show Tryd.prog.funcNamed "phosphor/phosphorlaw18.SpritesOf" = some 3 by kernel_rfl).symm.trans hf) |>.symm
      obtain rfl : fn = Tryd.f3 := (Option.some.inj (Tryd.func3.symm.trans hfn)).symm
      exact ⟨by kernel_rfl, fun j t ht => by
        rw [Tryd.params3] at ht
        rcases j with _ | _ | j
        · obtain rfl : t = 22 := by simpa using ht.symm
          exact (show Tryd.prog.wantsStandIn 22 = false by kernel_rfl)
        · obtain rfl : t = 3 := by simpa using ht.symm
          exact (show Tryd.prog.wantsStandIn 3 = false by kernel_rfl)
        · simp at ht⟩)
    (by kernel_rfl)
#print axioms spritesOf_holds
end Go.Proofs.YtnlohhgogdiheaaDoor
