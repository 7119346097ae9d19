/- Where nothing stands there is no page, and no place in it; the pages of Rom, of Ram and of the devices are 128, 4 and 1. -/
import Derived.Test.YtijidlhfaifbfaaDoorRegLaid
import Derived.Test.YtijidlhfaifbfaaDoorTie
import Derived.Test.YtijidlhfaifbfaaDoorCards
import Derived.SevenTiedAt
import Derived.OpenShut
import Derived.ShutString
import Derived.ChangeOld
import Derived.Below
namespace Go.Proofs.YtijidlhfaifbfaaDoor
open Go.ChangeShapes Go.WideShapes Go.ChangeAt Go.RowKit
open Go.ChangeMaps (open_string shut_string)
set_option linter.unusedVariables false
theorem own : ownKnob Tryd.prog.godebug = none := by kernel_rfl

theorem open_rom (a0 a1 g r : Int) (w : World) (hL : HasPorts w) (ea : bits .and .i64 a0 255 = g) (eb : bits .and .i64 a1 8191 = r) (g0 : 0 ≤ g) (g1 : g < 256) (r0 : 0 ≤ r) (r1 : r < 8192) (h : g < 128) (hc : ∀ w, HasPorts w → Calls Tryd.prog 8 #[.int .i64 (g * 8192 + r)] w fun e w' => e = .returned (.agg #[.int .i64 0, .int .i64 g, .int .i64 r]) ∧ Below w.heap.size w w') : Calls Tryd.prog 6 #[.int .i64 a0, .int .i64 a1] w fun e w' => e = .returned (.bool true) ∧ Below w.heap.size w w' := by
  have HT := hide hL
  have c := hide hc
  clear hc hL
  go_enter Tryd.func6, Tryd.ntmps6
  go_wp2_with fail
  refine (c.out _ HT.out).mono ?_
  rintro e w1 ⟨rfl, b1⟩
  have B1 := hide (b1.alloc b1.size (.cells #[.int .i64 0, .int .i64 g, .int .i64 r] 25))
  clear b1
  go_wp2_with fail
  go_ret
  exact ⟨rfl, B1.out⟩
theorem open_ram (a0 a1 g r : Int) (w : World) (hL : HasPorts w) (ea : bits .and .i64 a0 255 = g) (eb : bits .and .i64 a1 8191 = r) (g0 : 0 ≤ g) (g1 : g < 256) (r0 : 0 ≤ r) (r1 : r < 8192) (h : 248 ≤ g) (h1 : g < 252) (hc : ∀ w, HasPorts w → Calls Tryd.prog 8 #[.int .i64 (g * 8192 + r)] w fun e w' => e = .returned (.agg #[.int .i64 1, .int .i64 0, .int .i64 r]) ∧ Below w.heap.size w w') : Calls Tryd.prog 6 #[.int .i64 a0, .int .i64 a1] w fun e w' => e = .returned (.bool true) ∧ Below w.heap.size w w' := by
  have HT := hide hL
  have c := hide hc
  clear hc hL
  go_enter Tryd.func6, Tryd.ntmps6
  go_wp2_with fail
  refine (c.out _ HT.out).mono ?_
  rintro e w1 ⟨rfl, b1⟩
  have B1 := hide (b1.alloc b1.size (.cells #[.int .i64 1, .int .i64 0, .int .i64 r] 25))
  clear b1
  go_wp2_with fail
  go_ret
  exact ⟨rfl, B1.out⟩
theorem open_port (a0 a1 r : Int) (w : World) (hL : HasPorts w) (ea : bits .and .i64 a0 255 = 255) (eb : bits .and .i64 a1 8191 = r) (r0 : 0 ≤ r) (r1 : r < 8192) (x z : Int) (hx : 2 ≤ x) (hc : ∀ w, HasPorts w → Calls Tryd.prog 8 #[.int .i64 (2088960 + r)] w fun e w' => e = .returned (.agg #[.int .i64 x, .int .i64 0, .int .i64 z]) ∧ Below w.heap.size w w') : Calls Tryd.prog 6 #[.int .i64 a0, .int .i64 a1] w fun e w' => e = .returned (.bool true) ∧ Below w.heap.size w w' := by
  have HT := hide hL
  have c := hide hc
  clear hc hL
  go_enter Tryd.func6, Tryd.ntmps6
  go_wp2_with fail
  refine (c.out _ HT.out).mono ?_
  rintro e w1 ⟨rfl, b1⟩
  have B1 := hide (b1.alloc b1.size (.cells #[.int .i64 x, .int .i64 0, .int .i64 z] 25))
  clear b1
  go_wp2_with fail
  go_ret
  exact ⟨rfl, B1.out⟩
theorem open_none (a0 a1 g r : Int) (w : World) (hL : HasPorts w) (ea : bits .and .i64 a0 255 = g) (eb : bits .and .i64 a1 8191 = r) (g0 : 0 ≤ g) (g1 : g < 256) (r0 : 0 ≤ r) (r1 : r < 8192) (h : 128 ≤ g) (h1 : g < 248 ∨ 252 ≤ g) (h2 : ¬ g = 255) (hc : ∀ w, HasPorts w → Calls Tryd.prog 8 #[.int .i64 (g * 8192 + r)] w fun e w' => e = .returned (.agg #[.int .i64 8, .int .i64 0, .int .i64 0]) ∧ Below w.heap.size w w') : Calls Tryd.prog 6 #[.int .i64 a0, .int .i64 a1] w fun e w' => e = .returned (.bool true) ∧ Below w.heap.size w w' := by
  have HT := hide hL
  have c := hide hc
  clear hc hL
  by_cases h3 : g < 248
  · clear h1
    go_enter Tryd.func6, Tryd.ntmps6
    go_wp2_with fail
    refine (c.out _ HT.out).mono ?_
    rintro e w1 ⟨rfl, b1⟩
    have B1 := hide (b1.alloc b1.size (.cells #[.int .i64 8, .int .i64 0, .int .i64 0] 25))
    clear b1
    go_wp2_with fail
    go_ret
    exact ⟨rfl, B1.out⟩
  · have h4 : 252 ≤ g := by omega
    clear h1
    go_enter Tryd.func6, Tryd.ntmps6
    go_wp2_with fail
    refine (c.out _ HT.out).mono ?_
    rintro e w1 ⟨rfl, b1⟩
    have B1 := hide (b1.alloc b1.size (.cells #[.int .i64 8, .int .i64 0, .int .i64 0] 25))
    clear b1
    go_wp2_with fail
    go_ret
    exact ⟨rfl, B1.out⟩

theorem regionOpen_walk (a0 a1 : Int) (w : World) (w0 : (Lit.int .i64 a0).wf = true) (w1 : (Lit.int .i64 a1).wf = true) (hL : HasPorts w) :
    Calls Tryd.prog 6 #[.int .i64 a0, .int .i64 a1] w fun e w' => e = .returned (.bool true) ∧ Below w.heap.size w w' := by
  have ea := and_255 a0
  have eb := and_8191 a1
  obtain ⟨g, hg⟩ : ∃ g, g = a0 % 256 := ⟨_, rfl⟩
  obtain ⟨r, hr⟩ : ∃ r, r = a1 % 8192 := ⟨_, rfl⟩
  rw [← hg] at ea
  rw [← hr] at eb
  have g0 : 0 ≤ g ∧ g < 256 := by omega
  have r0 : 0 ≤ r ∧ r < 8192 := by omega
  by_cases h1 : g < 128
  · refine open_rom a0 a1 g r w hL ea eb g0.1 g0.2 r0.1 r0.2 h1 fun w _ => ?_
    have k := where_rom (g * 8192 + r) w (by omega) (by omega)
    rw [show (g * 8192 + r) / 8192 = g by omega, show (g * 8192 + r) % 8192 = r by omega] at k
    exact k
  · by_cases h2 : 248 ≤ g ∧ g < 252
    · refine open_ram a0 a1 g r w hL ea eb g0.1 g0.2 r0.1 r0.2 h2.1 h2.2 fun w _ => ?_
      have k := where_ram (g * 8192 + r) w (by omega) (by omega)
      rw [show (g * 8192 + r) % 8192 = r by omega] at k
      exact k
    · by_cases h3 : g = 255
      · subst h3
        have k0 : pageW (2088960 + r) = 0 := by unfold pageW; rw [if_neg (by omega)]
        have k1 : 2 ≤ kindW (2088960 + r) := by
          unfold kindW
          rw [if_neg (by omega), if_neg (by omega), if_neg (by omega)]
          split <;> omega
        refine open_port a0 a1 r w hL ea eb r0.1 r0.2 (kindW (2088960 + r)) (atW (2088960 + r)) k1 fun w hT => ?_
        have k := where_any (2088960 + r) w hT
        rw [k0] at k
        exact k
      · exact open_none a0 a1 g r w hL ea eb g0.1 g0.2 r0.1 r0.2 (by omega) (by omega) h3 fun w _ => where_open (g * 8192 + r) w (by omega) (by omega) (by omega)

set_option maxRecDepth 100000 in
theorem regionOpen_lifted (os : Os) (started : os.Started) (H : Type) (enc : TypeId × Value → H) :
    ReturnsInHanded {} Tryd.checked os 6 .any (fun w args => (Rows.regionOpenSpec.pre enc Tryd.prog Tryd.f6 [] false w args ∧ laidMetH Tryd.prog laidReg w) ∧ sizedMet enc Tryd.prog Tryd.f6 (OpenSpec.ofChange Rows.regionOpenSpec) false w args)
      (Rows.regionOpenSpec.post enc Tryd.prog Tryd.f6 false true false false) := by
  refine returnsInHanded_of_change_and (C := Tryd.checked) (X := fun w _ => laidMetH Tryd.prog laidReg w) (fun _ _ _ hh h => h.of_heap hh) own started (by kernel_rfl) Tryd.func6
    (ChangeSpec.witness_at (enc := enc) (C := Tryd.checked) (os := os) (X := fun w _ => laidMetH Tryd.prog laidReg w) false (laidWorld os) #[.int .i64 0, .int .i64 0] 8 rfl (by kernel_rfl) (by kernel_rfl) (by kernel_rfl) (by kernel_rfl) (by kernel_rfl) (laidWorld_reg os _)) ?_
  intro W base args ds gs before hval0 hW _ _ hL _
  have hval : ∀ (j : Nat) t v, Tryd.f6.params[j]? = some t → args[j]? = some v → Value.okWide Tryd.prog W .any base t v := hval0
  have hW' := hW
  obtain ⟨p, q, hA0, hV, rfl, hfz, hnd⟩ := hW
  have hA : DataW.TrodAll enc Tryd.prog W 0 (fun _ => true) true Tryd.f6.params.toList args.toList ds p := hA0
  rw [Tryd.params6] at hA hval
  obtain ⟨v0, vs0, d0, ds0, p0, q0, hargs, rfl, rfl, h0, r0⟩ := trodAll_cons hA
  obtain ⟨v1, vs1, d1, ds1, p1, q1, rfl, rfl, rfl, h1, r1⟩ := trodAll_cons r0
  obtain ⟨rfl, rfl, rfl⟩ := trodAll_nil r1
  obtain rfl : args = #[v0, v1] := by cases args; simp_all
  obtain ⟨rfl, rfl⟩ := trodVars_none hV
  obtain ⟨a0, rfl, rfl, rfl, w0⟩ := open_int Tryd.underlying3 (hval 0 3 v0 rfl rfl) h0
  obtain ⟨a1, rfl, rfl, rfl, w1⟩ := open_int Tryd.underlying3 (hval 1 3 v1 rfl rfl) h1
  clear hA0 hval0
  refine (regionOpen_walk a0 a1 W w0 w1 (laid_reg hL)).mono fun e W' ⟨he, bel⟩ => ?_
  subst he
  exact ⟨_, rfl, _, _, _, [], _, [], hW', trodAll_mk1 (shut_bool Tryd.underlying4 _), (trodAll_cons_mk (shut_int Tryd.underlying3 w0) (trodAll_cons_mk (shut_int Tryd.underlying3 w1) trodAll_mk0)), rfl, bel.frame _, fun h => by cases h⟩

theorem regionOpen_over : Rows.regionOpenRow.holds Tryd.pinned (OpenSpec.ofChange Rows.regionOpenSpec) :=
  OpenClaim.holds_of_wide 6 Tryd.f6 rfl rfl rfl rfl rfl rfl rfl ⟨rfl, rfl, rfl, rfl, rfl⟩ rfl rfl rfl rfl rfl (by kernel_rfl) Tryd.func6 (by kernel_rfl)
    (of_decide_eq_true (by kernel_rfl)) (by unfold Func.isWrapper; first | (rw [if_pos (by decide +kernel)]; kernel_rfl) | (rw [if_neg (by decide +kernel)]; exact ⟨rfl, rfl⟩))
    (fun os started H enc _ => regionOpen_lifted os started H enc)

theorem regionOpen_row : Rows.RegionOpenSaid := regionOpen_over

theorem regionOpen_holds : Rows.RegionOpenCardSaid :=
  Claim7.holds_tied_plain_at .later [] [.data] true (true, "65727b1b36d0c9c5ed185f47aec5976cd43f872a9dff037c22ecfb625d67ab03") false
    regionOpen_row (fun _ h => by cases h) (by kernel_rfl) (fun _ h => by cases h) regionOpen_row_tie rfl ⟨rfl, rfl⟩ (by kernel_rfl) rfl
    (fun f fn hf hfn => by
      obtain rfl : f = 6 := Option.some.inj ((show Tryd.prog.funcNamed "phosphor/phosphorlaw06.RegionOpen" = some 6 by kernel_rfl).symm.trans hf) |>.symm
      obtain rfl : fn = Tryd.f6 := (Option.some.inj (Tryd.func6.symm.trans hfn)).symm
      exact ⟨by kernel_rfl, fun j t ht => by
        rw [Tryd.params6] at ht
        rcases j with _ | _ | j
        · obtain rfl : t = 3 := by simpa using ht.symm
          exact (show Tryd.prog.wantsStandIn 3 = false by kernel_rfl)
        · obtain rfl : t = 3 := by simpa using ht.symm
          exact (show Tryd.prog.wantsStandIn 3 = false by kernel_rfl)
        · simp at ht⟩)
    (by kernel_rfl)
#print axioms regionOpen_holds
end Go.Proofs.YtijidlhfaifbfaaDoor
