/- For every three numbers the law VolumeHalves of layer 20 returns true, where the program's table of levels holds what its own initialiser lays: four steps more are half as loud, to a small rest; a step of the balance or of main is two of these. -/
import Derived.Test.YtdnmamfglfhboaaDoorVol20
import Derived.Test.YtdnmamfglfhboaaDoorLevLaid
import Derived.Test.YtdnmamfglfhboaaDoorTie
import Derived.Test.YtdnmamfglfhboaaDoorCards
import Derived.SevenTiedAt
import Derived.OpenShut
import Derived.ShutString
import Derived.ChangeOld
import Derived.Below
namespace Go.Proofs.YtdnmamfglfhboaaDoor
open Go.ChangeShapes Go.WideShapes Go.ChangeAt Go.RowKit
open Go.ChangeMaps (open_string shut_string)
set_option linter.unusedVariables false
theorem own : ownKnob Tryd.prog.godebug = none := by kernel_rfl

theorem tmod_27 (n : Int) : -27 < Int.tmod n 27 ∧ Int.tmod n 27 < 27 := ⟨Int.lt_tmod_of_pos n (by decide), Int.tmod_lt_of_pos n (by decide)⟩
set_option maxHeartbeats 1000000 in
theorem halves_low (n x y t N v b g L M : Int) (w : World) (HL : Hid (HasLevels w)) (en : Int.tmod n 27 = t) (t0 : -27 < t) (t1 : t < 27) (en2 : Int.tmod (t + 27) 27 = N) (ev : bits .and .i64 x 31 = v) (eb : bits .and .i64 y 15 = b) (n0 : 0 ≤ N) (n1 : N < 27) (v0 : 0 ≤ v) (v1 : v < 32) (b0 : 0 ≤ b) (b1 : b < 16) (e1 : levelOf N = L) (e2 : levelOf (N + 4) = M) (m0 : 0 ≤ M) (m1 : M ≤ 1024) (d0 : -2 ≤ L - 2 * M) (d1 : L - 2 * M ≤ 2) (e3 : levelOf 4 = 513) (g1 : gainOf v b 15 = g) (g2 : levelOf (31 - v + 2 * (15 - b)) = g) (g3 : gainOf v 15 b = g) (h : v < 2) : Calls Tryd.prog 5 #[.int .i64 n, .int .i64 x, .int .i64 y] w fun e w' => e = .returned (.bool true) ∧ Below w.heap.size w w' := by
  go_enter Tryd.func5, Tryd.ntmps5
  go_wp2_with (first | (go_at_call 8; refine (gain_any _ _ _ _ HL.out).mono ?_; rintro e w' ⟨rfl, rfl⟩) | (go_at_call 6; refine (level_any _ _ HL.out).mono ?_; rintro e w' ⟨rfl, rfl⟩))
  go_ret
  exact ⟨rfl, Below.refl _ _⟩
set_option maxHeartbeats 1000000 in
theorem halves_top (n x y t N v b g L M : Int) (w : World) (HL : Hid (HasLevels w)) (en : Int.tmod n 27 = t) (t0 : -27 < t) (t1 : t < 27) (en2 : Int.tmod (t + 27) 27 = N) (ev : bits .and .i64 x 31 = v) (eb : bits .and .i64 y 15 = b) (n0 : 0 ≤ N) (n1 : N < 27) (v0 : 0 ≤ v) (v1 : v < 32) (b0 : 0 ≤ b) (b1 : b < 16) (e1 : levelOf N = L) (e2 : levelOf (N + 4) = M) (m0 : 0 ≤ M) (m1 : M ≤ 1024) (d0 : -2 ≤ L - 2 * M) (d1 : L - 2 * M ≤ 2) (e3 : levelOf 4 = 513) (g1 : gainOf v b 15 = g) (g2 : levelOf (31 - v + 2 * (15 - b)) = g) (g3 : gainOf v 15 b = g) (h : 2 ≤ v) (q : (b == 15) = true) : Calls Tryd.prog 5 #[.int .i64 n, .int .i64 x, .int .i64 y] w fun e w' => e = .returned (.bool true) ∧ Below w.heap.size w w' := by
  go_enter Tryd.func5, Tryd.ntmps5
  go_wp2_with (first | (go_at_call 8; refine (gain_any _ _ _ _ HL.out).mono ?_; rintro e w' ⟨rfl, rfl⟩) | (go_at_call 6; refine (level_any _ _ HL.out).mono ?_; rintro e w' ⟨rfl, rfl⟩))
  go_ret
  exact ⟨rfl, Below.refl _ _⟩
set_option maxHeartbeats 1000000 in
theorem halves_mid (n x y t N v b g L M : Int) (w : World) (HL : Hid (HasLevels w)) (en : Int.tmod n 27 = t) (t0 : -27 < t) (t1 : t < 27) (en2 : Int.tmod (t + 27) 27 = N) (ev : bits .and .i64 x 31 = v) (eb : bits .and .i64 y 15 = b) (n0 : 0 ≤ N) (n1 : N < 27) (v0 : 0 ≤ v) (v1 : v < 32) (b0 : 0 ≤ b) (b1 : b < 16) (e1 : levelOf N = L) (e2 : levelOf (N + 4) = M) (m0 : 0 ≤ M) (m1 : M ≤ 1024) (d0 : -2 ≤ L - 2 * M) (d1 : L - 2 * M ≤ 2) (e3 : levelOf 4 = 513) (g1 : gainOf v b 15 = g) (g2 : levelOf (31 - v + 2 * (15 - b)) = g) (g3 : gainOf v 15 b = g) (h : 2 ≤ v) (q : (b == 15) = false) (g4 : gainOf (v - 2) 15 15 = gainOf v 14 15) : Calls Tryd.prog 5 #[.int .i64 n, .int .i64 x, .int .i64 y] w fun e w' => e = .returned (.bool true) ∧ Below w.heap.size w w' := by
  go_enter Tryd.func5, Tryd.ntmps5
  go_wp2_with (first | (go_at_call 8; refine (gain_any _ _ _ _ HL.out).mono ?_; rintro e w' ⟨rfl, rfl⟩) | (go_at_call 6; refine (level_any _ _ HL.out).mono ?_; rintro e w' ⟨rfl, rfl⟩))
  go_ret
  exact ⟨rfl, Below.refl _ _⟩

theorem volumeHalves_walk (n x y : Int) (w : World) (w0 : (Lit.int .i64 n).wf = true) (w1 : (Lit.int .i64 x).wf = true) (w2 : (Lit.int .i64 y).wf = true) (hL : HasLevels w) : Calls Tryd.prog 5 #[.int .i64 n, .int .i64 x, .int .i64 y] w fun e w' => e = .returned (.bool true) ∧ Below w.heap.size w w' := by
  have t0 : -27 < Int.tmod n 27 ∧ Int.tmod n 27 < 27 := tmod_27 n
  have n0 : 0 ≤ Int.tmod (Int.tmod n 27 + 27) 27 ∧ Int.tmod (Int.tmod n 27 + 27) 27 < 27 := by rw [Int.tmod_eq_emod_of_nonneg (by omega)]; omega
  have v0 : 0 ≤ x % 32 ∧ x % 32 < 32 := by omega
  have b0 : 0 ≤ y % 16 ∧ y % 16 < 16 := by omega
  have g2 : levelOf (31 - x % 32 + 2 * (15 - y % 16)) = gainOf (x % 32) (y % 16) 15 := by unfold gainOf; congr 1; omega
  have g3 : gainOf (x % 32) 15 (y % 16) = gainOf (x % 32) (y % 16) 15 := by unfold gainOf; congr 1; omega
  have d := level_half n0.1 n0.2
  by_cases h : x % 32 < 2
  · exact halves_low n x y _ _ _ _ _ _ _ w hL rfl t0.1 t0.2 rfl (and_31 x) (and_15 y) n0.1 n0.2 v0.1 v0.2 b0.1 b0.2 rfl rfl (level_in _).1 (level_in _).2 d.1 d.2 (by decide) rfl g2 g3 h
  · by_cases q : y % 16 = 15
    · exact halves_top n x y _ _ _ _ _ _ _ w hL rfl t0.1 t0.2 rfl (and_31 x) (and_15 y) n0.1 n0.2 v0.1 v0.2 b0.1 b0.2 rfl rfl (level_in _).1 (level_in _).2 d.1 d.2 (by decide) rfl g2 g3 (by omega) (by rw [q]; rfl)
    · exact halves_mid n x y _ _ _ _ _ _ _ w hL rfl t0.1 t0.2 rfl (and_31 x) (and_15 y) n0.1 n0.2 v0.1 v0.2 b0.1 b0.2 rfl rfl (level_in _).1 (level_in _).2 d.1 d.2 (by decide) rfl g2 g3 (by omega) (by simpa using q) (by unfold gainOf; congr 1; omega)

set_option maxRecDepth 100000 in
theorem volumeHalves_lifted (os : Os) (started : os.Started) (H : Type) (enc : TypeId × Value → H) :
    ReturnsInHanded {} Tryd.checked os 5 .any (fun w args => (Rows.volumeHalvesSpec.pre enc Tryd.prog Tryd.f5 [] false w args ∧ laidMetH Tryd.prog laidLev w) ∧ sizedMet enc Tryd.prog Tryd.f5 (OpenSpec.ofChange Rows.volumeHalvesSpec) false w args)
      (Rows.volumeHalvesSpec.post enc Tryd.prog Tryd.f5 false true false false) := by
  refine returnsInHanded_of_change_and (C := Tryd.checked) (X := fun w _ => laidMetH Tryd.prog laidLev w) (fun _ _ _ hh h => h.of_heap hh) own started (by kernel_rfl) Tryd.func5
    (ChangeSpec.witness_at (enc := enc) (C := Tryd.checked) (os := os) (X := fun w _ => laidMetH Tryd.prog laidLev w) false (laidWorld os) #[.int .i64 0, .int .i64 0, .int .i64 0] 8 rfl (by kernel_rfl) (by kernel_rfl) (by kernel_rfl) (by kernel_rfl) (by kernel_rfl) (laidWorld_lev os _)) ?_
  intro W base args ds gs before hval0 hW _ _ hL _
  have hval : ∀ (j : Nat) t v, Tryd.f5.params[j]? = some t → args[j]? = some v → Value.okWide Tryd.prog W .any base t v := hval0
  have hW' := hW
  obtain ⟨p, q, hA0, hV, rfl, hfz, hnd⟩ := hW
  have hA : DataW.TrodAll enc Tryd.prog W 0 (fun _ => true) true Tryd.f5.params.toList args.toList ds p := hA0
  rw [Tryd.params5] at hA hval
  obtain ⟨v0, vs0, d0, ds0, p0, q0, hargs, rfl, rfl, h0, r0⟩ := trodAll_cons hA
  obtain ⟨v1, vs1, d1, ds1, p1, q1, rfl, rfl, rfl, h1, r1⟩ := trodAll_cons r0
  obtain ⟨v2, vs2, d2, ds2, p2, q2, rfl, rfl, rfl, h2, r2⟩ := trodAll_cons r1
  obtain ⟨rfl, rfl, rfl⟩ := trodAll_nil r2
  obtain rfl : args = #[v0, v1, v2] := by cases args; simp_all
  obtain ⟨rfl, rfl⟩ := trodVars_none hV
  obtain ⟨a0, rfl, rfl, rfl, w0⟩ := open_int Tryd.underlying3 (hval 0 3 v0 rfl rfl) h0
  obtain ⟨a1, rfl, rfl, rfl, w1⟩ := open_int Tryd.underlying3 (hval 1 3 v1 rfl rfl) h1
  obtain ⟨a2, rfl, rfl, rfl, w2⟩ := open_int Tryd.underlying3 (hval 2 3 v2 rfl rfl) h2
  clear hA0 hval0
  refine (volumeHalves_walk a0 a1 a2 W w0 w1 w2 (laid_lev hL)).mono fun e W' ⟨he, bel⟩ => ?_
  subst he
  exact ⟨_, rfl, _, _, _, [], _, [], hW', trodAll_mk1 (shut_bool Tryd.underlying4 _), (trodAll_cons_mk (shut_int Tryd.underlying3 w0) (trodAll_cons_mk (shut_int Tryd.underlying3 w1) (trodAll_cons_mk (shut_int Tryd.underlying3 w2) trodAll_mk0))), rfl, bel.frame _, fun h => by cases h⟩

theorem volumeHalves_over : Rows.volumeHalvesRow.holds Tryd.pinned (OpenSpec.ofChange Rows.volumeHalvesSpec) :=
  OpenClaim.holds_of_wide 5 Tryd.f5 rfl rfl rfl rfl rfl rfl rfl ⟨rfl, rfl, rfl, rfl, rfl⟩ rfl rfl rfl rfl rfl (by kernel_rfl) Tryd.func5 (by kernel_rfl)
    (of_decide_eq_true (by kernel_rfl)) (by unfold Func.isWrapper; first | (rw [if_pos (by decide +kernel)]; kernel_rfl) | (rw [if_neg (by decide +kernel)]; exact ⟨rfl, rfl⟩))
    (fun os started H enc _ => volumeHalves_lifted os started H enc)

theorem volumeHalves_row : Rows.VolumeHalvesSaid := volumeHalves_over

theorem volumeHalves_holds : Rows.VolumeHalvesCardSaid :=
  Claim7.holds_tied_plain_at .later [] [.data] true (true, "7d6a7dd12b8796ad1bf6b83b9e77345f4a5b8493b29a3d6ae523c26583a2ed21") false
    volumeHalves_row (fun _ h => by cases h) (by kernel_rfl) (fun _ h => by cases h) volumeHalves_row_tie rfl ⟨rfl, rfl⟩ (by kernel_rfl) rfl
    (fun f fn hf hfn => by
      obtain rfl : f = 5 := Option.some.inj ((show Tryd.prog.funcNamed "phosphor/phosphorlaw20.VolumeHalves" = some 5 by kernel_rfl).symm.trans hf) |>.symm
      obtain rfl : fn = Tryd.f5 := (Option.some.inj (Tryd.func5.symm.trans hfn)).symm
      exact ⟨by kernel_rfl, fun j t ht => by
        rw [Tryd.params5] at ht
        rcases j with _ | _ | _ | j
        · obtain rfl : t = 3 := by simpa using ht.symm
          exact (show Tryd.prog.wantsStandIn 3 = false by kernel_rfl)
        · obtain rfl : t = 3 := by simpa using ht.symm
          exact (show Tryd.prog.wantsStandIn 3 = false by kernel_rfl)
        · obtain rfl : t = 3 := by simpa using ht.symm
          exact (show Tryd.prog.wantsStandIn 3 = false by kernel_rfl)
        · simp at ht⟩)
    (by kernel_rfl)
#print axioms volumeHalves_holds
end Go.Proofs.YtdnmamfglfhboaaDoor
