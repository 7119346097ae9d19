/- For every number and three more the law VolumeFalls of layer 20 returns true, where the program's table of levels holds what its own initialiser lays: what is more attenuated is not louder; volume, balance and main each make it no less loud. -/
import Derived.Test.YtdnmamfglfhboaaDoorVol20
import Derived.Test.YtdnmamfglfhboaaDoorLevLaid
import Derived.Test.YtdnmamfglfhboaaDoorArrays
import Derived.Test.YtdnmamfglfhboaaDoorTwo
import Derived.Test.YtdnmamfglfhboaaDoorNamed
import Derived.Test.YtdnmamfglfhboaaDoorTie
import Derived.Test.YtdnmamfglfhboaaDoorCards
import Derived.SevenTiedAt
import Derived.OpenShut
import Derived.ShutString
import Derived.ChangeOld
import Derived.Below
namespace Go.Proofs.YtdnmamfglfhboaaDoor
open Go.ChangeShapes Go.WideShapes Go.ChangeAt Go.RowKit
open Go.ChangeMaps (open_string shut_string)
set_option linter.unusedVariables false
theorem own : ownKnob Tryd.prog.godebug = none := by kernel_rfl

set_option maxHeartbeats 2000000 in
theorem falls_at (n x y z N a b c g : Int) (w : World) (HL : Hid (HasLevels w)) (en : bits .and .i64 n 255 = N) (ea : bits .and .i64 x 31 = a) (eb : bits .and .i64 y 15 = b) (ec : bits .and .i64 z 15 = c)
    (n0 : 0 ≤ N) (n1 : N < 256) (a0 : 0 ≤ a) (a1 : a < 32) (b0 : 0 ≤ b) (b1 : b < 16) (c0 : 0 ≤ c) (c1 : c < 16)
    (l1 : levelOf (N + 1) ≤ levelOf N) (l2 : levelOf 0 = 1024) (g0 : gainOf a b c = g) (g1 : 0 ≤ g) (g2 : g ≤ 1024) (g3 : gainOf 0 b c = 0) (g4 : gainOf a c b = g)
    (pa pb pc : Bool) (qa : (a == 31) = pa) (qb : (b == 15) = pb) (qc : (c == 15) = pc)
    (ga : pa = true ∨ g ≤ gainOf (a + 1) b c) (gb : pb = true ∨ g ≤ gainOf a (b + 1) c) (gc : pc = true ∨ g ≤ gainOf a b (c + 1)) : Calls Tryd.prog 4 #[.int .i64 n, .agg #[.int .i64 x, .int .i64 y, .int .i64 z]] w fun e w' => e = .returned (.bool true) ∧ Below w.heap.size w w' := by
  go_enter Tryd.func4, Tryd.ntmps4
  go_wp2_with fail
  go_quiet (fail)
  refine under_then fun wa hwa => ?_
  have B := hide (by rw [hwa]; exact below_drew ((Below.refl _ w).alloc (Nat.le_refl _) _) _ : Below w.heap.size w wa)
  have HL := hide (HL.out.next B.out)
  clear hwa
  cases pa <;> cases pb <;> cases pc
  all_goals (simp only [Bool.false_eq_true, false_or, true_or] at ga gb gc)
  all_goals (go_wp2_with (first | (go_at_call 8; refine (gain_any _ _ _ _ HL.out).mono ?_; rintro e w' ⟨rfl, rfl⟩) | (go_at_call 6; refine (level_any _ _ HL.out).mono ?_; rintro e w' ⟨rfl, rfl⟩)))
  all_goals (go_ret; exact ⟨rfl, B.out⟩)

theorem gain_more {v b m v' b' m' : Int} (h : 31 - v' % 32 + 2 * (15 - b' % 16) + 2 * (15 - m' % 16) ≤ 31 - v % 32 + 2 * (15 - b % 16) + 2 * (15 - m % 16)) : gainOf v b m ≤ gainOf v' b' m' := level_down h
theorem volumeFalls_walk (n : Int) (zs : List Int) (w : World) (w0 : (Lit.int .i64 n).wf = true) (l1 : zs.length = 3) (w1 : ∀ z ∈ zs, (Lit.int .i64 z).wf = true) (hL : HasLevels w) :
    Calls Tryd.prog 4 #[.int .i64 n, .agg (zs.map (Value.int .i64)).toArray] w fun e w' => e = .returned (.bool true) ∧ Below w.heap.size w w' := by
  obtain ⟨x, y, z, rfl⟩ := three_of zs l1
  simp only [List.map]
  refine falls_at n x y z (n % 256) (x % 32) (y % 16) (z % 16) _ w hL (and_255 n) (and_31 x) (and_15 y) (and_15 z) (by omega) (by omega) (by omega) (by omega) (by omega) (by omega) (by omega) (by omega)
    (level_down (by omega)) (by decide) rfl (level_in _).1 (level_in _).2 (level_end (by omega)) ?_ _ _ _ rfl rfl rfl ?_ ?_ ?_
  · unfold gainOf
    congr 1
    omega
  · by_cases h : x % 32 = 31
    · left; rw [h]; rfl
    · right; exact gain_more (by omega)
  · by_cases h : y % 16 = 15
    · left; rw [h]; rfl
    · right; exact gain_more (by omega)
  · by_cases h : z % 16 = 15
    · left; rw [h]; rfl
    · right; exact gain_more (by omega)

set_option maxRecDepth 100000 in
theorem volumeFalls_lifted (os : Os) (started : os.Started) (H : Type) (enc : TypeId × Value → H) :
    ReturnsInHanded {} Tryd.checked os 4 .any (fun w args => (Rows.volumeFallsSpec.pre enc Tryd.prog Tryd.f4 [] false w args ∧ laidMetH Tryd.prog laidLev w) ∧ sizedMet enc Tryd.prog Tryd.f4 (OpenSpec.ofChange Rows.volumeFallsSpec) false w args)
      (Rows.volumeFallsSpec.post enc Tryd.prog Tryd.f4 false true false false) := by
  refine returnsInHanded_of_change_and (C := Tryd.checked) (X := fun w _ => laidMetH Tryd.prog laidLev w) (fun _ _ _ hh h => h.of_heap hh) own started (by kernel_rfl) Tryd.func4
    (ChangeSpec.witness_at (enc := enc) (C := Tryd.checked) (os := os) (X := fun w _ => laidMetH Tryd.prog laidLev w) false (laidWorld os) #[.int .i64 0, .agg #[.int .i64 0, .int .i64 0, .int .i64 0]] 8 rfl (by kernel_rfl) (by kernel_rfl) (by kernel_rfl) (by kernel_rfl) (by kernel_rfl) (laidWorld_lev os _)) ?_
  intro W base args ds gs before hval0 hW _ _ hL _
  have hval : ∀ (j : Nat) t v, Tryd.f4.params[j]? = some t → args[j]? = some v → Value.okWide Tryd.prog W .any base t v := hval0
  have hW' := hW
  obtain ⟨p, q, hA0, hV, rfl, hfz, hnd⟩ := hW
  have hA : DataW.TrodAll enc Tryd.prog W 0 (fun _ => true) true Tryd.f4.params.toList args.toList ds p := hA0
  rw [Tryd.params4] at hA hval
  obtain ⟨v0, vs0, d0, ds0, p0, q0, hargs, rfl, rfl, h0, r0⟩ := trodAll_cons hA
  obtain ⟨v1, vs1, d1, ds1, p1, q1, rfl, rfl, rfl, h1, r1⟩ := trodAll_cons r0
  obtain ⟨rfl, rfl, rfl⟩ := trodAll_nil r1
  obtain rfl : args = #[v0, v1] := by cases args; simp_all
  obtain ⟨rfl, rfl⟩ := trodVars_none hV
  obtain ⟨a0, rfl, rfl, rfl, w0⟩ := open_int Tryd.underlying3 (hval 0 3 v0 rfl rfl) h0
  have k1 := h1
  have lt1 : ∀ x ∈ p1, x.block < W.heap.size := by obtain ⟨m, hm⟩ := k1; exact DataW.trod_lt m _ _ _ hm
  obtain ⟨z1, l1, rfl, w1⟩ := open_array_ints Tryd.underlying22 Tryd.underlying3 (by kernel_rfl) (by kernel_rfl) (hval 1 22 v1 rfl rfl) h1
  clear hA0 hval0
  refine (volumeFalls_walk a0 z1 W w0 l1 w1 (laid_lev hL)).mono fun e W' ⟨he, bel⟩ => ?_
  subst he
  exact ⟨_, rfl, _, _, _, [], _, [], hW', trodAll_mk1 (shut_bool Tryd.underlying4 _), (trodAll_cons_mk (shut_int Tryd.underlying3 w0) (trodAll_cons_mk (Below.trod laidOut (by kernel_rfl) (of_decide_eq_true (by kernel_rfl)) k1 bel lt1) trodAll_mk0)), rfl, bel.frame _, fun h => by cases h⟩

theorem volumeFalls_over : Rows.volumeFallsRow.holds Tryd.pinned (OpenSpec.ofChange Rows.volumeFallsSpec) :=
  OpenClaim.holds_of_wide 4 Tryd.f4 rfl rfl rfl rfl rfl rfl rfl ⟨rfl, rfl, rfl, rfl, rfl⟩ rfl rfl rfl rfl rfl (by kernel_rfl) Tryd.func4 (by kernel_rfl)
    (of_decide_eq_true (by kernel_rfl)) (by unfold Func.isWrapper; first | (rw [if_pos (by decide +kernel)]; kernel_rfl) | (rw [if_neg (by decide +kernel)]; exact ⟨rfl, rfl⟩))
    (fun os started H enc _ => volumeFalls_lifted os started H enc)

theorem volumeFalls_row : Rows.VolumeFallsSaid := volumeFalls_over

theorem volumeFalls_holds : Rows.VolumeFallsCardSaid :=
  Claim7.holds_tied_plain_at .later [] [.data] true (true, "7d6a7dd12b8796ad1bf6b83b9e77345f4a5b8493b29a3d6ae523c26583a2ed21") false
    volumeFalls_row (fun _ h => by cases h) (by kernel_rfl) (fun _ h => by cases h) volumeFalls_row_tie rfl ⟨rfl, rfl⟩ (by kernel_rfl) rfl
    (fun f fn hf hfn => by
      obtain rfl : f = 4 := Option.some.inj ((show Tryd.prog.funcNamed "phosphor/phosphorlaw20.VolumeFalls" = some 4 by kernel_rfl).symm.trans hf) |>.symm
      obtain rfl : fn = Tryd.f4 := (Option.some.inj (Tryd.func4.symm.trans hfn)).symm
      exact ⟨by kernel_rfl, fun j t ht => by
        rw [Tryd.params4] at ht
        rcases j with _ | _ | j
        · obtain rfl : t = 3 := by simpa using ht.symm
          exact (show Tryd.prog.wantsStandIn 3 = false by kernel_rfl)
        · obtain rfl : t = 22 := by simpa using ht.symm
          exact (show Tryd.prog.wantsStandIn 22 = false by kernel_rfl)
        · simp at ht⟩)
    (by kernel_rfl)
#print axioms volumeFalls_holds
end Go.Proofs.YtdnmamfglfhboaaDoor
