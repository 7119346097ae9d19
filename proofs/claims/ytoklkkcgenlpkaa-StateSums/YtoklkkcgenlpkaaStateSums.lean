/- For every row of bytes the law StateSums of layer 27 returns true: any bytes (the first 20000 of them) have the document's sum. No condition. -/
import Derived.Test.YtoklkkcgenlpkaaSum27
import Derived.Test.YtoklkkcgenlpkaaArrays
import Derived.OpenShut
import Derived.ShutString
import Derived.ChangeOld
import Derived.Below
namespace Go.Proofs.Ytoklkkcgenlpkaa
open Go.ChangeShapes Go.WideShapes Go.ChangeAt Go.RowKit
open Go.ChangeMaps (open_string shut_string)
set_option linter.unusedVariables false
theorem own : ownKnob Try.prog.godebug = none := by kernel_rfl
theorem row_u {w : World} {a : Option Addr} {len cap n : Nat} {zs : List Int} (h : IsRow .u8 w a len cap zs) (hn : n ≤ len) (h2 : n ≤ 20000) : RowU w a n (fun i => zs.getD i 0) := by
  refine ⟨by omega, ?_⟩
  rcases Nat.eq_zero_or_pos n with h0 | h0
  · exact .inl h0
  · obtain ⟨bb, off, ha, hb, h1, hm, hc⟩ := h.cells (by omega)
    refine .inr ⟨bb, off, h0, ha, fun i hi => ?_⟩
    obtain ⟨c1, c2⟩ := hc i (by omega)
    have := u8_range c2
    exact ⟨c1, by show 0 ≤ zs.getD i 0; omega, by show zs.getD i 0 ≤ 255; omega⟩
theorem stateSums_walk (a0 : Option Addr) (len0 cap0 : Nat) (z0 : List Int) (w : World) (w0 : IsRow .u8 w a0 len0 cap0 z0) : Calls Try.prog 3 #[.slice a0 len0 cap0] w fun e w' => e = .returned (.bool true) ∧ Below w.heap.size w w' := by
  by_cases hl : len0 ≤ 20000
  · obtain ⟨n, hn⟩ : ∃ n, n = len0 := ⟨_, rfl⟩
    have HR := hide (row_u w0 (Nat.le_refl len0) hl)
    rw [← hn] at HR hl
    rw [← hn]
    clear hn w0
    have K1 := hide (fun c => sum_any a0 n c (fun i => z0.getD i 0) w HR.out)
    have K2 := hide (fun c => rsum_any a0 n c (fun i => z0.getD i 0) w HR.out)
    have K3 := hide (show Calls Try.prog 4 #[.slice none 0 0] w fun e w' => e = .returned (.int .i64 1) ∧ w' = w from sum_any none 0 0 (fun _ => 0) w ⟨by omega, .inl rfl⟩)
    obtain ⟨S, hS⟩ : ∃ S, sumOf (fun i => z0.getD i 0) n = S := ⟨_, rfl⟩
    rw [hS] at K1 K2
    clear hS HR
    go_enter Try.func3, Try.ntmps3
    go_wp2_with fail
    refine (K1.out _).mono ?_
    rintro e w1 ⟨rfl, hw⟩
    subst w1
    go_wp2_with fail
    refine (K2.out _).mono ?_
    rintro e w1 ⟨rfl, hw⟩
    subst w1
    go_wp2_with fail
    refine (K3.out).mono ?_
    rintro e w1 ⟨rfl, hw⟩
    subst w1
    go_wp2_with fail
    go_ret
    exact ⟨rfl, Below.refl _ _⟩
  · obtain ⟨n, hn⟩ : ∃ n, n = 20000 := ⟨_, rfl⟩
    have HR := hide (row_u w0 (show 20000 ≤ len0 by omega) (Nat.le_refl _))
    rw [← hn] at HR
    obtain ⟨bb, off, ha, hb, h1, hm, hc⟩ := w0.cells (show 0 < len0 by omega)
    clear w0 hc hb
    have K1 := hide (fun c => sum_any a0 n c (fun i => z0.getD i 0) w HR.out)
    have K2 := hide (fun c => rsum_any a0 n c (fun i => z0.getD i 0) w HR.out)
    have K3 := hide (show Calls Try.prog 4 #[.slice none 0 0] w fun e w' => e = .returned (.int .i64 1) ∧ w' = w from sum_any none 0 0 (fun _ => 0) w ⟨by omega, .inl rfl⟩)
    obtain ⟨S, hS⟩ : ∃ S, sumOf (fun i => z0.getD i 0) n = S := ⟨_, rfl⟩
    rw [hS] at K1 K2
    clear hS HR
    have lm : len0 ≤ maxLen := by omega
    subst ha
    go_enter Try.func3, Try.ntmps3
    go_wp2_with fail
    rw [← hn]
    clear hn
    refine (K1.out _).mono ?_
    rintro e w1 ⟨rfl, hw⟩
    subst w1
    go_wp2_with fail
    refine (K2.out _).mono ?_
    rintro e w1 ⟨rfl, hw⟩
    subst w1
    go_wp2_with fail
    refine (K3.out).mono ?_
    rintro e w1 ⟨rfl, hw⟩
    subst w1
    go_wp2_with fail
    go_ret
    exact ⟨rfl, Below.refl _ _⟩
set_option maxRecDepth 100000 in
theorem stateSums_lifted (os : Os) (started : os.Started) (H : Type) (enc : TypeId × Value → H) :
    ReturnsInHanded {} Try.checked os 3 .any (Rows.stateSumsSpec.pre6 enc Try.prog Try.f3 Rows.stateSumsRow.domain false) (Rows.stateSumsSpec.post enc Try.prog Try.f3 false true false false) := by
  refine returnsInHanded_of_change (C := Try.checked) own started (by kernel_rfl) Try.func3
    (ChangeSpec.witness6 (enc := enc) (C := Try.checked) false ⟨#[], #[.slice none 0 0], []⟩ 8 (by kernel_rfl) (by kernel_rfl) (by kernel_rfl) (by kernel_rfl)) ?_
  intro W base args ds gs before hval0 hW hcnd _
  have hval : ∀ (j : Nat) t v, Try.f3.params[j]? = some t → args[j]? = some v → Value.okWide Try.prog W .any base t v := hval0
  have hW' := hW
  obtain ⟨p, q, hA0, hV, rfl, hfz, hnd⟩ := hW
  have hA : DataW.TrodAll enc Try.prog W 0 (fun _ => true) true Try.f3.params.toList args.toList ds p := hA0
  rw [Try.params3] at hA hval
  obtain ⟨v0, vs0, d0, ds0, p0, q0, hargs, rfl, rfl, h0, r0⟩ := trodAll_cons hA
  obtain ⟨rfl, rfl, rfl⟩ := trodAll_nil r0
  obtain rfl : args = #[v0] := by cases args; simp_all
  obtain ⟨rfl, rfl⟩ := trodVars_none hV
  obtain ⟨a0, len0, cap0, rfl⟩ := okWide_slice Try.underlying22 (hval 0 22 v0 rfl rfl)
  have k0 := h0
  have lt0 : ∀ x ∈ p0, x.block < W.heap.size := by obtain ⟨m, hm⟩ := k0; exact DataW.trod_lt m _ _ _ hm
  obtain ⟨z0, w0⟩ : ∃ zs, IsRow .u8 W a0 len0 cap0 zs := by
    obtain ⟨fuel, hf⟩ := h0
    rcases open_ints Try.underlying22 Try.underlying5 (by kernel_rfl) hf with ⟨hcs, _⟩ | ⟨x, l, c, zs, hcs, _, hl, hm, hz, _, hcell, hwz⟩
    · simp [Value.cells] at hcs
      obtain ⟨rfl, rfl, rfl⟩ := hcs
      exact ⟨[], .inl ⟨rfl, rfl, rfl, rfl⟩⟩
    · simp [Value.cells] at hcs
      obtain ⟨rfl, rfl, rfl⟩ := hcs
      exact ⟨zs, .inr ⟨_, rfl, hl, hm, by simpa using hz, hcell, hwz⟩⟩
  clear hA0 hval0
  refine (stateSums_walk a0 len0 cap0 z0 W w0).mono fun e W' ⟨he, bel⟩ => ?_
  subst he
  exact ⟨_, rfl, _, _, _, [], _, [], hW', trodAll_mk1 (shut_bool Try.underlying4 _), (trodAll_cons_mk (Below.trod laidOut (by kernel_rfl) (of_decide_eq_true (by kernel_rfl)) k0 bel lt0) trodAll_mk0), rfl, bel.frame _, fun h => by cases h⟩

theorem stateSums_over : Rows.stateSumsRow.holds Try.pinned (OpenSpec.ofChange Rows.stateSumsSpec) :=
  OpenClaim.holds_of_wide 3 Try.f3 rfl rfl rfl rfl rfl rfl rfl ⟨rfl, rfl, rfl, rfl, rfl⟩ rfl rfl rfl rfl rfl (by kernel_rfl) Try.func3 (by kernel_rfl)
    (of_decide_eq_true (by kernel_rfl)) (by unfold Func.isWrapper; first | (rw [if_pos (by decide +kernel)]; kernel_rfl) | (rw [if_neg (by decide +kernel)]; exact ⟨rfl, rfl⟩))
    (fun os started H enc _ => stateSums_lifted os started H enc)

theorem stateSums_holds : Rows.StateSumsSaid := stateSums_over
#print axioms stateSums_holds
end Go.Proofs.Ytoklkkcgenlpkaa
