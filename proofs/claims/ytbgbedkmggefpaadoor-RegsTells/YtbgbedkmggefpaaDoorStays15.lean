/- Registers that may be stay so: what any write leaves. -/
import Derived.Test.YtbgbedkmggefpaaDoorWrite15
import Derived.Test.YtbgbedkmggefpaaDoorValid15
namespace Go.Proofs.YtbgbedkmggefpaaDoor
open Go.RowKit
set_option linter.unusedVariables false

theorem okR_all {s : Int} {f : Nat → Int} (h : okR s f = true) : (∀ k, k < 20 → fits (f k) (mk k) = true) ∧ 0 ≤ s ∧ s ≤ 31 := by
  unfold okR at h
  rw [Bool.and_eq_true] at h
  exact ⟨(okTo_iff f 20).1 h.1, of_decide_eq_true h.2⟩
theorem okR_mk {s : Int} {f : Nat → Int} (h : ∀ k, k < 20 → fits (f k) (mk k) = true) (h0 : 0 ≤ s) (h1 : s ≤ 31) : okR s f = true := by
  rw [okR_sel s f h]
  exact decide_eq_true ⟨h0, h1⟩
theorem fits_wf {n m : Int} (h : fits n m = true) : (Lit.int .i64 n).wf = true := by
  have k : 0 ≤ n ∧ n ≤ 65535 ∧ andW n m = n := of_decide_eq_true h
  exact WalkArith.wf_i64 (by omega)
theorem okR_wf {s : Int} {f : Nat → Int} (h : okR s f = true) : ∀ j, j < 20 → (Lit.int .i64 (f j)).wf = true := fun j hj => fits_wf ((okR_all h).1 j hj)
theorem okR_0 : okR 0 (fun _ => 0) = true := okR_mk (fun k _ => fits_0 k) (by decide) (by decide)
theorem write_stays (s a b : Int) (f : Nat → Int) (h : okR s f = true) : ∃ (s' : Int) (f' : Nat → Int) (x : Int),
    (∀ w, HasMask w → Calls Tryd.prog 7 #[.agg (rowG s f), .int .i64 a, .int .i64 b] w fun e w' => e = .returned (.tuple #[.agg (rowG s' f'), .int .i64 x]) ∧ Below w.heap.size w w') ∧
      okR s' f' = true ∧ ∀ k : Nat, k < 20 → ¬ (k : Int) = s → f' k = f k := by
  obtain ⟨h1, h2, h3⟩ := okR_all h
  by_cases h0 : a = 0
  · subst h0
    exact ⟨b % 32, f, 0, fun w _ => write_sel s b _ f rfl w, okR_mk h1 (by omega) (by omega), fun _ _ _ => rfl⟩
  · by_cases hs : (a = 2 ∨ a = 3) ∧ s < 20
    · obtain ⟨ha, hs⟩ := hs
      obtain ⟨i, rfl⟩ := Int.eq_ofNat_of_zero_le h2
      have hi : i < 20 := by omega
      refine ⟨(i : Int), upd f i (andW (halfOf (f i) a b) (mk i)), _, fun w hM => write_at i hi a b _ _ _ _ f ha rfl rfl (and_word _ _ (mk_mask i)) rfl w hM, okR_mk (fun k hk => ?_) h2 h3, fun k _ hk => upd_other f i k _ (by omega)⟩
      by_cases e : k = i
      · subst e
        rw [upd_same]
        exact fits_and _ _ (mk_mask k)
      · rw [upd_other f i k _ e]
        exact h1 k hk
    · exact ⟨s, f, 0, fun w _ => write_no a s b f ⟨h0, fun k => by omega⟩ w, h, fun _ _ _ => rfl⟩
end Go.Proofs.YtbgbedkmggefpaaDoor
