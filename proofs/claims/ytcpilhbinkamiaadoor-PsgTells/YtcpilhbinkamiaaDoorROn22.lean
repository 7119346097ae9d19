/- The document's own: the LFO, noise, periods, and how a channel goes on, period by period. -/
import Derived.Test.YtcpilhbinkamiaaDoorOwn22
import Derived.Test.YtcpilhbinkamiaaDoorPlain22
import Derived.Test.YtcpilhbinkamiaaDoorRef21
import Derived.Test.YtcpilhbinkamiaaDoorLastAny
namespace Go.Proofs.YtcpilhbinkamiaaDoor
open Go.RowKit
set_option linter.unusedVariables false

theorem rlfo_any (f : Nat → Int) (h3 : 0 ≤ f 3) (w : World) : Calls Tryd.prog 22 #[.agg (rowF (iv f) 244)] w fun e w' => e = Ending.returned (.int .i64 (lfoOf f)) ∧ Below w.heap.size w w' := by
  have e3 := rowF_at (iv f) 244 3 (by decide)
  simp only [iv] at e3
  have q : Int.tmod (f 3) 4 = f 3 % 4 := Int.tmod_eq_emod_of_nonneg h3
  generalize rowF (iv f) 244 = R at *
  by_cases h : 128 ≤ f 3
  · have HQ : Hid (lfoOf f = 0) := hide (by unfold lfoOf; rw [if_pos h])
    generalize f 3 = x at *
    go_enter Tryd.func22, Tryd.ntmps22
    go_wp2
    go_ret
    exact ⟨ret_int HQ.out.symm, (Below.refl _ _).alloc (Nat.le_refl _) _⟩
  · have HQ : Hid (lfoOf f = f 3 % 4) := hide (by unfold lfoOf; rw [if_neg h])
    generalize f 3 = x at *
    go_enter Tryd.func22, Tryd.ntmps22
    go_wp2
    go_ret
    exact ⟨ret_int HQ.out.symm, (Below.refl _ _).alloc (Nat.le_refl _) _⟩
theorem rnoisy_any (f : Nat → Int) (k : Nat) (hk : k < 6) (w : World) : Calls Tryd.prog 23 #[.agg (rowF (iv f) 244), .int .i64 (k : Int)] w fun e w' => e = Ending.returned (.bool (nyOf f k)) ∧ Below w.heap.size w w' := by
  have e3 := rowF_at (iv f) 244 (4 + k * 40 + 3) (by omega)
  rw [show iv f (4 + k * 40 + 3) = .int .i64 (ch f k 3) from rfl] at e3
  generalize rowF (iv f) 244 = R at *
  by_cases h4 : 4 ≤ k
  · by_cases h : 128 ≤ ch f k 3
    · have HQ : Hid (nyOf f k = true) := hide (by unfold nyOf; simp [h4, h])
      generalize ch f k 3 = x at *
      go_enter Tryd.func23, Tryd.ntmps23
      go_wp2
      go_ret
      exact ⟨ret_bool HQ.out.symm, (Below.refl _ _).alloc (Nat.le_refl _) _⟩
    · have HQ : Hid (nyOf f k = false) := hide (by unfold nyOf; simp [h4]; omega)
      generalize ch f k 3 = x at *
      go_enter Tryd.func23, Tryd.ntmps23
      go_wp2
      go_ret
      exact ⟨ret_bool HQ.out.symm, (Below.refl _ _).alloc (Nat.le_refl _) _⟩
  · have HQ : Hid (nyOf f k = false) := hide (by unfold nyOf; simp [h4])
    go_enter Tryd.func23, Tryd.ntmps23
    go_wp2
    go_ret
    exact ⟨ret_bool HQ.out.symm, (Below.refl _ _).alloc (Nat.le_refl _) _⟩
end Go.Proofs.YtcpilhbinkamiaaDoor
