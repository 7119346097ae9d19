/- A device's ports come again and again in its kilobyte; what is slow is the picture's chip, and the colours', and what is held are the four behind. -/
import Derived.Test.YtijidlhfaifbfaaDoorKept
import Derived.Deep.RegionWith
import Derived.Test.YtijidlhfaifbfaaDoorRegLaid
import Derived.Test.YtijidlhfaifbfaaDoorTie
import Derived.Test.YtijidlhfaifbfaaDoorCards
import Derived.SevenTiedAt
import Derived.OpenShut
import Derived.ShutString
import Derived.ChangeOld
import Derived.Below
namespace Go.Proofs.YtijidlhfaifbfaaDoor
open Go.ChangeShapes Go.WideShapes Go.ChangeAt Go.RowKit
open Go.ChangeMaps (open_string shut_string)
set_option linter.unusedVariables false
theorem own : ownKnob Tryd.prog.godebug = none := by kernel_rfl

theorem and_1023 (n : Int) : bits .and .i64 n 1023 = n % 1024 := and_mask 10 (by decide) n
theorem many_index (j : Nat) (hj : j < 8) (w : World) : (Instr.index 30 (.agg #[.int .i64 4, .int .i64 8, .int .i64 16, .int .i64 2, .int .i64 1, .int .i64 4, .int .i64 1, .int .i64 1]) (.int .i64 (j : Int))).run Tryd.prog w = .ok (.int .i64 ([(4 : Int), 8, 16, 2, 1, 4, 1, 1].getD j 0)) w := by
  rcases j with _ | _ | _ | _ | _ | _ | _ | _ | j
  · kernel_rfl
  · kernel_rfl
  · kernel_rfl
  · kernel_rfl
  · kernel_rfl
  · kernel_rfl
  · kernel_rfl
  · kernel_rfl
  · omega
theorem ports_0 (a0 a1 a z : Int) (w : World) (hL : HasPorts w) (ek : bits .and .i64 a0 7 = 0) (ea : bits .and .i64 a1 1023 = a) (h0 : 0 ≤ a) (h1 : a < 1024) (ez : a % 4 = z) (z0 : 0 ≤ z) (z1 : z < 4)
    (k1 : ∀ w, HasPorts w → Calls Tryd.prog 8 #[.int .i64 (2088960 + a)] w fun e w' => e = .returned (.agg #[.int .i64 2, .int .i64 0, .int .i64 z]) ∧ Below w.heap.size w w')
    (k2 : ∀ w, HasPorts w → Calls Tryd.prog 8 #[.int .i64 (2088960 + z)] w fun e w' => e = .returned (.agg #[.int .i64 2, .int .i64 0, .int .i64 z]) ∧ Below w.heap.size w w') :
    Calls Tryd.prog 5 #[.int .i64 a0, .int .i64 a1] w fun e w' => e = .returned (.bool true) ∧ Below w.heap.size w w' := by
  have HT := hide hL
  have c1 := hide k1
  have c2 := hide k2
  have c3 := hide (slow_any 2)
  have c4 := hide (held_any 2)
  rw [show slowK 2 = 1 from rfl] at c3
  rw [show decide (4 ≤ (2 : Int) ∧ (2 : Int) ≤ 7) = false from rfl] at c4
  have hx := many_index 0 (by decide)
  have hy : ∀ w : World, (Instr.index 30 (.agg #[.int .i64 4, .int .i64 8, .int .i64 16, .int .i64 2, .int .i64 1, .int .i64 4, .int .i64 1, .int .i64 1]) (.int .i64 0)).run Tryd.prog w = .ok (.int .i64 4) w := hx
  clear hx
  clear hL k1 k2
  go_enter Tryd.func5, Tryd.ntmps5
  go_wp2_with fail
  refine (c1.out _ HT.out).mono ?_
  rintro e w1 ⟨rfl, b1⟩
  have s1 := b1.size
  go_wp2_with fail
  obtain ⟨wa, hwa⟩ : ∃ wa, wa = w1.alloc (.cells #[.int .i64 2, .int .i64 0, .int .i64 z] 25) := ⟨_, rfl⟩
  rw [← hwa]
  have B0 := hide (by rw [hwa]; exact b1.alloc s1 _ : Below w.heap.size w wa)
  have hs : w1.heap.size < wa.heap.size := by rw [hwa]; simp
  have d0 := kept_cell (by rw [hwa]; simp : wa.cell? ⟨w1.heap.size, 0, none⟩ = some (.int .i64 2)) hs
  have d1 := kept_cell (by rw [hwa]; simp : wa.cell? ⟨w1.heap.size, 1, none⟩ = some (.int .i64 0)) hs
  have d2 := kept_cell (by rw [hwa]; simp : wa.cell? ⟨w1.heap.size, 2, none⟩ = some (.int .i64 z)) hs
  have HA := hide (HT.out.next B0.out)
  clear hwa b1 s1 HT
  haveI := kept_some wa
  refine wp_region_kept (by kernel_rfl) (by kernel_rfl) ?_
  repeat (go_big_quiet_step ((first
    | (go_at_call 8; exact kept_call (c2.out _ (HA.out.next (Kept.below _))))
    | (go_at_call 9; exact kept_same (c3.out _))
    | (go_at_call 10; exact kept_same (c4.out _)))))
  refine wpQuiet_nil ?_
  rintro _ ⟨wk, rfl⟩
  go_wp2
  go_ret
  exact ⟨rfl, bnext B0.out wk.below⟩
theorem ports_1 (a0 a1 a z : Int) (w : World) (hL : HasPorts w) (ek : bits .and .i64 a0 7 = 1) (ea : bits .and .i64 a1 1023 = a) (h0 : 0 ≤ a) (h1 : a < 1024) (ez : a % 8 = z) (z0 : 0 ≤ z) (z1 : z < 8)
    (k1 : ∀ w, HasPorts w → Calls Tryd.prog 8 #[.int .i64 (2089984 + a)] w fun e w' => e = .returned (.agg #[.int .i64 3, .int .i64 0, .int .i64 z]) ∧ Below w.heap.size w w')
    (k2 : ∀ w, HasPorts w → Calls Tryd.prog 8 #[.int .i64 (2089984 + z)] w fun e w' => e = .returned (.agg #[.int .i64 3, .int .i64 0, .int .i64 z]) ∧ Below w.heap.size w w') :
    Calls Tryd.prog 5 #[.int .i64 a0, .int .i64 a1] w fun e w' => e = .returned (.bool true) ∧ Below w.heap.size w w' := by
  have HT := hide hL
  have c1 := hide k1
  have c2 := hide k2
  have c3 := hide (slow_any 3)
  have c4 := hide (held_any 3)
  rw [show slowK 3 = 1 from rfl] at c3
  rw [show decide (4 ≤ (3 : Int) ∧ (3 : Int) ≤ 7) = false from rfl] at c4
  have hx := many_index 1 (by decide)
  have hy : ∀ w : World, (Instr.index 30 (.agg #[.int .i64 4, .int .i64 8, .int .i64 16, .int .i64 2, .int .i64 1, .int .i64 4, .int .i64 1, .int .i64 1]) (.int .i64 1)).run Tryd.prog w = .ok (.int .i64 8) w := hx
  clear hx
  clear hL k1 k2
  go_enter Tryd.func5, Tryd.ntmps5
  go_wp2_with fail
  refine (c1.out _ HT.out).mono ?_
  rintro e w1 ⟨rfl, b1⟩
  have s1 := b1.size
  go_wp2_with fail
  obtain ⟨wa, hwa⟩ : ∃ wa, wa = w1.alloc (.cells #[.int .i64 3, .int .i64 0, .int .i64 z] 25) := ⟨_, rfl⟩
  rw [← hwa]
  have B0 := hide (by rw [hwa]; exact b1.alloc s1 _ : Below w.heap.size w wa)
  have hs : w1.heap.size < wa.heap.size := by rw [hwa]; simp
  have d0 := kept_cell (by rw [hwa]; simp : wa.cell? ⟨w1.heap.size, 0, none⟩ = some (.int .i64 3)) hs
  have d1 := kept_cell (by rw [hwa]; simp : wa.cell? ⟨w1.heap.size, 1, none⟩ = some (.int .i64 0)) hs
  have d2 := kept_cell (by rw [hwa]; simp : wa.cell? ⟨w1.heap.size, 2, none⟩ = some (.int .i64 z)) hs
  have HA := hide (HT.out.next B0.out)
  clear hwa b1 s1 HT
  haveI := kept_some wa
  refine wp_region_kept (by kernel_rfl) (by kernel_rfl) ?_
  repeat (go_big_quiet_step ((first
    | (go_at_call 8; exact kept_call (c2.out _ (HA.out.next (Kept.below _))))
    | (go_at_call 9; exact kept_same (c3.out _))
    | (go_at_call 10; exact kept_same (c4.out _)))))
  refine wpQuiet_nil ?_
  rintro _ ⟨wk, rfl⟩
  go_wp2
  go_ret
  exact ⟨rfl, bnext B0.out wk.below⟩
theorem ports_2 (a0 a1 a z : Int) (w : World) (hL : HasPorts w) (ek : bits .and .i64 a0 7 = 2) (ea : bits .and .i64 a1 1023 = a) (h0 : 0 ≤ a) (h1 : a < 1024) (ez : a % 16 = z) (z0 : 0 ≤ z) (z1 : z < 16)
    (k1 : ∀ w, HasPorts w → Calls Tryd.prog 8 #[.int .i64 (2091008 + a)] w fun e w' => e = .returned (.agg #[.int .i64 4, .int .i64 0, .int .i64 z]) ∧ Below w.heap.size w w')
    (k2 : ∀ w, HasPorts w → Calls Tryd.prog 8 #[.int .i64 (2091008 + z)] w fun e w' => e = .returned (.agg #[.int .i64 4, .int .i64 0, .int .i64 z]) ∧ Below w.heap.size w w') :
    Calls Tryd.prog 5 #[.int .i64 a0, .int .i64 a1] w fun e w' => e = .returned (.bool true) ∧ Below w.heap.size w w' := by
  have HT := hide hL
  have c1 := hide k1
  have c2 := hide k2
  have c3 := hide (slow_any 4)
  have c4 := hide (held_any 4)
  rw [show slowK 4 = 0 from rfl] at c3
  rw [show decide (4 ≤ (4 : Int) ∧ (4 : Int) ≤ 7) = true from rfl] at c4
  have hx := many_index 2 (by decide)
  have hy : ∀ w : World, (Instr.index 30 (.agg #[.int .i64 4, .int .i64 8, .int .i64 16, .int .i64 2, .int .i64 1, .int .i64 4, .int .i64 1, .int .i64 1]) (.int .i64 2)).run Tryd.prog w = .ok (.int .i64 16) w := hx
  clear hx
  clear hL k1 k2
  go_enter Tryd.func5, Tryd.ntmps5
  go_wp2_with fail
  refine (c1.out _ HT.out).mono ?_
  rintro e w1 ⟨rfl, b1⟩
  have s1 := b1.size
  go_wp2_with fail
  obtain ⟨wa, hwa⟩ : ∃ wa, wa = w1.alloc (.cells #[.int .i64 4, .int .i64 0, .int .i64 z] 25) := ⟨_, rfl⟩
  rw [← hwa]
  have B0 := hide (by rw [hwa]; exact b1.alloc s1 _ : Below w.heap.size w wa)
  have hs : w1.heap.size < wa.heap.size := by rw [hwa]; simp
  have d0 := kept_cell (by rw [hwa]; simp : wa.cell? ⟨w1.heap.size, 0, none⟩ = some (.int .i64 4)) hs
  have d1 := kept_cell (by rw [hwa]; simp : wa.cell? ⟨w1.heap.size, 1, none⟩ = some (.int .i64 0)) hs
  have d2 := kept_cell (by rw [hwa]; simp : wa.cell? ⟨w1.heap.size, 2, none⟩ = some (.int .i64 z)) hs
  have HA := hide (HT.out.next B0.out)
  clear hwa b1 s1 HT
  haveI := kept_some wa
  refine wp_region_kept (by kernel_rfl) (by kernel_rfl) ?_
  repeat (go_big_quiet_step ((first
    | (go_at_call 8; exact kept_call (c2.out _ (HA.out.next (Kept.below _))))
    | (go_at_call 9; exact kept_same (c3.out _))
    | (go_at_call 10; exact kept_same (c4.out _)))))
  refine wpQuiet_nil ?_
  rintro _ ⟨wk, rfl⟩
  go_wp2
  go_ret
  exact ⟨rfl, bnext B0.out wk.below⟩
theorem ports_3 (a0 a1 a z : Int) (w : World) (hL : HasPorts w) (ek : bits .and .i64 a0 7 = 3) (ea : bits .and .i64 a1 1023 = a) (h0 : 0 ≤ a) (h1 : a < 1024) (ez : a % 2 = z) (z0 : 0 ≤ z) (z1 : z < 2)
    (k1 : ∀ w, HasPorts w → Calls Tryd.prog 8 #[.int .i64 (2092032 + a)] w fun e w' => e = .returned (.agg #[.int .i64 5, .int .i64 0, .int .i64 z]) ∧ Below w.heap.size w w')
    (k2 : ∀ w, HasPorts w → Calls Tryd.prog 8 #[.int .i64 (2092032 + z)] w fun e w' => e = .returned (.agg #[.int .i64 5, .int .i64 0, .int .i64 z]) ∧ Below w.heap.size w w') :
    Calls Tryd.prog 5 #[.int .i64 a0, .int .i64 a1] w fun e w' => e = .returned (.bool true) ∧ Below w.heap.size w w' := by
  have HT := hide hL
  have c1 := hide k1
  have c2 := hide k2
  have c3 := hide (slow_any 5)
  have c4 := hide (held_any 5)
  rw [show slowK 5 = 0 from rfl] at c3
  rw [show decide (4 ≤ (5 : Int) ∧ (5 : Int) ≤ 7) = true from rfl] at c4
  have hx := many_index 3 (by decide)
  have hy : ∀ w : World, (Instr.index 30 (.agg #[.int .i64 4, .int .i64 8, .int .i64 16, .int .i64 2, .int .i64 1, .int .i64 4, .int .i64 1, .int .i64 1]) (.int .i64 3)).run Tryd.prog w = .ok (.int .i64 2) w := hx
  clear hx
  clear hL k1 k2
  go_enter Tryd.func5, Tryd.ntmps5
  go_wp2_with fail
  refine (c1.out _ HT.out).mono ?_
  rintro e w1 ⟨rfl, b1⟩
  have s1 := b1.size
  go_wp2_with fail
  obtain ⟨wa, hwa⟩ : ∃ wa, wa = w1.alloc (.cells #[.int .i64 5, .int .i64 0, .int .i64 z] 25) := ⟨_, rfl⟩
  rw [← hwa]
  have B0 := hide (by rw [hwa]; exact b1.alloc s1 _ : Below w.heap.size w wa)
  have hs : w1.heap.size < wa.heap.size := by rw [hwa]; simp
  have d0 := kept_cell (by rw [hwa]; simp : wa.cell? ⟨w1.heap.size, 0, none⟩ = some (.int .i64 5)) hs
  have d1 := kept_cell (by rw [hwa]; simp : wa.cell? ⟨w1.heap.size, 1, none⟩ = some (.int .i64 0)) hs
  have d2 := kept_cell (by rw [hwa]; simp : wa.cell? ⟨w1.heap.size, 2, none⟩ = some (.int .i64 z)) hs
  have HA := hide (HT.out.next B0.out)
  clear hwa b1 s1 HT
  haveI := kept_some wa
  refine wp_region_kept (by kernel_rfl) (by kernel_rfl) ?_
  repeat (go_big_quiet_step ((first
    | (go_at_call 8; exact kept_call (c2.out _ (HA.out.next (Kept.below _))))
    | (go_at_call 9; exact kept_same (c3.out _))
    | (go_at_call 10; exact kept_same (c4.out _)))))
  refine wpQuiet_nil ?_
  rintro _ ⟨wk, rfl⟩
  go_wp2
  go_ret
  exact ⟨rfl, bnext B0.out wk.below⟩
theorem ports_4 (a0 a1 a : Int) (w : World) (hL : HasPorts w) (ek : bits .and .i64 a0 7 = 4) (ea : bits .and .i64 a1 1023 = a) (h0 : 0 ≤ a) (h1 : a < 1024)
    (k1 : ∀ w, HasPorts w → Calls Tryd.prog 8 #[.int .i64 (2093056 + a)] w fun e w' => e = .returned (.agg #[.int .i64 6, .int .i64 0, .int .i64 0]) ∧ Below w.heap.size w w')
    (k2 : ∀ w, HasPorts w → Calls Tryd.prog 8 #[.int .i64 2093056] w fun e w' => e = .returned (.agg #[.int .i64 6, .int .i64 0, .int .i64 0]) ∧ Below w.heap.size w w') :
    Calls Tryd.prog 5 #[.int .i64 a0, .int .i64 a1] w fun e w' => e = .returned (.bool true) ∧ Below w.heap.size w w' := by
  have HT := hide hL
  have c1 := hide k1
  have c2 := hide k2
  have c3 := hide (slow_any 6)
  have c4 := hide (held_any 6)
  rw [show slowK 6 = 0 from rfl] at c3
  rw [show decide (4 ≤ (6 : Int) ∧ (6 : Int) ≤ 7) = true from rfl] at c4
  have hx := many_index 4 (by decide)
  have hy : ∀ w : World, (Instr.index 30 (.agg #[.int .i64 4, .int .i64 8, .int .i64 16, .int .i64 2, .int .i64 1, .int .i64 4, .int .i64 1, .int .i64 1]) (.int .i64 4)).run Tryd.prog w = .ok (.int .i64 1) w := hx
  clear hx
  clear hL k1 k2
  go_enter Tryd.func5, Tryd.ntmps5
  go_wp2_with fail
  refine (c1.out _ HT.out).mono ?_
  rintro e w1 ⟨rfl, b1⟩
  have s1 := b1.size
  go_wp2_with fail
  obtain ⟨wa, hwa⟩ : ∃ wa, wa = w1.alloc (.cells #[.int .i64 6, .int .i64 0, .int .i64 0] 25) := ⟨_, rfl⟩
  rw [← hwa]
  have B0 := hide (by rw [hwa]; exact b1.alloc s1 _ : Below w.heap.size w wa)
  have hs : w1.heap.size < wa.heap.size := by rw [hwa]; simp
  have d0 := kept_cell (by rw [hwa]; simp : wa.cell? ⟨w1.heap.size, 0, none⟩ = some (.int .i64 6)) hs
  have d1 := kept_cell (by rw [hwa]; simp : wa.cell? ⟨w1.heap.size, 1, none⟩ = some (.int .i64 0)) hs
  have d2 := kept_cell (by rw [hwa]; simp : wa.cell? ⟨w1.heap.size, 2, none⟩ = some (.int .i64 0)) hs
  have HA := hide (HT.out.next B0.out)
  clear hwa b1 s1 HT
  haveI := kept_some wa
  refine wp_region_kept (by kernel_rfl) (by kernel_rfl) ?_
  repeat (go_big_quiet_step ((first
    | (go_at_call 8; exact kept_call (c2.out _ (HA.out.next (Kept.below _))))
    | (go_at_call 9; exact kept_same (c3.out _))
    | (go_at_call 10; exact kept_same (c4.out _)))))
  refine wpQuiet_nil ?_
  rintro _ ⟨wk, rfl⟩
  go_wp2
  go_ret
  exact ⟨rfl, bnext B0.out wk.below⟩
theorem ports_5 (a0 a1 a z : Int) (w : World) (hL : HasPorts w) (ek : bits .and .i64 a0 7 = 5) (ea : bits .and .i64 a1 1023 = a) (h0 : 0 ≤ a) (h1 : a < 1024) (ez : a % 4 = z) (z0 : 0 ≤ z) (z1 : z < 4)
    (k1 : ∀ w, HasPorts w → Calls Tryd.prog 8 #[.int .i64 (2094080 + a)] w fun e w' => e = .returned (.agg #[.int .i64 7, .int .i64 0, .int .i64 z]) ∧ Below w.heap.size w w')
    (k2 : ∀ w, HasPorts w → Calls Tryd.prog 8 #[.int .i64 (2094080 + z)] w fun e w' => e = .returned (.agg #[.int .i64 7, .int .i64 0, .int .i64 z]) ∧ Below w.heap.size w w') :
    Calls Tryd.prog 5 #[.int .i64 a0, .int .i64 a1] w fun e w' => e = .returned (.bool true) ∧ Below w.heap.size w w' := by
  have HT := hide hL
  have c1 := hide k1
  have c2 := hide k2
  have c3 := hide (slow_any 7)
  have c4 := hide (held_any 7)
  rw [show slowK 7 = 0 from rfl] at c3
  rw [show decide (4 ≤ (7 : Int) ∧ (7 : Int) ≤ 7) = true from rfl] at c4
  have hx := many_index 5 (by decide)
  have hy : ∀ w : World, (Instr.index 30 (.agg #[.int .i64 4, .int .i64 8, .int .i64 16, .int .i64 2, .int .i64 1, .int .i64 4, .int .i64 1, .int .i64 1]) (.int .i64 5)).run Tryd.prog w = .ok (.int .i64 4) w := hx
  clear hx
  clear hL k1 k2
  go_enter Tryd.func5, Tryd.ntmps5
  go_wp2_with fail
  refine (c1.out _ HT.out).mono ?_
  rintro e w1 ⟨rfl, b1⟩
  have s1 := b1.size
  go_wp2_with fail
  obtain ⟨wa, hwa⟩ : ∃ wa, wa = w1.alloc (.cells #[.int .i64 7, .int .i64 0, .int .i64 z] 25) := ⟨_, rfl⟩
  rw [← hwa]
  have B0 := hide (by rw [hwa]; exact b1.alloc s1 _ : Below w.heap.size w wa)
  have hs : w1.heap.size < wa.heap.size := by rw [hwa]; simp
  have d0 := kept_cell (by rw [hwa]; simp : wa.cell? ⟨w1.heap.size, 0, none⟩ = some (.int .i64 7)) hs
  have d1 := kept_cell (by rw [hwa]; simp : wa.cell? ⟨w1.heap.size, 1, none⟩ = some (.int .i64 0)) hs
  have d2 := kept_cell (by rw [hwa]; simp : wa.cell? ⟨w1.heap.size, 2, none⟩ = some (.int .i64 z)) hs
  have HA := hide (HT.out.next B0.out)
  clear hwa b1 s1 HT
  haveI := kept_some wa
  refine wp_region_kept (by kernel_rfl) (by kernel_rfl) ?_
  repeat (go_big_quiet_step ((first
    | (go_at_call 8; exact kept_call (c2.out _ (HA.out.next (Kept.below _))))
    | (go_at_call 9; exact kept_same (c3.out _))
    | (go_at_call 10; exact kept_same (c4.out _)))))
  refine wpQuiet_nil ?_
  rintro _ ⟨wk, rfl⟩
  go_wp2
  go_ret
  exact ⟨rfl, bnext B0.out wk.below⟩
theorem ports_6 (a0 a1 a : Int) (w : World) (hL : HasPorts w) (ek : bits .and .i64 a0 7 = 6) (ea : bits .and .i64 a1 1023 = a) (h0 : 0 ≤ a) (h1 : a < 1024)
    (k1 : ∀ w, HasPorts w → Calls Tryd.prog 8 #[.int .i64 (2095104 + a)] w fun e w' => e = .returned (.agg #[.int .i64 8, .int .i64 0, .int .i64 0]) ∧ Below w.heap.size w w') :
    Calls Tryd.prog 5 #[.int .i64 a0, .int .i64 a1] w fun e w' => e = .returned (.bool true) ∧ Below w.heap.size w w' := by
  have HT := hide hL
  have c1 := hide k1
  have hx := many_index 6 (by decide)
  have hy : ∀ w : World, (Instr.index 30 (.agg #[.int .i64 4, .int .i64 8, .int .i64 16, .int .i64 2, .int .i64 1, .int .i64 4, .int .i64 1, .int .i64 1]) (.int .i64 6)).run Tryd.prog w = .ok (.int .i64 1) w := hx
  clear hx hL k1
  go_enter Tryd.func5, Tryd.ntmps5
  go_wp2_with fail
  refine (c1.out _ HT.out).mono ?_
  rintro e w1 ⟨rfl, b1⟩
  have B1 := hide (b1.alloc b1.size (.cells #[.int .i64 8, .int .i64 0, .int .i64 0] 25))
  clear b1
  go_wp2_with fail
  go_ret
  exact ⟨rfl, B1.out⟩
theorem ports_7 (a0 a1 a : Int) (w : World) (hL : HasPorts w) (ek : bits .and .i64 a0 7 = 7) (ea : bits .and .i64 a1 1023 = a) (h0 : 0 ≤ a) (h1 : a < 1024)
    (k1 : ∀ w, HasPorts w → Calls Tryd.prog 8 #[.int .i64 (2096128 + a)] w fun e w' => e = .returned (.agg #[.int .i64 8, .int .i64 0, .int .i64 0]) ∧ Below w.heap.size w w') :
    Calls Tryd.prog 5 #[.int .i64 a0, .int .i64 a1] w fun e w' => e = .returned (.bool true) ∧ Below w.heap.size w w' := by
  have HT := hide hL
  have c1 := hide k1
  have hx := many_index 7 (by decide)
  have hy : ∀ w : World, (Instr.index 30 (.agg #[.int .i64 4, .int .i64 8, .int .i64 16, .int .i64 2, .int .i64 1, .int .i64 4, .int .i64 1, .int .i64 1]) (.int .i64 7)).run Tryd.prog w = .ok (.int .i64 1) w := hx
  clear hx hL k1
  go_enter Tryd.func5, Tryd.ntmps5
  go_wp2_with fail
  refine (c1.out _ HT.out).mono ?_
  rintro e w1 ⟨rfl, b1⟩
  have B1 := hide (b1.alloc b1.size (.cells #[.int .i64 8, .int .i64 0, .int .i64 0] 25))
  clear b1
  go_wp2_with fail
  go_ret
  exact ⟨rfl, B1.out⟩

theorem at_port (p k : Int) (w : World) (hT : HasPorts w) (h : 2088960 + 1024 * k ≤ p) (h1 : p < 2088960 + 1024 * k + 1024) (k0 : 0 ≤ k) (k1 : k < 6) (x : Int) (hx : x = 2 + k) (z : Int)
    (hz : (if x = 2 ∨ x = 7 then p % 4 else if x = 3 then p % 8 else if x = 4 then p % 16 else if x = 5 then p % 2 else 0) = z) :
    Calls Tryd.prog 8 #[.int .i64 p] w fun e w' => e = .returned (.agg #[.int .i64 x, .int .i64 0, .int .i64 z]) ∧ Below w.heap.size w w' := by
  have ek : kindW p = x := by
    unfold kindW
    rw [if_neg (by omega), if_neg (by omega), if_neg (by omega), if_neg (by omega), hx]
    omega
  have eg : pageW p = 0 := by unfold pageW; rw [if_neg (by omega)]
  have ez : atW p = z := by
    unfold atW
    rw [ek, if_neg (by omega)]
    exact hz
  have c := where_any p w hT
  rw [ek, eg, ez] at c
  exact c
theorem regionPorts_walk (a0 a1 : Int) (w : World) (w0 : (Lit.int .i64 a0).wf = true) (w1 : (Lit.int .i64 a1).wf = true) (hL : HasPorts w) :
    Calls Tryd.prog 5 #[.int .i64 a0, .int .i64 a1] w fun e w' => e = .returned (.bool true) ∧ Below w.heap.size w w' := by
  have ek := and_7 a0
  have ea := and_1023 a1
  obtain ⟨k, hk⟩ : ∃ k, k = a0 % 8 := ⟨_, rfl⟩
  obtain ⟨a, ha⟩ : ∃ a, a = a1 % 1024 := ⟨_, rfl⟩
  rw [← hk] at ek
  rw [← ha] at ea
  have A : 0 ≤ a ∧ a < 1024 := by omega
  have K : k = 0 ∨ k = 1 ∨ k = 2 ∨ k = 3 ∨ k = 4 ∨ k = 5 ∨ k = 6 ∨ k = 7 := by omega
  clear hk ha w0 w1
  rcases K with rfl | rfl | rfl | rfl | rfl | rfl | rfl | rfl
  · exact ports_0 a0 a1 a (a % 4) w hL ek ea A.1 A.2 rfl (by omega) (by omega) (fun w hT => at_port _ 0 w hT (by omega) (by omega) (by decide) (by decide) 2 rfl _ (by show (2088960 + a) % 4 = a % 4; omega))
      (fun w hT => at_port _ 0 w hT (by omega) (by omega) (by decide) (by decide) 2 rfl _ (by show (2088960 + a % 4) % 4 = a % 4; omega))
  · exact ports_1 a0 a1 a (a % 8) w hL ek ea A.1 A.2 rfl (by omega) (by omega) (fun w hT => at_port _ 1 w hT (by omega) (by omega) (by decide) (by decide) 3 rfl _ (by show (2089984 + a) % 8 = a % 8; omega))
      (fun w hT => at_port _ 1 w hT (by omega) (by omega) (by decide) (by decide) 3 rfl _ (by show (2089984 + a % 8) % 8 = a % 8; omega))
  · exact ports_2 a0 a1 a (a % 16) w hL ek ea A.1 A.2 rfl (by omega) (by omega) (fun w hT => at_port _ 2 w hT (by omega) (by omega) (by decide) (by decide) 4 rfl _ (by show (2091008 + a) % 16 = a % 16; omega))
      (fun w hT => at_port _ 2 w hT (by omega) (by omega) (by decide) (by decide) 4 rfl _ (by show (2091008 + a % 16) % 16 = a % 16; omega))
  · exact ports_3 a0 a1 a (a % 2) w hL ek ea A.1 A.2 rfl (by omega) (by omega) (fun w hT => at_port _ 3 w hT (by omega) (by omega) (by decide) (by decide) 5 rfl _ (by show (2092032 + a) % 2 = a % 2; omega))
      (fun w hT => at_port _ 3 w hT (by omega) (by omega) (by decide) (by decide) 5 rfl _ (by show (2092032 + a % 2) % 2 = a % 2; omega))
  · exact ports_4 a0 a1 a w hL ek ea A.1 A.2 (fun w hT => at_port _ 4 w hT (by omega) (by omega) (by decide) (by decide) 6 rfl _ rfl) (fun w hT => at_port _ 4 w hT (by decide) (by decide) (by decide) (by decide) 6 rfl _ rfl)
  · exact ports_5 a0 a1 a (a % 4) w hL ek ea A.1 A.2 rfl (by omega) (by omega) (fun w hT => at_port _ 5 w hT (by omega) (by omega) (by decide) (by decide) 7 rfl _ (by show (2094080 + a) % 4 = a % 4; omega))
      (fun w hT => at_port _ 5 w hT (by omega) (by omega) (by decide) (by decide) 7 rfl _ (by show (2094080 + a % 4) % 4 = a % 4; omega))
  · exact ports_6 a0 a1 a w hL ek ea A.1 A.2 (fun w hT => where_port (2095104 + a) 8 0 w hT (by omega) (by omega) fun w _ => port_out _ w (by omega) (by omega))
  · exact ports_7 a0 a1 a w hL ek ea A.1 A.2 (fun w hT => where_port (2096128 + a) 8 0 w hT (by omega) (by omega) fun w _ => port_out _ w (by omega) (by omega))

set_option maxRecDepth 100000 in
theorem regionPorts_lifted (os : Os) (started : os.Started) (H : Type) (enc : TypeId × Value → H) :
    ReturnsInHanded {} Tryd.checked os 5 .any (fun w args => (Rows.regionPortsSpec.pre enc Tryd.prog Tryd.f5 [] false w args ∧ laidMetH Tryd.prog laidReg w) ∧ sizedMet enc Tryd.prog Tryd.f5 (OpenSpec.ofChange Rows.regionPortsSpec) false w args)
      (Rows.regionPortsSpec.post enc Tryd.prog Tryd.f5 false true false false) := by
  refine returnsInHanded_of_change_and (C := Tryd.checked) (X := fun w _ => laidMetH Tryd.prog laidReg w) (fun _ _ _ hh h => h.of_heap hh) own started (by kernel_rfl) Tryd.func5
    (ChangeSpec.witness_at (enc := enc) (C := Tryd.checked) (os := os) (X := fun w _ => laidMetH Tryd.prog laidReg w) false (laidWorld os) #[.int .i64 0, .int .i64 0] 8 rfl (by kernel_rfl) (by kernel_rfl) (by kernel_rfl) (by kernel_rfl) (by kernel_rfl) (laidWorld_reg os _)) ?_
  intro W base args ds gs before hval0 hW _ _ hL _
  have hval : ∀ (j : Nat) t v, Tryd.f5.params[j]? = some t → args[j]? = some v → Value.okWide Tryd.prog W .any base t v := hval0
  have hW' := hW
  obtain ⟨p, q, hA0, hV, rfl, hfz, hnd⟩ := hW
  have hA : DataW.TrodAll enc Tryd.prog W 0 (fun _ => true) true Tryd.f5.params.toList args.toList ds p := hA0
  rw [Tryd.params5] at hA hval
  obtain ⟨v0, vs0, d0, ds0, p0, q0, hargs, rfl, rfl, h0, r0⟩ := trodAll_cons hA
  obtain ⟨v1, vs1, d1, ds1, p1, q1, rfl, rfl, rfl, h1, r1⟩ := trodAll_cons r0
  obtain ⟨rfl, rfl, rfl⟩ := trodAll_nil r1
  obtain rfl : args = #[v0, v1] := by cases args; simp_all
  obtain ⟨rfl, rfl⟩ := trodVars_none hV
  obtain ⟨a0, rfl, rfl, rfl, w0⟩ := open_int Tryd.underlying3 (hval 0 3 v0 rfl rfl) h0
  obtain ⟨a1, rfl, rfl, rfl, w1⟩ := open_int Tryd.underlying3 (hval 1 3 v1 rfl rfl) h1
  clear hA0 hval0
  refine (regionPorts_walk a0 a1 W w0 w1 (laid_reg hL)).mono fun e W' ⟨he, bel⟩ => ?_
  subst he
  exact ⟨_, rfl, _, _, _, [], _, [], hW', trodAll_mk1 (shut_bool Tryd.underlying4 _), (trodAll_cons_mk (shut_int Tryd.underlying3 w0) (trodAll_cons_mk (shut_int Tryd.underlying3 w1) trodAll_mk0)), rfl, bel.frame _, fun h => by cases h⟩

theorem regionPorts_over : Rows.regionPortsRow.holds Tryd.pinned (OpenSpec.ofChange Rows.regionPortsSpec) :=
  OpenClaim.holds_of_wide 5 Tryd.f5 rfl rfl rfl rfl rfl rfl rfl ⟨rfl, rfl, rfl, rfl, rfl⟩ rfl rfl rfl rfl rfl (by kernel_rfl) Tryd.func5 (by kernel_rfl)
    (of_decide_eq_true (by kernel_rfl)) (by unfold Func.isWrapper; first | (rw [if_pos (by decide +kernel)]; kernel_rfl) | (rw [if_neg (by decide +kernel)]; exact ⟨rfl, rfl⟩))
    (fun os started H enc _ => regionPorts_lifted os started H enc)

theorem regionPorts_row : Rows.RegionPortsSaid := regionPorts_over

theorem regionPorts_holds : Rows.RegionPortsCardSaid :=
  Claim7.holds_tied_plain_at .later [] [.data] true (true, "65727b1b36d0c9c5ed185f47aec5976cd43f872a9dff037c22ecfb625d67ab03") false
    regionPorts_row (fun _ h => by cases h) (by kernel_rfl) (fun _ h => by cases h) regionPorts_row_tie rfl ⟨rfl, rfl⟩ (by kernel_rfl) rfl
    (fun f fn hf hfn => by
      obtain rfl : f = 5 := Option.some.inj ((show Tryd.prog.funcNamed "phosphor/phosphorlaw06.RegionPorts" = some 5 by kernel_rfl).symm.trans hf) |>.symm
      obtain rfl : fn = Tryd.f5 := (Option.some.inj (Tryd.func5.symm.trans hfn)).symm
      exact ⟨by kernel_rfl, fun j t ht => by
        rw [Tryd.params5] at ht
        rcases j with _ | _ | j
        · obtain rfl : t = 3 := by simpa using ht.symm
          exact (show Tryd.prog.wantsStandIn 3 = false by kernel_rfl)
        · obtain rfl : t = 3 := by simpa using ht.symm
          exact (show Tryd.prog.wantsStandIn 3 = false by kernel_rfl)
        · simp at ht⟩)
    (by kernel_rfl)
#print axioms regionPorts_holds
end Go.Proofs.YtijidlhfaifbfaaDoor
