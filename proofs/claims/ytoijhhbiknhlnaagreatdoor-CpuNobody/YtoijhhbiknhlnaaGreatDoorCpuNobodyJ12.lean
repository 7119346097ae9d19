/- Without a machine there is no step: the walk. -/
import Derived.Test.YtoijhhbiknhlnaaGreatDoorCpuNobodyJ02
import Derived.Test.YtoijhhbiknhlnaaGreatDoorRows
import Derived.Test.YtoijhhbiknhlnaaGreatDoorCpuNobodyJ01
import Derived.WalkKit
import Derived.ProofKit
import Derived.Deep.QuietTactic
import Derived.BigQuiet
import Derived.Test.YtoijhhbiknhlnaaGreatDoorCpuNobodyJ03
import Derived.Test.YtoijhhbiknhlnaaGreatDoorCpuNobodyJ04
import Derived.Test.YtoijhhbiknhlnaaGreatDoorCpuNobodyJ05
import Derived.Test.YtoijhhbiknhlnaaGreatDoorCpuNobodyJ06
import Derived.Test.YtoijhhbiknhlnaaGreatDoorProg
import Derived.WalkMore
import Derived.Below
import Derived.OneCell
import Derived.Handy
import Derived.Deep.CutRange
import Derived.Test.YtoijhhbiknhlnaaGreatDoorCpuNobodyJ07
import Derived.RegionTactic
import Derived.Deep.RegionLaw
import Derived.Laws.CopyOwn
import Derived.Stop.Asserts
import Derived.Laws.StructEq
import Derived.Laws.Rows
import Derived.Laws.Tables
import Derived.Laws.ResultCell
import Derived.Test.YtoijhhbiknhlnaaGreatDoorCpuNobodyJ08
import Derived.Test.YtoijhhbiknhlnaaGreatDoorCpuNobodyJ09
import Derived.Test.YtoijhhbiknhlnaaGreatDoorCpuNobodyJ11
namespace Go.Proofs.YtoijhhbiknhlnaaGreatDoor
set_option maxRecDepth 20000
open C3 G6 I11 K9 L24 R15 W13
open Go.RowKit
set_option linter.unusedVariables false
def Miss (p : Value) (w : World) : Prop := ∀ w', Below w.heap.size w w' → Calls Tryz.prog 29 #[p] w' fun e w'' => e = Ending.returned (.bool true) ∧ w'' = w'
theorem Miss.next {p : Value} {w w' : World} (h : Miss p w) (k : Below w.heap.size w w') : Miss p w' := fun w'' k2 => h w'' (bnext k k2)
theorem cmiss_yes {p : Value} {w : World} (K : Miss p w) : Calls Tryz.prog 17 #[p] w fun e w' => e = Ending.returned (.bool true) ∧ w' = w := by
  have R := hide (read_miss (K w (Below.refl _ _)) (-1))
  clear K
  go_enter Tryz.func17, Tryz.ntmps17
  go_wp2_with (first | (go_at_call 28; refine R.out.mono ?_; rintro e w' ⟨rfl, hw⟩; subst w'))
  go_ret
  exact ⟨rfl, rfl⟩
theorem step_miss {p1 : Value} {w : World} (K : Miss p1 w) (a x y s p q : Int) (f : Bool) (l : Int) : Calls Tryz.prog 13 #[.agg #[.int .i64 a, .int .i64 x, .int .i64 y, .int .i64 s, .int .i64 p, .int .i64 q, .bool f, .int .i64 l], p1] w fun e w' => e = Ending.returned (.tuple #[.agg #[.int .i64 a, .int .i64 x, .int .i64 y, .int .i64 s, .int .i64 p, .int .i64 q, .bool f, .int .i64 l], .int .i64 0]) ∧ Below w.heap.size w w' := by
  have K0 := hide K
  clear K
  go_enter Tryz.func13, Tryz.ntmps13
  go_wp2_with (first | (go_at_call 17; refine (cmiss_yes (K0.out.next (by first | exact (Below.refl _ _).alloc (Nat.le_refl _) _ | exact ((Below.refl _ _).alloc (Nat.le_refl _) _).alloc (by simp) _))).mono ?_; rintro e w' ⟨rfl, hw⟩; subst w'))
  refine bodyPost_ret (results_agg_tmp rfl _ _ (w.heap.size + 1) _ _ _ _ rfl (by simpa using heap_alloc_new (w.alloc (.cells #[.int .i64 a, .int .i64 x, .int .i64 y, .int .i64 s, .int .i64 p, .int .i64 q, .bool f, .int .i64 l] 58)) (.cells #[.int .i64 a, .int .i64 x, .int .i64 y, .int .i64 s, .int .i64 p, .int .i64 q, .bool f, .int .i64 l] 58)) Tryz.underlying58 rfl (by kernel_rfl)) rfl ?_
  exact ⟨rfl, ((Below.refl _ _).alloc (Nat.le_refl _) _).alloc (by simp) _⟩
theorem start_miss {p1 : Value} {w : World} (K : Miss p1 w) : Calls Tryz.prog 14 #[p1] w fun e w' => e = Ending.returned (.agg #[.int .i64 0, .int .i64 0, .int .i64 0, .int .i64 0, .int .i64 0, .int .i64 0, .bool false, .int .i64 0]) ∧ Below w.heap.size w w' := by
  have K0 := hide K
  clear K
  go_enter Tryz.func14, Tryz.ntmps14
  go_wp2_with (first | (go_at_call 17; refine (cmiss_yes (K0.out.next (by first | exact Below.refl _ _ | exact (Below.refl _ _).alloc (Nat.le_refl _) _ | exact ((Below.refl _ _).alloc (Nat.le_refl _) _).alloc (by simp) _))).mono ?_; rintro e w' ⟨rfl, hw⟩; subst w'))
  refine bodyPost_ret (results_cell_row rfl _ _ w.heap.size _ _ _ _ rfl (heap_alloc_new w _) Tryz.underlying58 rfl (by kernel_rfl)) rfl ?_
  exact ⟨rfl, (Below.refl _ _).alloc (Nat.le_refl _) _⟩
theorem ticks_is (a x y s p q : Int) (f : Bool) (l n : Int) (hn : 0 ≤ n ∧ n < 16777216) (w : World) : Calls Tryz.prog 15 #[.agg #[.int .i64 a, .int .i64 x, .int .i64 y, .int .i64 s, .int .i64 p, .int .i64 q, .bool f, .int .i64 l], .int .i64 n] w fun e w' => e = Ending.returned (.int .i64 (if f = true then 3 * n else 12 * n)) ∧ Below w.heap.size w w' := by
  cases f
  · set_option maxRecDepth 20000 in
    go_enter Tryz.func15, Tryz.ntmps15
    go_wp2
    go_ret
    exact ⟨ret_int (by simp), (Below.refl _ _).alloc (Nat.le_refl _) _⟩
  · set_option maxRecDepth 20000 in
    go_enter Tryz.func15, Tryz.ntmps15
    go_wp2
    go_ret
    exact ⟨ret_int (by simp), (Below.refl _ _).alloc (Nat.le_refl _) _⟩
theorem cell_keep {w w' : World} {g : Nat} {cs : Array Value} {t : TypeId} (k : Below w.heap.size w w') (h : w.heap[g]? = some (.cells cs t (0, 0))) (i : Nat) : w'.cell? ⟨g, i, none⟩ = cs[i]? := cell_of_row w' g i _ _ _ ((k.block g (lt_of_block h)).trans h)
set_option maxHeartbeats 2000000 in
theorem cpuNobody_walk (a x y s p q : Int) (W : World) (w0 : (Lit.int .i64 a).wf = true) (w1 : (Lit.int .i64 x).wf = true) (w2 : (Lit.int .i64 y).wf = true) (w3 : (Lit.int .i64 s).wf = true) (w4 : (Lit.int .i64 p).wf = true) (w5 : (Lit.int .i64 q).wf = true) (hL : True) :
    Calls Tryz.prog 3 #[.agg #[.int .i64 a, .int .i64 x, .int .i64 y, .int .i64 s, .int .i64 p, .int .i64 q]] W fun e w' => e = .returned (.bool true) ∧ Below W.heap.size W w' := by
  clear hL w0 w1 w2 w3 w4 w5
  go_enter Tryz.func3, Tryz.ntmps3
  go_wp2_with (first
    | (refine wpList_built rfl 55 _ rfl #[] (by simp) _ built_0 ?_
       obtain ⟨R, hR⟩ : ∃ R, rowF (segs L0) 9263 = R := ⟨_, rfl⟩
       rw [hR]
       replace hR := hide hR))
  refine under_name fun w3 hw3 => ?_
  have Z3 := hide (show HasF 55 w3 (W.heap.size + 1) 9263 (segs L0) by
    rw [hw3]
    unfold HasF
    rw [hR.out]
    exact ((Below.refl _ _).alloc (Nat.le_refl _) _).block _ (by simp) |>.trans (by simpa using heap_alloc_new (W.alloc (.cells #[.int .i64 a, .int .i64 x, .int .i64 y, .int .i64 s, .int .i64 p, .int .i64 q] 23)) (.cells R 55)))
  have hs : w3.heap[W.heap.size + 1 + 1]? = some (.cells #[.pointer none, .pointer (some ⟨W.heap.size + 1, 0, none⟩)] 24 (0, 0)) := by
    rw [hw3]
    have k := heap_alloc_new ((W.alloc (.cells #[.int .i64 a, .int .i64 x, .int .i64 y, .int .i64 s, .int .i64 p, .int .i64 q] 23)).alloc (.cells R 55)) (.cells #[.pointer none, .pointer (some ⟨W.heap.size + 1, 0, none⟩)] 24)
    rw [show ((W.alloc (.cells #[.int .i64 a, .int .i64 x, .int .i64 y, .int .i64 s, .int .i64 p, .int .i64 q] 23)).alloc (.cells R 55)).heap.size = W.heap.size + 1 + 1 by simp] at k
    exact k
  have hr : w3.heap[W.heap.size]? = some (.cells #[.int .i64 a, .int .i64 x, .int .i64 y, .int .i64 s, .int .i64 p, .int .i64 q] 23 (0, 0)) := by
    rw [hw3, heap_alloc_old _ _ (by simp; omega), heap_alloc_old _ _ (by simp)]
    exact heap_alloc_new _ _
  have HR := hide (fun (w' : World) (k : Below w3.heap.size w3 w') (i : Nat) => cell_keep k hr i)
  have HS := hide (fun (w' : World) (k : Below w3.heap.size w3 w') (i : Nat) => cell_keep k hs i)
  have B3 := hide (show Below W.heap.size W w3 by
    rw [hw3]
    exact (((Below.refl _ W).alloc (Nat.le_refl _) _).alloc (by simp) _).alloc (by simp; omega) _)
  have LZ := hide (show W.heap.size < w3.heap.size ∧ W.heap.size + 1 + 1 < w3.heap.size by rw [hw3]; simp; omega)
  clear hw3 hs hr
  have MZ : Hid (Miss (.pointer (some ⟨W.heap.size + 1, 0, none⟩)) w3) := hide (fun w' k => missing_plain ((cell_keep k Z3.out 281).trans (show (rowF (segs L0) 9263)[281]? = some (.pointer none) from ((cell_of_row w3 _ 281 _ _ _ Z3.out).symm.trans (Z3.out.get1 6 (L := L0) rfl (a := 281) (of_decide_eq_true (by kernel_rfl)) (by decide))))))
  have MN : Hid (Miss (.pointer none) w3) := hide (fun w' k => missing_none w')
  clear Z3 hR
  generalize W.heap.size + 1 + 1 = g2 at *
  generalize W.heap.size + 1 = z at *
  go_loopw [11] (fun s11 wr => ∃ k : Int, (k = 0 ∨ k = 1 ∨ k = 2) ∧ s11 = .int .i64 k ∧ Below w3.heap.size w3 wr) (fun s11 _ => (2 - intOf s11).toNat)
  case atStart => exact ⟨0, .inl rfl, rfl, Below.refl _ _⟩
  case round =>
    obtain ⟨k, hk, rfl, bel⟩ := hrel
    rcases hk with rfl | rfl | rfl
    · skip
      have BL := hide bel
      clear bel
      have r0 := HR.out wr BL.out 0
      have r1 := HR.out wr BL.out 1
      have r2 := HR.out wr BL.out 2
      have r3 := HR.out wr BL.out 3
      have r4 := HR.out wr BL.out 4
      have r5 := HR.out wr BL.out 5
      have s0 := HS.out wr BL.out 0
      go_wp2_with (first
        | (go_at_call 13; refine (step_miss (MN.out.next BL.out) a x y s p q false 0).mono ?_; rintro e w4 ⟨rfl, b4⟩; have BL4 := hide (bnext BL.out b4); clear b4 BL r0 r1 r2 r3 r4 r5 s0; have r0 := HR.out w4 BL4.out 0; have r1 := HR.out w4 BL4.out 1; have r2 := HR.out w4 BL4.out 2; have r3 := HR.out w4 BL4.out 3; have r4 := HR.out w4 BL4.out 4; have r5 := HR.out w4 BL4.out 5; have l4 : W.heap.size < w4.heap.size := Nat.lt_of_lt_of_le LZ.out.1 BL4.out.size)
        | (go_at_call 14; refine (start_miss (MN.out.next (by exact BL4.out.alloc (BL4.out.size) _))).mono ?_; rintro e w5 ⟨rfl, b5⟩))
      go_roundw
      case rel => exact ⟨1, .inr (.inl rfl), by go_num, bnext (BL4.out.alloc (BL4.out.size) _) b5⟩
      case measure => simp [intOf]
    · skip
      have BL := hide bel
      clear bel
      have r0 := HR.out wr BL.out 0
      have r1 := HR.out wr BL.out 1
      have r2 := HR.out wr BL.out 2
      have r3 := HR.out wr BL.out 3
      have r4 := HR.out wr BL.out 4
      have r5 := HR.out wr BL.out 5
      have s0 := HS.out wr BL.out 1
      go_wp2_with (first
        | (go_at_call 13; refine (step_miss (MZ.out.next BL.out) a x y s p q false 0).mono ?_; rintro e w4 ⟨rfl, b4⟩; have BL4 := hide (bnext BL.out b4); clear b4 BL r0 r1 r2 r3 r4 r5 s0; have r0 := HR.out w4 BL4.out 0; have r1 := HR.out w4 BL4.out 1; have r2 := HR.out w4 BL4.out 2; have r3 := HR.out w4 BL4.out 3; have r4 := HR.out w4 BL4.out 4; have r5 := HR.out w4 BL4.out 5; have l4 : W.heap.size < w4.heap.size := Nat.lt_of_lt_of_le LZ.out.1 BL4.out.size)
        | (go_at_call 14; refine (start_miss (MZ.out.next (by exact BL4.out.alloc (BL4.out.size) _))).mono ?_; rintro e w5 ⟨rfl, b5⟩))
      go_roundw
      case rel => exact ⟨2, .inr (.inr rfl), by go_num, bnext (BL4.out.alloc (BL4.out.size) _) b5⟩
      case measure => simp [intOf]
    · have BL := hide bel
      clear bel
      go_wp2_with (first
        | (go_at_call_of 15 (Value.agg #[.int .i64 0, .int .i64 0, .int .i64 0, .int .i64 0, .int .i64 0, .int .i64 0, .bool true, .int .i64 0]); refine (ticks_is 0 0 0 0 0 0 true 0 2 (by decide) _).mono ?_; rintro e w4 ⟨rfl, b4⟩; have BL4 := hide (bnext BL.out b4); clear b4 BL; rw [if_pos rfl])
        | (go_at_call 15; refine (ticks_is 0 0 0 0 0 0 false 0 2 (by decide) _).mono ?_; rintro e w5 ⟨rfl, b5⟩; have BL5 := hide (bnext BL4.out b5); clear b5 BL4; rw [if_neg (by decide)]))
      all_goals first | (go_ret; exact ⟨rfl, B3.out.trans (BL5.out.mono B3.out.size)⟩) | trace_state
end Go.Proofs.YtoijhhbiknhlnaaGreatDoor
