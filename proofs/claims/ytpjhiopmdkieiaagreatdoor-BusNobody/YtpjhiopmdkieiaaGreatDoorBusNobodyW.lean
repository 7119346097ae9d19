/- The walk of BusNobody. -/
import Derived.Test.YtpjhiopmdkieiaaGreatDoorBus24z
import Derived.Test.YtpjhiopmdkieiaaGreatDoorBus24m
import Derived.Test.YtpjhiopmdkieiaaGreatDoorBusLaid
namespace Go.Proofs.YtpjhiopmdkieiaaGreatDoor
open Go.Proofs.YtpjhiopmdkieiaaGreatDoor.B4 Go.Proofs.YtpjhiopmdkieiaaGreatDoor.C3 Go.Proofs.YtpjhiopmdkieiaaGreatDoor.G6 Go.Proofs.YtpjhiopmdkieiaaGreatDoor.I11 Go.Proofs.YtpjhiopmdkieiaaGreatDoor.L24 Go.Proofs.YtpjhiopmdkieiaaGreatDoor.M5 Go.Proofs.YtpjhiopmdkieiaaGreatDoor.P22 Go.Proofs.YtpjhiopmdkieiaaGreatDoor.R15 Go.Proofs.YtpjhiopmdkieiaaGreatDoor.T10 Go.Proofs.YtpjhiopmdkieiaaGreatDoor.W13
open Go.RowKit
set_option linter.unusedVariables false
set_option maxHeartbeats 2000000 in
theorem busNobody_walk (a0 a1 : Int) (W : World) (w0 : (Lit.int .i64 a0).wf = true) (w1 : (Lit.int .i64 a1).wf = true) (hL : Tabs W ∧ HasErr W) :
    Calls Tryz.prog 4 #[.int .i64 a0, .int .i64 a1] W fun e w' => e = .returned (.bool true) ∧ Below W.heap.size W w' := by
  have HT := hide hL
  clear hL w0 w1
  set_option maxRecDepth 20000 in
  go_enter Tryz.func4, Tryz.ntmps4
  set_option maxRecDepth 20000 in
  go_wp2_with fail
  refine (new_none _).mono ?_
  rintro e w1 ⟨rfl, hw⟩
  subst w1
  set_option maxRecDepth 20000 in
  go_wp2_with fail
  refine (new_plain (cell_of_row _ _ 0 _ _ _ (heap_alloc_new _ _))).mono ?_
  rintro e w1 ⟨rfl, hw⟩
  subst w1
  set_option maxRecDepth 20000 in
  go_wp2_with (first
    | (refine wpList_built rfl 64 _ rfl #[] (by simp) _ built_0 ?_
       obtain ⟨R, hR⟩ : ∃ R, rowF (segs L0) 9263 = R := ⟨_, rfl⟩
       rw [hR]
       replace hR := hide hR))
  refine under_name fun w3 hw3 => ?_
  have Z3 := hide (show HasF 64 w3 (W.heap.size + 1) 9263 (segs L0) by
    rw [hw3]
    unfold HasF
    rw [hR.out]
    exact ((Below.refl _ _).alloc (Nat.le_refl _) _).block _ (by simp) |>.trans (by simpa using heap_alloc_new (W.alloc (.cells #[.slice none 0 0] 85)) (.cells R 64)))
  have hs : w3.heap[W.heap.size + 1 + 1]? = some (.cells #[.pointer none, .pointer (some ⟨W.heap.size + 1, 0, none⟩)] 24 (0, 0)) := by
    rw [hw3]
    have k := heap_alloc_new ((W.alloc (.cells #[.slice none 0 0] 85)).alloc (.cells R 64)) (.cells #[.pointer none, .pointer (some ⟨W.heap.size + 1, 0, none⟩)] 24)
    rw [show ((W.alloc (.cells #[.slice none 0 0] 85)).alloc (.cells R 64)).heap.size = W.heap.size + 1 + 1 by simp] at k
    exact k
  have S0 : w3.cell? ⟨W.heap.size + 1 + 1, 0, none⟩ = some (.pointer none) := (cell_of_row _ _ 0 _ _ _ hs).trans rfl
  have S1 : w3.cell? ⟨W.heap.size + 1 + 1, 1, none⟩ = some (.pointer (some ⟨W.heap.size + 1, 0, none⟩)) := (cell_of_row _ _ 1 _ _ _ hs).trans rfl
  clear hs
  have B3 := hide (show Below W.heap.size W w3 by
    rw [hw3]
    exact (((Below.refl _ W).alloc (Nat.le_refl _) _).alloc (by simp) _).alloc (by simp; omega) _)
  clear hw3
  generalize W.heap.size + 1 + 1 = y at *
  generalize W.heap.size + 1 = z at *
  have z3 : w3.cell? ⟨z, 278, none⟩ = some (.int .i64 0) := Z3.out.get1 3 (L := L0) rfl (a := 278) (of_decide_eq_true (by kernel_rfl)) (by decide)
  have z8 : w3.cell? ⟨z, 288, none⟩ = some (.int .u8 0) := Z3.out.get 8 (L := L0) rfl 5 (by decide) (a := 288) (of_decide_eq_true (by kernel_rfl)) (by decide)
  have z13 : w3.cell? ⟨z, 9246, none⟩ = some (.int .i64 0) := Z3.out.get 13 (L := L0) rfl 1 (by decide) (a := 9246) (of_decide_eq_true (by kernel_rfl)) (by decide)
  have z6 : w3.cell? ⟨z, 281, none⟩ = some (.pointer none) := Z3.out.get1 6 (L := L0) rfl (a := 281) (of_decide_eq_true (by kernel_rfl)) (by decide)
  have MZ := hide (missing_plain z6)
  have MN := hide (missing_none w3)
  clear z6 Z3 hR
  go_loopw [20] (fun s20 wr => ∃ k : Int, (k = 0 ∨ k = 1 ∨ k = 2) ∧ s20 = .int .i64 k ∧ wr = w3) (fun s20 _ => (2 - intOf s20).toNat)
  case atStart => exact ⟨0, .inl rfl, rfl, rfl⟩
  case round =>
    obtain ⟨k, hk, rfl, rfl⟩ := hrel
    rcases hk with rfl | rfl | rfl
    · skip
      set_option maxRecDepth 20000 in
      go_wp2_with fail
      refine (write_miss MN.out a0 a1).mono ?_
      rintro e w' ⟨rfl, hw⟩
      subst w'
      set_option maxRecDepth 20000 in
      go_wp2_with fail
      refine (settle_miss MN.out).mono ?_
      rintro e w' ⟨rfl, hw⟩
      subst w'
      set_option maxRecDepth 20000 in
      go_wp2_with fail
      refine (tell_miss MN.out a1 true).mono ?_
      rintro e w' ⟨rfl, hw⟩
      subst w'
      set_option maxRecDepth 20000 in
      go_wp2_with fail
      refine (read_miss MN.out a0).mono ?_
      rintro e w' ⟨rfl, hw⟩
      subst w'
      set_option maxRecDepth 20000 in
      go_wp2_with fail
      go_roundw
      case rel => exact ⟨1, .inr (.inl rfl), by go_num, by first | rfl | trivial⟩
      case measure => simp [intOf]
    · skip
      set_option maxRecDepth 20000 in
      go_wp2_with fail
      refine (write_miss MZ.out a0 a1).mono ?_
      rintro e w' ⟨rfl, hw⟩
      subst w'
      set_option maxRecDepth 20000 in
      go_wp2_with fail
      refine (settle_miss MZ.out).mono ?_
      rintro e w' ⟨rfl, hw⟩
      subst w'
      set_option maxRecDepth 20000 in
      go_wp2_with fail
      refine (tell_miss MZ.out a1 true).mono ?_
      rintro e w' ⟨rfl, hw⟩
      subst w'
      set_option maxRecDepth 20000 in
      go_wp2_with fail
      refine (read_miss MZ.out a0).mono ?_
      rintro e w' ⟨rfl, hw⟩
      subst w'
      set_option maxRecDepth 20000 in
      go_wp2_with fail
      go_roundw
      case rel => exact ⟨2, .inr (.inr rfl), by go_num, by first | rfl | trivial⟩
      case measure => simp [intOf]
    · clear MZ MN z3 z8 z13 S0 S1
      set_option maxRecDepth 20000 in
      go_wp2_with fail
      refine (machine_1 (HT.out.1.next B3.out) (HT.out.2.next B3.out)).mono ?_
      rintro e w4 ⟨b, v, c, d, bs, rfl, hl, x4, ⟨lb, lv⟩, b4⟩
      rw [lb_ml] at x4
      have X4 := hide x4
      have B4 := hide (bnext B3.out b4)
      have NB := hide (show ∀ k, EX b v k → W.heap.size ≤ k from fun k e => by rcases e with rfl | rfl; exact Nat.le_trans B3.out.size lb; exact Nat.le_trans B3.out.size lv)
      clear x4 b4 lb lv hl
      set_option maxRecDepth 20000 in
      go_wp2_with fail
      refine (wr_ram X4.out 2031621 (by decide) (by decide) 5 (by decide) ml_8 7 7 (by decide)).mono ?_
      rintro e w5 ⟨rfl, x5, o5⟩
      have X5 := hide x5
      have B5 := hide (B4.out.trans (o5.below NB.out B4.out.size))
      clear x5 o5 X4 B4
      set_option maxRecDepth 20000 in
      go_wp2_with fail
      refine (rd_ram X5.out 2031621 (by decide) (by decide) 5 (by decide) (set_same ml_8 _) (x := 7) rfl (by decide) (by decide)).mono ?_
      rintro e w6 ⟨rfl, x6, o6⟩
      have B6 := hide (B5.out.trans (o6.below NB.out B5.out.size))
      clear x6 o6 X5 B5
      set_option maxRecDepth 20000 in
      go_wp2_with fail
      go_ret
      exact ⟨rfl, B6.out⟩
end Go.Proofs.YtpjhiopmdkieiaaGreatDoor
