/- The program's machine: a write, one theorem a kind of place. -/
import Derived.Test.YthelklkfcllddaaGreatDoorTopCardsJ19
import Derived.Deep.CutRange
namespace Go.Proofs.YthelklkfcllddaaGreatDoor.L24
set_option maxRecDepth 20000
open B4 C3 G6 R15 W13
open Go.RowKit
set_option linter.unusedVariables false
set_option maxHeartbeats 1000000 in
theorem write_rom {w : World} {b v c d : Nat} {L : List (Nat × (Nat → Value))} {bs : List Int} {f : Nat → Int} {wr rd st lo bu : Int} (h : HasX w b v c d L bs f wr rd st lo bu) (p n g a : Int) (KW : ∀ w, HasPorts w → Calls Tryz.prog 8 #[.int .i64 p] w fun e w' => e = Ending.returned (.agg #[.int .i64 0, .int .i64 g, .int .i64 a]) ∧ Below w.heap.size w w') (y : Int) (hy : n % 256 = y) {lt x : Int} (h7 : L[7]? = some (1, fun _ => Value.int .i64 lt)) (hx : latchOf ((bs.length / 8192 : Nat) : Int) lt a = x) : Calls Tryz.prog 11 #[.pointer (some ⟨b, 0, none⟩), .int .i64 p, .int .i64 n] w fun e w' => e = Ending.returned (.tuple #[]) ∧ HasX w' b v c d (L.set 7 (1, fun _ => Value.int .i64 x)) bs f wr rd st lo bu ∧ OnlyE (EX b v) w w' := by
  have E7 := hide h7
  have EX7 := hide hx
  clear h7 hx
  have MI := hide (missing_no h)
  have HX := hide h
  have W0 := hide KW
  have Y0 := hide (fun w => byte_any n w)
  rw [hy] at Y0
  have D0 := hide (fun w => held_any 0 w)
  rw [show decide (4 ≤ (0 : Int) ∧ (0 : Int) ≤ 7) = false by decide] at D0
  clear h KW hy
  go_enter Tryz.func11, Tryz.ntmps11
  go_upto_region 5 with (first
    | (go_at_call 28; refine MI.out.mono ?_; rintro e w1 ⟨rfl, b1⟩; have B1 := hide b1; have W1 := hide (W0.out w1 (HX.out.next b1).tabs.2.1); clear b1 MI W0)
    | (go_at_call 21; refine (Y0.out _).mono ?_; rintro e w' ⟨rfl, hw⟩; subst w')
    | (go_at_call 8; refine W1.out.mono ?_; rintro e w2 ⟨rfl, b2⟩; have B2 := hide (bnext B1.out b2); clear b2 W1 B1)
    | (refine wpList_store_row rfl 67 (.tmp 6) (.tmp 12) rfl w2.heap.size _ rfl rfl 67 _ (heap_alloc_new _ _) (by kernel_rfl) rfl (by kernel_rfl) ?_
       refine under_list fun w3 hw3 => ?_
       have M3 : Hid (w3.heap[w2.heap.size]? = some (.cells #[.int .i64 0, .int .i64 g, .int .i64 a] 67 (0, 0))) := hide (by rw [hw3]; exact setRow_heap _ _ _ _ _ _ (heap_alloc_new _ _))
       have B3 := hide (show Below w.heap.size w w3 by rw [hw3]; exact bnext B2.out (below_setRow ((Below.refl _ _).alloc (Nat.le_refl _) _) (Nat.le_refl _) _))
       have X3 := hide (HX.out.next B3.out)
       have c0 := (cell_of_row w3 w2.heap.size 0 _ _ _ M3.out).trans rfl
       have c2 := (cell_of_row w3 w2.heap.size 2 _ _ _ M3.out).trans rfl
       have NZ := hide (show w2.heap.size ≠ b ∧ w2.heap.size ≠ v from ⟨Nat.ne_of_gt (Nat.lt_of_lt_of_le HX.out.1.lt B2.out.size), Nat.ne_of_gt (Nat.lt_of_lt_of_le HX.out.2.1.lt B2.out.size)⟩)
       clear hw3 B2))
  generalize w2.heap.size = z at *
  have LZ := lt_of_block M3.out
  have hn := X3.out.2.2.2.2.2.2.2.2.1.2
  have i2 := kept_cell c2 LZ
  have i7 := kept_cell (X3.out.1.get1 7 E7.out (a := 282) (X3.out.isB.off 7 rfl) (by decide)) X3.out.1.lt
  have i6 := kept_cell (X3.out.1.get1 6 X3.out.2.2.2.2.2.2.1 (a := 281) (X3.out.isB.off 6 rfl) (by decide)) X3.out.1.lt
  have KP := hide (fun x : Kept w3 => pages_of ⟨c, 0, none⟩ (some ⟨d, 0, none⟩) bs.length bs.length x.val (by omega) (X3.out.next x.below).2.2.1.1)
  have KL := hide (fun x : Kept w3 => latch_any ((bs.length / 8192 : Nat) : Int) lt a x.val (X3.out.next x.below).2.2.2.1.1)
  rw [EX7.out] at KL
  clear EX7
  generalize ((bs.length / 8192 : Nat) : Int) = N at *
  haveI := kept_some w3
  refine wp_region_kept_shut _ _ (show _ = [_, _, _, _, _, _, _, _, _, _, _, _, _, _, _] ++ [_] from rfl) (by kernel_rfl) (by kernel_rfl) (by kernel_rfl) ?_
  repeat (go_big_quiet_step ((first
    | (go_at_call 6; exact kept_same (KP.out _))
    | (go_at_call 12; exact kept_call (KL.out _)))))
  refine wpQuiet_nil ?_
  rintro _ ⟨wk, rfl⟩
  have X4 := hide (X3.out.next wk.below)
  have c7 := i7 wk
  have z7 := X4.out.1.frozen 282
  have M4 := hide ((wk.below.block z LZ).trans M3.out)
  have H5 := hide (X4.out.1.put1 7 E7.out (a := 282) (X4.out.isB.off 7 rfl) (.int .i64 x))
  have O4 := hide (ex_below (b := b) (v := v) (bnext B3.out wk.below))
  generalize wk.val = w4 at *
  clear i2 i7 i6 c0 c2 M3 X3 B3 KP KL
  go_upto_region 22 with fail
  refine under_name fun w5 hw5 => ?_
  have B5 : But b w4 w5 := by rw [hw5]; exact (But.refl b w4).set _ _
  have X5 := hide (X4.out.lay B5 7 E7.out (by rw [hw5]; exact H5.out) (by decide) (by decide))
  have O5 := hide (O4.out.trans (ex_but B5))
  have M5 := B5.obj M4.out NZ.out.1
  have c0 := (cell_of_row w5 z 0 _ _ _ M5).trans rfl
  clear hw5 B5 M5 M4 H5 X4 O4
  go_wp2_with (first | (go_at_call 45; refine (D0.out _).mono ?_; rintro e w' ⟨rfl, hw⟩; subst w'))
  go_end0
  exact ⟨rfl, X5.out, O5.out⟩
end Go.Proofs.YthelklkfcllddaaGreatDoor.L24
