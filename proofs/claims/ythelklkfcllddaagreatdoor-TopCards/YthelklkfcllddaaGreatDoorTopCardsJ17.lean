/- The program's machine: New, and the law's own machine. -/
import Derived.Test.YthelklkfcllddaaGreatDoorTopCardsJ15
import Derived.Test.YthelklkfcllddaaGreatDoorTopCardsJ16
import Derived.Test.YthelklkfcllddaaGreatDoorRows
import Derived.Test.YthelklkfcllddaaGreatDoorTopCardsJ04
import Derived.Laws.CopyOwn
import Derived.Test.YthelklkfcllddaaGreatDoorTopCardsJ05
namespace Go.Proofs.YthelklkfcllddaaGreatDoor.L24
set_option maxRecDepth 20000
open C3 G6 M5 P22 R15 W13
open Go.RowKit
set_option linter.unusedVariables false
theorem lb_isB (v c : Nat) : IsB (LB v c) := rfl
theorem file_row : (#[.int .i64 0, .int .i64 248, .int .i64 0, .int .i64 0, .int .i64 0, .int .i64 0, .int .i64 0, .int .i64 0] : Array Value) = rowF (iv fl0) 8 := rfl
theorem lt_of_cell {w : World} {c o : Nat} {x : Value} (h : w.cell? ⟨c, o, none⟩ = some x) : c < w.heap.size := cell_lt h
set_option maxHeartbeats 1000000 in
theorem new_is {w : World} {c d : Nat} {bs : List Int} (hc : HasCard w c d bs) (h0 : 1 ≤ bs.length / 8192) (h1 : bs.length ≤ 10000000) (hT : Tabs w) :
    Calls Tryz.prog 5 #[.pointer (some ⟨c, 0, none⟩)] w fun e w' => ∃ b v, e = Ending.returned (.pointer (some ⟨b, 0, none⟩)) ∧ HasX w' b v c d (LB v c) bs (fun _ => 0) 0 0 1 0 0 ∧ (w.heap.size ≤ b ∧ w.heap.size ≤ v) ∧ Below w.heap.size w w' := by
  have KP := hide (pages_of ⟨c, 0, none⟩ (some ⟨d, 0, none⟩) bs.length bs.length w (by omega) hc.1)
  have p2 : (((bs.length / 8192 : Nat) : Int) == 0) = false := by simp; omega
  have P0 := hide (show 1 ≤ bs.length / 8192 ∧ bs.length ≤ 10000000 from ⟨h0, h1⟩)
  have HC := hide hc
  have HT := hide hT
  have F8 := hide M5.fresh_any
  rw [file_row] at F8
  generalize ((bs.length / 8192 : Nat) : Int) = n at *
  clear hc h0 h1 hT
  go_enter Tryz.func5, Tryz.ntmps5
  go_wp2_with (first
    | (go_at_call 6; refine KP.out.mono ?_; rintro e w' ⟨rfl, hw⟩; subst w')
    | (go_at_call 16; refine (R15.fresh_any _).mono ?_; rintro e w1 ⟨rfl, b1⟩; have B1 := hide b1; clear b1)
    | (go_at_call 17; refine (W13.new_any _).mono ?_; rintro e w2 ⟨rfl, h2, b2⟩; have V2 := hide h2; have B2 := hide (bnext B1.out b2); have N2 := hide B1.out.size; clear h2 b2 B1; generalize w1.heap.size = v at *)
    | (refine wpList_built rfl 41 _ rfl #[(0, .agg (rowG 0 fun _ => 0)), (1, .pointer (some ⟨v, 0, none⟩))] (by simp [Act.eval]) _ (built_V v) ?_)
    | (go_at_call 18; refine (F8.out _).mono ?_; rintro e w3 ⟨rfl, b3⟩; have V3 := hide (V2.out.next b3); have B3 := hide (bnext B2.out b3); clear b3 V2 B2)
    | (go_at_call 19; refine (P22.fresh_any _).mono ?_; rintro e w4 ⟨rfl, b4⟩; have V4 := hide (V3.out.next b4); have B4 := hide (bnext B3.out b4); clear b4 V3 B3)
    | (refine wpList_built rfl 63 _ rfl #[(0, .agg (rowF (segs (LV v)) 281)), (1, .pointer (some ⟨c, 0, none⟩)), (4, .agg (rowF (iv fl0) 8)), (6, .agg (rowF (iv freshF) 244)), (11, .int .i64 255)] (by simp [Act.eval]) _ (built_B v c) ?_
       obtain ⟨R, hR⟩ : ∃ R, rowF (segs (LB v c)) 9263 = R := ⟨_, rfl⟩
       rw [hR]
       replace hR := hide hR))
  go_ret
  have X := hasF_new 63 w4 9263 (segs (LB v c))
  rw [hR.out] at X
  have bb := (Below.refl _ w4).alloc (Nat.le_refl _) (.cells R 63)
  have B5 := bnext B4.out bb
  have T5 := HT.out.next B5
  have C5 := HC.out.next B5
  have V5 := V4.out.next bb
  have lb : w.heap.size ≤ w4.heap.size := B4.out.size
  have lv := V4.out.lt
  refine ⟨_, v, rfl, ⟨X, V5, C5, T5, lb_isB v c, rfl, rfl, ⟨?_, ?_, ?_, ?_, ?_, HT.out.high lb, HT.out.high N2.out⟩, P0.out, by decide⟩, ⟨lb, N2.out⟩, B5⟩
  · omega
  · exact Nat.ne_of_gt (Nat.lt_of_lt_of_le (lt_of_cell HC.out.1) lb)
  · exact Nat.ne_of_gt (Nat.lt_of_lt_of_le HC.out.2.1.lt lb)
  · exact Nat.ne_of_gt (Nat.lt_of_lt_of_le (lt_of_cell HC.out.1) N2.out)
  · exact Nat.ne_of_gt (Nat.lt_of_lt_of_le HC.out.2.1.lt N2.out)
end Go.Proofs.YthelklkfcllddaaGreatDoor.L24
