/- The program's machine: what reads the colours, the timer, the pads and the interrupts. -/
import Derived.Test.YthelklkfcllddaaGreatDoorTopCardsJ19
namespace Go.Proofs.YthelklkfcllddaaGreatDoor.L24
set_option maxRecDepth 20000
open B4 C3 G6 R15 W13
open Go.RowKit
set_option linter.unusedVariables false
set_option maxHeartbeats 1000000 in
theorem read_rom {w : World} {b v c d : Nat} {L : List (Nat × (Nat → Value))} {bs : List Int} {f : Nat → Int} {wr rd st lo bu : Int} (h : HasX w b v c d L bs f wr rd st lo bu) (p g a : Int) (KW : ∀ w, HasPorts w → Calls Tryz.prog 8 #[.int .i64 p] w fun e w' => e = Ending.returned (.agg #[.int .i64 0, .int .i64 g, .int .i64 a]) ∧ Below w.heap.size w w') {x : Int} {R : World → Prop} (KR : ∀ w1, Below w.heap.size w w1 → Calls Tryz.prog 30 #[.pointer (some ⟨b, 0, none⟩), .agg #[.int .i64 0, .int .i64 g, .int .i64 a]] w1 fun e w' => e = Ending.returned (.int .i64 x) ∧ R w') :
    Calls Tryz.prog 10 #[.pointer (some ⟨b, 0, none⟩), .int .i64 p] w fun e w' => e = Ending.returned (.int .i64 x) ∧ R w' := by
  have MI := hide (missing_no h)
  have HT := hide h.tabs
  have W0 := hide KW
  have R0 := hide KR
  clear h KW KR
  go_enter Tryz.func10, Tryz.ntmps10
  go_wp2_with (first
    | (go_at_call 28; refine MI.out.mono ?_; rintro e w1 ⟨rfl, b1⟩; have B1 := hide b1; have W1 := hide (W0.out w1 (HT.out.next b1).2.1); clear b1 MI W0)
    | (go_at_call 8; refine W1.out.mono ?_; rintro e w2 ⟨rfl, b2⟩; have B2 := hide (bnext B1.out b2); clear b2 W1 B1)
    | (refine wpList_store_row rfl 67 (.tmp 5) (.tmp 10) rfl w2.heap.size _ rfl rfl 67 _ (heap_alloc_new _ _) (by kernel_rfl) rfl (by kernel_rfl) ?_
       refine under_list fun w3 hw3 => ?_
       have M3 : Hid (w3.heap[w2.heap.size]? = some (.cells #[.int .i64 0, .int .i64 g, .int .i64 a] 67 (0, 0))) := hide (by rw [hw3]; exact setRow_heap _ _ _ _ _ _ (heap_alloc_new _ _))
       have B3 := hide (show Below w.heap.size w w3 by rw [hw3]; exact bnext B2.out (below_setRow ((Below.refl _ _).alloc (Nat.le_refl _) _) (Nat.le_refl _) _))
       have c0 := (cell_of_row w3 w2.heap.size 0 _ _ _ M3.out).trans rfl
       clear hw3 B2)
    | (refine wpList_load_row rfl 67 (.tmp 5) rfl w2.heap.size rfl _ _ _ _ M3.out Tryz.underlying67 rfl (by kernel_rfl) ?_))
  refine (R0.out _ B3.out).mono ?_
  rintro e w4 ⟨rfl, h4⟩
  have H4 := hide h4
  clear h4 R0
  go_wp2
  go_ret
  exact ⟨rfl, H4.out⟩
set_option maxHeartbeats 1000000 in
theorem read_ram {w : World} {b v c d : Nat} {L : List (Nat × (Nat → Value))} {bs : List Int} {f : Nat → Int} {wr rd st lo bu : Int} (h : HasX w b v c d L bs f wr rd st lo bu) (p g a : Int) (KW : ∀ w, HasPorts w → Calls Tryz.prog 8 #[.int .i64 p] w fun e w' => e = Ending.returned (.agg #[.int .i64 1, .int .i64 g, .int .i64 a]) ∧ Below w.heap.size w w') {x : Int} {R : World → Prop} (KR : ∀ w1, Below w.heap.size w w1 → Calls Tryz.prog 31 #[.pointer (some ⟨b, 0, none⟩), .agg #[.int .i64 1, .int .i64 g, .int .i64 a]] w1 fun e w' => e = Ending.returned (.int .i64 x) ∧ R w') :
    Calls Tryz.prog 10 #[.pointer (some ⟨b, 0, none⟩), .int .i64 p] w fun e w' => e = Ending.returned (.int .i64 x) ∧ R w' := by
  have MI := hide (missing_no h)
  have HT := hide h.tabs
  have W0 := hide KW
  have R0 := hide KR
  clear h KW KR
  go_enter Tryz.func10, Tryz.ntmps10
  go_wp2_with (first
    | (go_at_call 28; refine MI.out.mono ?_; rintro e w1 ⟨rfl, b1⟩; have B1 := hide b1; have W1 := hide (W0.out w1 (HT.out.next b1).2.1); clear b1 MI W0)
    | (go_at_call 8; refine W1.out.mono ?_; rintro e w2 ⟨rfl, b2⟩; have B2 := hide (bnext B1.out b2); clear b2 W1 B1)
    | (refine wpList_store_row rfl 67 (.tmp 5) (.tmp 10) rfl w2.heap.size _ rfl rfl 67 _ (heap_alloc_new _ _) (by kernel_rfl) rfl (by kernel_rfl) ?_
       refine under_list fun w3 hw3 => ?_
       have M3 : Hid (w3.heap[w2.heap.size]? = some (.cells #[.int .i64 1, .int .i64 g, .int .i64 a] 67 (0, 0))) := hide (by rw [hw3]; exact setRow_heap _ _ _ _ _ _ (heap_alloc_new _ _))
       have B3 := hide (show Below w.heap.size w w3 by rw [hw3]; exact bnext B2.out (below_setRow ((Below.refl _ _).alloc (Nat.le_refl _) _) (Nat.le_refl _) _))
       have c0 := (cell_of_row w3 w2.heap.size 0 _ _ _ M3.out).trans rfl
       clear hw3 B2)
    | (refine wpList_load_row rfl 67 (.tmp 5) rfl w2.heap.size rfl _ _ _ _ M3.out Tryz.underlying67 rfl (by kernel_rfl) ?_))
  refine (R0.out _ B3.out).mono ?_
  rintro e w4 ⟨rfl, h4⟩
  have H4 := hide h4
  clear h4 R0
  go_wp2
  go_ret
  exact ⟨rfl, H4.out⟩
end Go.Proofs.YthelklkfcllddaaGreatDoor.L24
