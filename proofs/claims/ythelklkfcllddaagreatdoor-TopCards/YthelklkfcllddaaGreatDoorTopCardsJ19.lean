/- The program's machine: what reads a place, one theorem a kind. -/
import Derived.Test.YthelklkfcllddaaGreatDoorTopCardsJ13
import Derived.Test.YthelklkfcllddaaGreatDoorTopCardsJ01
import Derived.Test.YthelklkfcllddaaGreatDoorTopCardsJ12
import Derived.Test.YthelklkfcllddaaGreatDoorTopCardsJ18
namespace Go.Proofs.YthelklkfcllddaaGreatDoor.L24
set_option maxRecDepth 20000
open B4 C3 G6 R15 W13
open Go.RowKit
set_option linter.unusedVariables false
set_option maxHeartbeats 1000000 in
theorem readRam_is {w : World} {b v c d : Nat} {L : List (Nat × (Nat → Value))} {bs : List Int} {f : Nat → Int} {wr rd st lo bu : Int} (h : HasX w b v c d L bs f wr rd st lo bu) (k g a : Int) {x : Int} (j : Nat) (ha : a = (j : Int)) (hj : j < 8192) {m : Nat → Value} (h8 : L[8]? = some (8192, m)) (hm : m j = .int .u8 x) (x0 : 0 ≤ x) (x1 : x < 256) : Calls Tryz.prog 31 #[.pointer (some ⟨b, 0, none⟩), .agg #[.int .i64 k, .int .i64 g, .int .i64 a]] w fun e w' => e = Ending.returned (.int .i64 x) ∧ HasX w' b v c d L bs f wr rd st lo bu ∧ OnlyE (EX b v) w w' := by
  have c8 := h.1.get 8 h8 j hj (a := 283 + j) (by rw [h.isB.off 8 (a := 283) rfl]) (by omega)
  rw [hm] at c8
  have HL := h.1.lt
  have HE := hide h
  subst ha
  clear h h8 hm
  go_enter Tryz.func31, Tryz.ntmps31
  go_wp2_with fail
  refine under_name fun w0 hw0 => ?_
  have b0 : Below w.heap.size w w0 := by rw [hw0]; exact (Below.refl _ w).alloc (Nat.le_refl _) _
  have p2 : w0.cell? ⟨w.heap.size, 2, none⟩ = some (.int .i64 (j : Int)) := by rw [hw0]; exact (cell_of_row _ _ 2 _ _ _ (heap_alloc_new _ _)).trans rfl
  have lz : w.heap.size < w0.heap.size := by rw [hw0]; simp
  have i8 := kept_cell ((b0.cell (p := ⟨b, 283 + j, none⟩) HL).trans c8) (Nat.lt_of_lt_of_le HL b0.size)
  have i2 := kept_cell p2 lz
  have X0 := hide (HE.out.next b0)
  have B0 := hide b0
  clear hw0 b0 p2 c8 lz
  haveI := kept_some w0
  refine wp_region_kept (by kernel_rfl) (by kernel_rfl) ?_
  repeat (go_big_quiet_step (fail))
  refine wpQuiet_nil ?_
  rintro _ ⟨wk, rfl⟩
  go_wp2
  go_ret
  exact ⟨by first | rfl | exact ret_int (by omega), X0.out.next wk.below, ex_below (bnext B0.out wk.below)⟩
set_option maxHeartbeats 1000000 in
theorem readRom_is {w : World} {b v c d : Nat} {L : List (Nat × (Nat → Value))} {bs : List Int} {f : Nat → Int} {wr rd st lo bu : Int} (h : HasX w b v c d L bs f wr rd st lo bu) (k g a : Int) {x lt pg : Int} (h7 : L[7]? = some (1, fun _ => Value.int .i64 lt)) (hp : pageOf ((bs.length / 8192 : Nat) : Int) lt g = pg)
    (KB : ∀ w, HasCard w c d bs → Calls Tryz.prog 53 #[.pointer (some ⟨c, 0, none⟩), .int .i64 pg, .int .i64 a] w fun e w' => e = Ending.returned (.int .i64 x) ∧ w' = w) : Calls Tryz.prog 30 #[.pointer (some ⟨b, 0, none⟩), .agg #[.int .i64 k, .int .i64 g, .int .i64 a]] w fun e w' => e = Ending.returned (.int .i64 x) ∧ HasX w' b v c d L bs f wr rd st lo bu ∧ OnlyE (EX b v) w w' := by
  have c7 := h.1.get1 7 h7 (a := 282) (h.isB.off 7 rfl) (by decide)
  have c6 := h.1.get1 6 h.2.2.2.2.2.2.1 (a := 281) (h.isB.off 6 rfl) (by decide)
  have hn := h.2.2.2.2.2.2.2.2.1.2
  have HL := h.1.lt
  have HE := hide h
  clear h h7
  go_enter Tryz.func30, Tryz.ntmps30
  go_wp2_with fail
  refine under_name fun w0 hw0 => ?_
  have b0 : Below w.heap.size w w0 := by rw [hw0]; exact (Below.refl _ w).alloc (Nat.le_refl _) _
  have p1 : w0.cell? ⟨w.heap.size, 1, none⟩ = some (.int .i64 g) := by rw [hw0]; exact (cell_of_row _ _ 1 _ _ _ (heap_alloc_new _ _)).trans rfl
  have p2 : w0.cell? ⟨w.heap.size, 2, none⟩ = some (.int .i64 a) := by rw [hw0]; exact (cell_of_row _ _ 2 _ _ _ (heap_alloc_new _ _)).trans rfl
  have lz : w.heap.size < w0.heap.size := by rw [hw0]; simp
  have i7 := kept_cell ((b0.cell (p := ⟨b, 282, none⟩) HL).trans c7) (Nat.lt_of_lt_of_le HL b0.size)
  have i6 := kept_cell ((b0.cell (p := ⟨b, 281, none⟩) HL).trans c6) (Nat.lt_of_lt_of_le HL b0.size)
  have i1 := kept_cell p1 lz
  have i2 := kept_cell p2 lz
  have X0 := hide (HE.out.next b0)
  have B0 := hide b0
  have KP := hide (fun x : Kept w0 => pages_of ⟨c, 0, none⟩ (some ⟨d, 0, none⟩) bs.length bs.length x.val (by omega) (X0.out.next x.below).2.2.1.1)
  have KG := hide (fun x : Kept w0 => page_any ((bs.length / 8192 : Nat) : Int) lt g x.val (X0.out.next x.below).2.2.2.1.1)
  rw [hp] at KG
  have KY := hide (fun x : Kept w0 => KB x.val (X0.out.next x.below).2.2.1)
  generalize ((bs.length / 8192 : Nat) : Int) = n at *
  clear hw0 b0 p1 p2 c7 c6 lz KB hp
  haveI := kept_some w0
  refine wp_region_kept (by kernel_rfl) (by kernel_rfl) ?_
  repeat (go_big_quiet_step ((first
    | (go_at_call 6; exact kept_same (KP.out _))
    | (go_at_call 9; exact kept_call (KG.out _))
    | (go_at_call 53; exact kept_same (KY.out _)))))
  refine wpQuiet_nil ?_
  rintro _ ⟨wk, rfl⟩
  go_wp2
  go_ret
  exact ⟨rfl, X0.out.next wk.below, ex_below (bnext B0.out wk.below)⟩
end Go.Proofs.YthelklkfcllddaaGreatDoor.L24
