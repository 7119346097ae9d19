/- The document's own machine: a write to the picture's ports. -/
import Derived.Test.YtnllcknfmciebaaGreatDoorBusPlaysJ32
import Derived.Test.YtnllcknfmciebaaGreatDoorBusPlaysJ01
import Derived.Test.YtnllcknfmciebaaGreatDoorBusPlaysJ27
import Derived.Test.YtnllcknfmciebaaGreatDoorBusPlaysJ47
import Derived.Deep.CutRange
namespace Go.Proofs.YtnllcknfmciebaaGreatDoor.D24
set_option maxRecDepth 20000
open W13
open Go.RowKit
set_option linter.unusedVariables false
theorem zero_G21 (w:World):(zeroValue 69).run Tryz.prog w=.ok (.agg (rowF (iv fun _=>0) 21)) w:=by kernel_rfl
def mvOf (s a:Int) (mv:Bool):Bool:=if s=8∧(a=2∨a=3) then true else mv
set_option maxHeartbeats 2000000 in
theorem ydraw_none {w : World} {b c d r : Nat} {L : List (Nat × (Nat → Value))} {f : Nat → Int} {wr rd st lo bu : Int} {ram : Nat → Int} (h : HasY w b c d r L f wr rd st lo bu ram) (a v : Int) {g : Nat → Value} (h5 : L[5]? = some (21, g)) {u : Nat → Int} (KW : ∀ w, Calls Tryz.prog 100 #[.agg (rowF g 21), .int .i64 a, .int .i64 v] w fun e w' => e = Ending.returned (.tuple #[.agg (rowF (iv u) 21), .int .i64 0]) ∧ Below w.heap.size w w') {mv : Bool} (h10 : L[10]? = some (1, fun _ => .bool mv))  : Calls Tryz.prog 51 #[.pointer (some ⟨b, 0, none⟩), .int .i64 a, .int .i64 v] w fun e w' => e = Ending.returned (.tuple #[]) ∧ HasY w' b c d r ((L.set 5 (21, iv u)).set 10 (1, fun _ => .bool (mvOf (u 0) a mv))) f wr rd st lo bu ram ∧ OnlyE (EY b c d r) w w' := by
  have hY := h.2.2.2.1
  have SG := hide (h.1.seg 5 h5 (a := 12) (hY.off 5 rfl))
  have HE := hide h
  have H := hide h.1
  have E5 := hide h5
  have E10 := hide h10
  have HY := hide hY
  have W0 := hide KW
  have ZO : Hid ((rowF (iv u) 21).all (·.oneCell') = true) := hide (rowF_one u 21)
  have ZI : Hid ((Tryz.prog.info? 69).map (·.size) = some (rowF (iv u) 21).size) := hide (by rw [rowF_size]; kernel_rfl)
  have ZS : Hid ((rowF (iv fun _ => 0) 21).size = (rowF (iv u) 21).size) := hide (by rw [rowF_size, rowF_size])
  clear h h5 h10 hY KW
  go_enter Tryz.func51, Tryz.ntmps51
  go_wp2_with (first
    | (refine wpList_load_part rfl 69 (.tmp 13) rfl b 12 rfl H.out 21 (by decide) g SG.out _ Tryz.underlying69 rfl (by kernel_rfl) ?_))
  refine (W0.out _).mono ?_
  rintro e w2 ⟨rfl, b2⟩
  have H2 := hide (H.out.next b2)
  have B2 := hide (But.of (b := b) b2)
  have NB := hide (show b ≠ w2.heap.size from Nat.ne_of_lt (Nat.lt_of_lt_of_le H.out.lt b2.size))
  have SZ := hide b2.size
  clear b2 W0 H SG
  go_upto_region 2 with (first
    | (refine wpList_alloced rfl 69 rfl (rowF (iv fun _ => 0) 21) zero_G21 ?_)
    | (refine wpList_store_row rfl 69 (.tmp 6) (.tmp 18) rfl w2.heap.size _ rfl rfl 69 _ (hasF_new _ _ _ _) ZI.out ZS.out ZO.out ?_
       refine under_list fun w3 hw3 => ?_
       have W3 : Below w2.heap.size w2 w3 := (by rw [hw3]; exact below_setRow ((Below.refl _ _).alloc (Nat.le_refl _) _) (Nat.le_refl _) _)
       have M3 : Hid (HasF 69 w3 w2.heap.size 21 (iv u)) := hide (by rw [hw3]; exact setRow_heap _ _ _ _ _ _ (hasF_new _ _ _ _))
       have H3 := hide (H2.out.next W3)
       have B3 := hide (B2.out.andBelow W3)
       clear hw3 W3 H2 B2)
    | (refine wpList_load_row rfl 69 (.tmp 6) rfl w2.heap.size rfl _ _ _ _ M3.out Tryz.underlying69 rfl ZI.out ?_)
    | (refine wpList_store_part rfl 69 (.tmp 23) (.tmp 21) rfl b 12 21 (iv u) rfl rfl H3.out (by decide) (by kernel_rfl) (fun _ _ => rfl) ?_
       refine under_list fun w4 hw4 => ?_
       have H4 : Hid (HasF 81 w4 b 1072 (segs (L.set 5 (21, iv u)))) := hide (by rw [hw4]; exact H3.out.lay 5 E5.out (iv u) (HY.out.off 5 rfl))
       have B4 : Hid (But b w w4) := hide (by rw [hw4]; exact But.cells _ _ _ B3.out)
       have M4 : Hid (HasF 69 w4 w2.heap.size 21 (iv u)) := hide (by rw [hw4]; exact (But.cells _ _ _ (But.refl b w3)).keep M3.out (fun e => NB.out e.symm))
       clear hw4 H3 B3 M3))
  have g0 := M4.out.int 0 (by decide)
  have c10 := H4.out.get1 10 (set_other E10.out _ (by decide)) (a := 292) ((HY.out.set E5.out _).off 10 rfl) (by decide)
  have z10 := H4.out.frozen 292
  by_cases s8 : u 0 = 8
  · have sb : (u 0 == 8) = true := by simp [s8]
    by_cases a2 : a = 2
    · have ab : (a == 2) = true := by simp [a2]
      have e1 : mvOf (u 0) a mv = true := by unfold mvOf; rw [if_pos (by omega)]
      have hH : ∀ wx, wx = w4.setCell ⟨b, 292, none⟩ (.bool true) → HasF 81 wx b 1072 (segs ((L.set 5 (21, iv u)).set 10 (1, fun _ => .bool (mvOf (u 0) a mv)))) ∧ HasF 69 wx w2.heap.size 21 (iv u) ∧ But b w wx := fun wx hx => by
        rw [hx, e1]
        exact ⟨H4.out.put1 10 (set_other E10.out _ (by decide)) ((HY.out.set E5.out _).off 10 rfl) (.bool true), M4.out.other _ _ (fun e => NB.out e.symm), B4.out.set _ _⟩
      clear s8 a2
      replace hH := hide hH
      clear e1
      go_upto_region 4 with fail
      refine under_name fun w5 hw5 => ?_
      obtain ⟨h5, m5, b5⟩ := hH.out w5 hw5
      have H5 := hide h5
      have M5 := hide m5
      have B5 := hide b5
      have Y5 := hide (HE.out.row b5 h5 ((HY.out.set E5.out _).set (set_other E10.out _ (by decide)) _) (set_other (set_other rfl _ (by decide)) _ (by decide)) (set_other (set_other rfl _ (by decide)) _ (by decide)))
      clear hw5 hH h5 m5 b5 H4 M4 B4 g0 c10 z10 HE
      go_wp2
      go_end0
      exact ⟨rfl, Y5.out, ey_but B5.out⟩
    · have ab : (a == 2) = false := by simp [a2]
      by_cases a3 : a = 3
      · have ac : (a == 3) = true := by simp [a3]
        have e1 : mvOf (u 0) a mv = true := by unfold mvOf; rw [if_pos (by omega)]
        have hH : ∀ wx, wx = w4.setCell ⟨b, 292, none⟩ (.bool true) → HasF 81 wx b 1072 (segs ((L.set 5 (21, iv u)).set 10 (1, fun _ => .bool (mvOf (u 0) a mv)))) ∧ HasF 69 wx w2.heap.size 21 (iv u) ∧ But b w wx := fun wx hx => by
          rw [hx, e1]
          exact ⟨H4.out.put1 10 (set_other E10.out _ (by decide)) ((HY.out.set E5.out _).off 10 rfl) (.bool true), M4.out.other _ _ (fun e => NB.out e.symm), B4.out.set _ _⟩
        clear s8 a2 a3
        replace hH := hide hH
        clear e1
        go_upto_region 4 with fail
        refine under_name fun w5 hw5 => ?_
        obtain ⟨h5, m5, b5⟩ := hH.out w5 hw5
        have H5 := hide h5
        have M5 := hide m5
        have B5 := hide b5
        have Y5 := hide (HE.out.row b5 h5 ((HY.out.set E5.out _).set (set_other E10.out _ (by decide)) _) (set_other (set_other rfl _ (by decide)) _ (by decide)) (set_other (set_other rfl _ (by decide)) _ (by decide)))
        clear hw5 hH h5 m5 b5 H4 M4 B4 g0 c10 z10 HE
        go_wp2
        go_end0
        exact ⟨rfl, Y5.out, ey_but B5.out⟩
      · have ac : (a == 3) = false := by simp [a3]
        have e1 : mvOf (u 0) a mv = mv := by unfold mvOf; rw [if_neg (by omega)]
        have hH : ∀ wx, wx = w4 → HasF 81 wx b 1072 (segs ((L.set 5 (21, iv u)).set 10 (1, fun _ => .bool (mvOf (u 0) a mv)))) ∧ HasF 69 wx w2.heap.size 21 (iv u) ∧ But b w wx := fun wx hx => by
          rw [hx, e1, set_id (set_other (k := 5) E10.out (21, iv u) (by decide))]
          exact ⟨H4.out, M4.out, B4.out⟩
        clear s8 a2 a3
        replace hH := hide hH
        clear e1
        go_upto_region 4 with fail
        refine under_name fun w5 hw5 => ?_
        obtain ⟨h5, m5, b5⟩ := hH.out w5 hw5
        have H5 := hide h5
        have M5 := hide m5
        have B5 := hide b5
        have Y5 := hide (HE.out.row b5 h5 ((HY.out.set E5.out _).set (set_other E10.out _ (by decide)) _) (set_other (set_other rfl _ (by decide)) _ (by decide)) (set_other (set_other rfl _ (by decide)) _ (by decide)))
        clear hw5 hH h5 m5 b5 H4 M4 B4 g0 c10 z10 HE
        go_wp2
        go_end0
        exact ⟨rfl, Y5.out, ey_but B5.out⟩
  · have sb : (u 0 == 8) = false := by simp [s8]
    have e1 : mvOf (u 0) a mv = mv := by unfold mvOf; rw [if_neg (by omega)]
    have hH : ∀ wx, wx = w4 → HasF 81 wx b 1072 (segs ((L.set 5 (21, iv u)).set 10 (1, fun _ => .bool (mvOf (u 0) a mv)))) ∧ HasF 69 wx w2.heap.size 21 (iv u) ∧ But b w wx := fun wx hx => by
      rw [hx, e1, set_id (set_other (k := 5) E10.out (21, iv u) (by decide))]
      exact ⟨H4.out, M4.out, B4.out⟩
    clear s8
    replace hH := hide hH
    clear e1
    go_upto_region 4 with fail
    refine under_name fun w5 hw5 => ?_
    obtain ⟨h5, m5, b5⟩ := hH.out w5 hw5
    have H5 := hide h5
    have M5 := hide m5
    have B5 := hide b5
    have Y5 := hide (HE.out.row b5 h5 ((HY.out.set E5.out _).set (set_other E10.out _ (by decide)) _) (set_other (set_other rfl _ (by decide)) _ (by decide)) (set_other (set_other rfl _ (by decide)) _ (by decide)))
    clear hw5 hH h5 m5 b5 H4 M4 B4 g0 c10 z10 HE
    go_wp2
    go_end0
    exact ⟨rfl, Y5.out, ey_but B5.out⟩
set_option maxHeartbeats 2000000 in
theorem ydraw_setWrite {w : World} {b c d r : Nat} {L : List (Nat × (Nat → Value))} {f : Nat → Int} {wr rd st lo bu : Int} {ram : Nat → Int} (h : HasY w b c d r L f wr rd st lo bu ram) (a v : Int) {g : Nat → Value} (h5 : L[5]? = some (21, g)) {u : Nat → Int} (KW : ∀ w, Calls Tryz.prog 100 #[.agg (rowF g 21), .int .i64 a, .int .i64 v] w fun e w' => e = Ending.returned (.tuple #[.agg (rowF (iv u) 21), .int .i64 1]) ∧ Below w.heap.size w w') {mv : Bool} (h10 : L[10]? = some (1, fun _ => .bool mv))  : Calls Tryz.prog 51 #[.pointer (some ⟨b, 0, none⟩), .int .i64 a, .int .i64 v] w fun e w' => e = Ending.returned (.tuple #[]) ∧ HasY w' b c d r ((L.set 5 (21, iv u)).set 10 (1, fun _ => .bool (mvOf (u 0) a mv))) f (u 1) rd st lo bu ram ∧ OnlyE (EY b c d r) w w' := by
  have hY := h.2.2.2.1
  have SG := hide (h.1.seg 5 h5 (a := 12) (hY.off 5 rfl))
  have HE := hide h
  have H := hide h.1
  have E5 := hide h5
  have E10 := hide h10
  have HY := hide hY
  have W0 := hide KW
  have ZO : Hid ((rowF (iv u) 21).all (·.oneCell') = true) := hide (rowF_one u 21)
  have ZI : Hid ((Tryz.prog.info? 69).map (·.size) = some (rowF (iv u) 21).size) := hide (by rw [rowF_size]; kernel_rfl)
  have ZS : Hid ((rowF (iv fun _ => 0) 21).size = (rowF (iv u) 21).size) := hide (by rw [rowF_size, rowF_size])
  clear h h5 h10 hY KW
  go_enter Tryz.func51, Tryz.ntmps51
  go_wp2_with (first
    | (refine wpList_load_part rfl 69 (.tmp 13) rfl b 12 rfl H.out 21 (by decide) g SG.out _ Tryz.underlying69 rfl (by kernel_rfl) ?_))
  refine (W0.out _).mono ?_
  rintro e w2 ⟨rfl, b2⟩
  have H2 := hide (H.out.next b2)
  have B2 := hide (But.of (b := b) b2)
  have NB := hide (show b ≠ w2.heap.size from Nat.ne_of_lt (Nat.lt_of_lt_of_le H.out.lt b2.size))
  have SZ := hide b2.size
  clear b2 W0 H SG
  go_upto_region 2 with (first
    | (refine wpList_alloced rfl 69 rfl (rowF (iv fun _ => 0) 21) zero_G21 ?_)
    | (refine wpList_store_row rfl 69 (.tmp 6) (.tmp 18) rfl w2.heap.size _ rfl rfl 69 _ (hasF_new _ _ _ _) ZI.out ZS.out ZO.out ?_
       refine under_list fun w3 hw3 => ?_
       have W3 : Below w2.heap.size w2 w3 := (by rw [hw3]; exact below_setRow ((Below.refl _ _).alloc (Nat.le_refl _) _) (Nat.le_refl _) _)
       have M3 : Hid (HasF 69 w3 w2.heap.size 21 (iv u)) := hide (by rw [hw3]; exact setRow_heap _ _ _ _ _ _ (hasF_new _ _ _ _))
       have H3 := hide (H2.out.next W3)
       have B3 := hide (B2.out.andBelow W3)
       clear hw3 W3 H2 B2)
    | (refine wpList_load_row rfl 69 (.tmp 6) rfl w2.heap.size rfl _ _ _ _ M3.out Tryz.underlying69 rfl ZI.out ?_)
    | (refine wpList_store_part rfl 69 (.tmp 23) (.tmp 21) rfl b 12 21 (iv u) rfl rfl H3.out (by decide) (by kernel_rfl) (fun _ _ => rfl) ?_
       refine under_list fun w4 hw4 => ?_
       have H4 : Hid (HasF 81 w4 b 1072 (segs (L.set 5 (21, iv u)))) := hide (by rw [hw4]; exact H3.out.lay 5 E5.out (iv u) (HY.out.off 5 rfl))
       have B4 : Hid (But b w w4) := hide (by rw [hw4]; exact But.cells _ _ _ B3.out)
       have M4 : Hid (HasF 69 w4 w2.heap.size 21 (iv u)) := hide (by rw [hw4]; exact (But.cells _ _ _ (But.refl b w3)).keep M3.out (fun e => NB.out e.symm))
       clear hw4 H3 B3 M3))
  have g0 := M4.out.int 0 (by decide)
  have c10 := H4.out.get1 10 (set_other E10.out _ (by decide)) (a := 292) ((HY.out.set E5.out _).off 10 rfl) (by decide)
  have z10 := H4.out.frozen 292
  by_cases s8 : u 0 = 8
  · have sb : (u 0 == 8) = true := by simp [s8]
    by_cases a2 : a = 2
    · have ab : (a == 2) = true := by simp [a2]
      have e1 : mvOf (u 0) a mv = true := by unfold mvOf; rw [if_pos (by omega)]
      have hH : ∀ wx, wx = w4.setCell ⟨b, 292, none⟩ (.bool true) → HasF 81 wx b 1072 (segs ((L.set 5 (21, iv u)).set 10 (1, fun _ => .bool (mvOf (u 0) a mv)))) ∧ HasF 69 wx w2.heap.size 21 (iv u) ∧ But b w wx := fun wx hx => by
        rw [hx, e1]
        exact ⟨H4.out.put1 10 (set_other E10.out _ (by decide)) ((HY.out.set E5.out _).off 10 rfl) (.bool true), M4.out.other _ _ (fun e => NB.out e.symm), B4.out.set _ _⟩
      clear s8 a2
      replace hH := hide hH
      clear e1
      go_upto_region 4 with fail
      refine under_name fun w5 hw5 => ?_
      obtain ⟨h5, m5, b5⟩ := hH.out w5 hw5
      have H5 := hide h5
      have M5 := hide m5
      have B5 := hide b5
      have Y5 := hide (HE.out.row b5 h5 ((HY.out.set E5.out _).set (set_other E10.out _ (by decide)) _) (set_other (set_other rfl _ (by decide)) _ (by decide)) (set_other (set_other rfl _ (by decide)) _ (by decide)))
      clear hw5 hH h5 m5 b5 H4 M4 B4 g0 c10 z10 HE
      have c6 := H5.out.get1 6 Y5.out.2.2.2.2.1 (a := 33) (Y5.out.2.2.2.1.off 6 rfl) (by decide)
      have i6 := kept_cell c6 H5.out.lt
      have iu := kept_cell (M5.out.int 1 (by decide)) M5.out.lt
      go_wp2_with fail
      haveI := kept_some w5
      refine wp_region_kept_shut _ _ (show _ = [_, _, _, _, _, _, _, _, _] ++ [_] from rfl) (by kernel_rfl) (by kernel_rfl) (by kernel_rfl) ?_
      repeat (go_big_quiet_step (fail))
      refine wpQuiet_nil ?_
      rintro _ ⟨wk, rfl⟩
      have Y6 := hide (Y5.out.next wk.below)
      have B6 := hide (B5.out.andBelow wk.below)
      generalize wk.val = w6 at *
      clear i6 iu c6
      have k1 := Y6.out.2.1.c1
      have z1 := Y6.out.2.1.frozen 1
      go_wp2
      go_end0
      exact ⟨rfl, Y6.out.vram ((Only2.refl c d w6).setc _ _) (Y6.out.2.1.set1 _), (ey_but B6.out).trans (ey_two ((Only2.refl c d w6).setc _ _))⟩
    · have ab : (a == 2) = false := by simp [a2]
      by_cases a3 : a = 3
      · have ac : (a == 3) = true := by simp [a3]
        have e1 : mvOf (u 0) a mv = true := by unfold mvOf; rw [if_pos (by omega)]
        have hH : ∀ wx, wx = w4.setCell ⟨b, 292, none⟩ (.bool true) → HasF 81 wx b 1072 (segs ((L.set 5 (21, iv u)).set 10 (1, fun _ => .bool (mvOf (u 0) a mv)))) ∧ HasF 69 wx w2.heap.size 21 (iv u) ∧ But b w wx := fun wx hx => by
          rw [hx, e1]
          exact ⟨H4.out.put1 10 (set_other E10.out _ (by decide)) ((HY.out.set E5.out _).off 10 rfl) (.bool true), M4.out.other _ _ (fun e => NB.out e.symm), B4.out.set _ _⟩
        clear s8 a2 a3
        replace hH := hide hH
        clear e1
        go_upto_region 4 with fail
        refine under_name fun w5 hw5 => ?_
        obtain ⟨h5, m5, b5⟩ := hH.out w5 hw5
        have H5 := hide h5
        have M5 := hide m5
        have B5 := hide b5
        have Y5 := hide (HE.out.row b5 h5 ((HY.out.set E5.out _).set (set_other E10.out _ (by decide)) _) (set_other (set_other rfl _ (by decide)) _ (by decide)) (set_other (set_other rfl _ (by decide)) _ (by decide)))
        clear hw5 hH h5 m5 b5 H4 M4 B4 g0 c10 z10 HE
        have c6 := H5.out.get1 6 Y5.out.2.2.2.2.1 (a := 33) (Y5.out.2.2.2.1.off 6 rfl) (by decide)
        have i6 := kept_cell c6 H5.out.lt
        have iu := kept_cell (M5.out.int 1 (by decide)) M5.out.lt
        go_wp2_with fail
        haveI := kept_some w5
        refine wp_region_kept_shut _ _ (show _ = [_, _, _, _, _, _, _, _, _] ++ [_] from rfl) (by kernel_rfl) (by kernel_rfl) (by kernel_rfl) ?_
        repeat (go_big_quiet_step (fail))
        refine wpQuiet_nil ?_
        rintro _ ⟨wk, rfl⟩
        have Y6 := hide (Y5.out.next wk.below)
        have B6 := hide (B5.out.andBelow wk.below)
        generalize wk.val = w6 at *
        clear i6 iu c6
        have k1 := Y6.out.2.1.c1
        have z1 := Y6.out.2.1.frozen 1
        go_wp2
        go_end0
        exact ⟨rfl, Y6.out.vram ((Only2.refl c d w6).setc _ _) (Y6.out.2.1.set1 _), (ey_but B6.out).trans (ey_two ((Only2.refl c d w6).setc _ _))⟩
      · have ac : (a == 3) = false := by simp [a3]
        have e1 : mvOf (u 0) a mv = mv := by unfold mvOf; rw [if_neg (by omega)]
        have hH : ∀ wx, wx = w4 → HasF 81 wx b 1072 (segs ((L.set 5 (21, iv u)).set 10 (1, fun _ => .bool (mvOf (u 0) a mv)))) ∧ HasF 69 wx w2.heap.size 21 (iv u) ∧ But b w wx := fun wx hx => by
          rw [hx, e1, set_id (set_other (k := 5) E10.out (21, iv u) (by decide))]
          exact ⟨H4.out, M4.out, B4.out⟩
        clear s8 a2 a3
        replace hH := hide hH
        clear e1
        go_upto_region 4 with fail
        refine under_name fun w5 hw5 => ?_
        obtain ⟨h5, m5, b5⟩ := hH.out w5 hw5
        have H5 := hide h5
        have M5 := hide m5
        have B5 := hide b5
        have Y5 := hide (HE.out.row b5 h5 ((HY.out.set E5.out _).set (set_other E10.out _ (by decide)) _) (set_other (set_other rfl _ (by decide)) _ (by decide)) (set_other (set_other rfl _ (by decide)) _ (by decide)))
        clear hw5 hH h5 m5 b5 H4 M4 B4 g0 c10 z10 HE
        have c6 := H5.out.get1 6 Y5.out.2.2.2.2.1 (a := 33) (Y5.out.2.2.2.1.off 6 rfl) (by decide)
        have i6 := kept_cell c6 H5.out.lt
        have iu := kept_cell (M5.out.int 1 (by decide)) M5.out.lt
        go_wp2_with fail
        haveI := kept_some w5
        refine wp_region_kept_shut _ _ (show _ = [_, _, _, _, _, _, _, _, _] ++ [_] from rfl) (by kernel_rfl) (by kernel_rfl) (by kernel_rfl) ?_
        repeat (go_big_quiet_step (fail))
        refine wpQuiet_nil ?_
        rintro _ ⟨wk, rfl⟩
        have Y6 := hide (Y5.out.next wk.below)
        have B6 := hide (B5.out.andBelow wk.below)
        generalize wk.val = w6 at *
        clear i6 iu c6
        have k1 := Y6.out.2.1.c1
        have z1 := Y6.out.2.1.frozen 1
        go_wp2
        go_end0
        exact ⟨rfl, Y6.out.vram ((Only2.refl c d w6).setc _ _) (Y6.out.2.1.set1 _), (ey_but B6.out).trans (ey_two ((Only2.refl c d w6).setc _ _))⟩
  · have sb : (u 0 == 8) = false := by simp [s8]
    have e1 : mvOf (u 0) a mv = mv := by unfold mvOf; rw [if_neg (by omega)]
    have hH : ∀ wx, wx = w4 → HasF 81 wx b 1072 (segs ((L.set 5 (21, iv u)).set 10 (1, fun _ => .bool (mvOf (u 0) a mv)))) ∧ HasF 69 wx w2.heap.size 21 (iv u) ∧ But b w wx := fun wx hx => by
      rw [hx, e1, set_id (set_other (k := 5) E10.out (21, iv u) (by decide))]
      exact ⟨H4.out, M4.out, B4.out⟩
    clear s8
    replace hH := hide hH
    clear e1
    go_upto_region 4 with fail
    refine under_name fun w5 hw5 => ?_
    obtain ⟨h5, m5, b5⟩ := hH.out w5 hw5
    have H5 := hide h5
    have M5 := hide m5
    have B5 := hide b5
    have Y5 := hide (HE.out.row b5 h5 ((HY.out.set E5.out _).set (set_other E10.out _ (by decide)) _) (set_other (set_other rfl _ (by decide)) _ (by decide)) (set_other (set_other rfl _ (by decide)) _ (by decide)))
    clear hw5 hH h5 m5 b5 H4 M4 B4 g0 c10 z10 HE
    have c6 := H5.out.get1 6 Y5.out.2.2.2.2.1 (a := 33) (Y5.out.2.2.2.1.off 6 rfl) (by decide)
    have i6 := kept_cell c6 H5.out.lt
    have iu := kept_cell (M5.out.int 1 (by decide)) M5.out.lt
    go_wp2_with fail
    haveI := kept_some w5
    refine wp_region_kept_shut _ _ (show _ = [_, _, _, _, _, _, _, _, _] ++ [_] from rfl) (by kernel_rfl) (by kernel_rfl) (by kernel_rfl) ?_
    repeat (go_big_quiet_step (fail))
    refine wpQuiet_nil ?_
    rintro _ ⟨wk, rfl⟩
    have Y6 := hide (Y5.out.next wk.below)
    have B6 := hide (B5.out.andBelow wk.below)
    generalize wk.val = w6 at *
    clear i6 iu c6
    have k1 := Y6.out.2.1.c1
    have z1 := Y6.out.2.1.frozen 1
    go_wp2
    go_end0
    exact ⟨rfl, Y6.out.vram ((Only2.refl c d w6).setc _ _) (Y6.out.2.1.set1 _), (ey_but B6.out).trans (ey_two ((Only2.refl c d w6).setc _ _))⟩
set_option maxHeartbeats 2000000 in
theorem ydraw_setRead {w : World} {b c d r : Nat} {L : List (Nat × (Nat → Value))} {f : Nat → Int} {wr rd st lo bu : Int} {ram : Nat → Int} (h : HasY w b c d r L f wr rd st lo bu ram) (a v : Int) {g : Nat → Value} (h5 : L[5]? = some (21, g)) {u : Nat → Int} (KW : ∀ w, Calls Tryz.prog 100 #[.agg (rowF g 21), .int .i64 a, .int .i64 v] w fun e w' => e = Ending.returned (.tuple #[.agg (rowF (iv u) 21), .int .i64 2]) ∧ Below w.heap.size w w') {mv : Bool} (h10 : L[10]? = some (1, fun _ => .bool mv)) (x y : Int) (hx : u 2 % 65536 = x) (hy : wordAt f x = y) : Calls Tryz.prog 51 #[.pointer (some ⟨b, 0, none⟩), .int .i64 a, .int .i64 v] w fun e w' => e = Ending.returned (.tuple #[]) ∧ HasY w' b c d r ((L.set 5 (21, iv u)).set 10 (1, fun _ => .bool (mvOf (u 0) a mv))) f wr x st lo y ram ∧ OnlyE (EY b c d r) w w' := by
  have HX := hide hx
  have HV := hide hy
  clear hx hy
  have hY := h.2.2.2.1
  have SG := hide (h.1.seg 5 h5 (a := 12) (hY.off 5 rfl))
  have HE := hide h
  have H := hide h.1
  have E5 := hide h5
  have E10 := hide h10
  have HY := hide hY
  have W0 := hide KW
  have ZO : Hid ((rowF (iv u) 21).all (·.oneCell') = true) := hide (rowF_one u 21)
  have ZI : Hid ((Tryz.prog.info? 69).map (·.size) = some (rowF (iv u) 21).size) := hide (by rw [rowF_size]; kernel_rfl)
  have ZS : Hid ((rowF (iv fun _ => 0) 21).size = (rowF (iv u) 21).size) := hide (by rw [rowF_size, rowF_size])
  clear h h5 h10 hY KW
  go_enter Tryz.func51, Tryz.ntmps51
  go_wp2_with (first
    | (refine wpList_load_part rfl 69 (.tmp 13) rfl b 12 rfl H.out 21 (by decide) g SG.out _ Tryz.underlying69 rfl (by kernel_rfl) ?_))
  refine (W0.out _).mono ?_
  rintro e w2 ⟨rfl, b2⟩
  have H2 := hide (H.out.next b2)
  have B2 := hide (But.of (b := b) b2)
  have NB := hide (show b ≠ w2.heap.size from Nat.ne_of_lt (Nat.lt_of_lt_of_le H.out.lt b2.size))
  have SZ := hide b2.size
  clear b2 W0 H SG
  go_upto_region 2 with (first
    | (refine wpList_alloced rfl 69 rfl (rowF (iv fun _ => 0) 21) zero_G21 ?_)
    | (refine wpList_store_row rfl 69 (.tmp 6) (.tmp 18) rfl w2.heap.size _ rfl rfl 69 _ (hasF_new _ _ _ _) ZI.out ZS.out ZO.out ?_
       refine under_list fun w3 hw3 => ?_
       have W3 : Below w2.heap.size w2 w3 := (by rw [hw3]; exact below_setRow ((Below.refl _ _).alloc (Nat.le_refl _) _) (Nat.le_refl _) _)
       have M3 : Hid (HasF 69 w3 w2.heap.size 21 (iv u)) := hide (by rw [hw3]; exact setRow_heap _ _ _ _ _ _ (hasF_new _ _ _ _))
       have H3 := hide (H2.out.next W3)
       have B3 := hide (B2.out.andBelow W3)
       clear hw3 W3 H2 B2)
    | (refine wpList_load_row rfl 69 (.tmp 6) rfl w2.heap.size rfl _ _ _ _ M3.out Tryz.underlying69 rfl ZI.out ?_)
    | (refine wpList_store_part rfl 69 (.tmp 23) (.tmp 21) rfl b 12 21 (iv u) rfl rfl H3.out (by decide) (by kernel_rfl) (fun _ _ => rfl) ?_
       refine under_list fun w4 hw4 => ?_
       have H4 : Hid (HasF 81 w4 b 1072 (segs (L.set 5 (21, iv u)))) := hide (by rw [hw4]; exact H3.out.lay 5 E5.out (iv u) (HY.out.off 5 rfl))
       have B4 : Hid (But b w w4) := hide (by rw [hw4]; exact But.cells _ _ _ B3.out)
       have M4 : Hid (HasF 69 w4 w2.heap.size 21 (iv u)) := hide (by rw [hw4]; exact (But.cells _ _ _ (But.refl b w3)).keep M3.out (fun e => NB.out e.symm))
       clear hw4 H3 B3 M3))
  have g0 := M4.out.int 0 (by decide)
  have c10 := H4.out.get1 10 (set_other E10.out _ (by decide)) (a := 292) ((HY.out.set E5.out _).off 10 rfl) (by decide)
  have z10 := H4.out.frozen 292
  by_cases s8 : u 0 = 8
  · have sb : (u 0 == 8) = true := by simp [s8]
    by_cases a2 : a = 2
    · have ab : (a == 2) = true := by simp [a2]
      have e1 : mvOf (u 0) a mv = true := by unfold mvOf; rw [if_pos (by omega)]
      have hH : ∀ wx, wx = w4.setCell ⟨b, 292, none⟩ (.bool true) → HasF 81 wx b 1072 (segs ((L.set 5 (21, iv u)).set 10 (1, fun _ => .bool (mvOf (u 0) a mv)))) ∧ HasF 69 wx w2.heap.size 21 (iv u) ∧ But b w wx := fun wx hx => by
        rw [hx, e1]
        exact ⟨H4.out.put1 10 (set_other E10.out _ (by decide)) ((HY.out.set E5.out _).off 10 rfl) (.bool true), M4.out.other _ _ (fun e => NB.out e.symm), B4.out.set _ _⟩
      clear s8 a2
      replace hH := hide hH
      clear e1
      go_upto_region 4 with fail
      refine under_name fun w5 hw5 => ?_
      obtain ⟨h5, m5, b5⟩ := hH.out w5 hw5
      have H5 := hide h5
      have M5 := hide m5
      have B5 := hide b5
      have Y5 := hide (HE.out.row b5 h5 ((HY.out.set E5.out _).set (set_other E10.out _ (by decide)) _) (set_other (set_other rfl _ (by decide)) _ (by decide)) (set_other (set_other rfl _ (by decide)) _ (by decide)))
      clear hw5 hH h5 m5 b5 H4 M4 B4 g0 c10 z10 HE
      have c6 := H5.out.get1 6 Y5.out.2.2.2.2.1 (a := 33) (Y5.out.2.2.2.1.off 6 rfl) (by decide)
      have i6 := kept_cell c6 H5.out.lt
      have iu := kept_cell (M5.out.int 2 (by decide)) M5.out.lt
      go_wp2_with fail
      haveI := kept_some w5
      refine wp_region_kept_shut _ _ (show _ = [_, _, _, _, _, _, _] ++ [_] from rfl) (by kernel_rfl) (by kernel_rfl) (by kernel_rfl) ?_
      repeat (go_big_quiet_step (fail))
      refine wpQuiet_nil ?_
      rintro _ ⟨wk, rfl⟩
      have Y6 := hide (Y5.out.next wk.below)
      have B6 := hide (B5.out.andBelow wk.below)
      generalize wk.val = w6 at *
      clear i6 iu c6
      have KS := hide (rsetRead_is c d f wr rd st lo bu w6 Y6.out.2.1 (u 2) x y HX.out HV.out)
      go_wp2_with fail
      refine KS.out.mono ?_
      rintro e w7 ⟨rfl, h7, o7⟩
      have H7 := hide h7
      have O7 := hide o7
      clear h7 o7 KS
      go_wp2
      go_end0
      exact ⟨rfl, Y6.out.vram O7.out H7.out, (ey_but B6.out).trans (ey_two O7.out)⟩
    · have ab : (a == 2) = false := by simp [a2]
      by_cases a3 : a = 3
      · have ac : (a == 3) = true := by simp [a3]
        have e1 : mvOf (u 0) a mv = true := by unfold mvOf; rw [if_pos (by omega)]
        have hH : ∀ wx, wx = w4.setCell ⟨b, 292, none⟩ (.bool true) → HasF 81 wx b 1072 (segs ((L.set 5 (21, iv u)).set 10 (1, fun _ => .bool (mvOf (u 0) a mv)))) ∧ HasF 69 wx w2.heap.size 21 (iv u) ∧ But b w wx := fun wx hx => by
          rw [hx, e1]
          exact ⟨H4.out.put1 10 (set_other E10.out _ (by decide)) ((HY.out.set E5.out _).off 10 rfl) (.bool true), M4.out.other _ _ (fun e => NB.out e.symm), B4.out.set _ _⟩
        clear s8 a2 a3
        replace hH := hide hH
        clear e1
        go_upto_region 4 with fail
        refine under_name fun w5 hw5 => ?_
        obtain ⟨h5, m5, b5⟩ := hH.out w5 hw5
        have H5 := hide h5
        have M5 := hide m5
        have B5 := hide b5
        have Y5 := hide (HE.out.row b5 h5 ((HY.out.set E5.out _).set (set_other E10.out _ (by decide)) _) (set_other (set_other rfl _ (by decide)) _ (by decide)) (set_other (set_other rfl _ (by decide)) _ (by decide)))
        clear hw5 hH h5 m5 b5 H4 M4 B4 g0 c10 z10 HE
        have c6 := H5.out.get1 6 Y5.out.2.2.2.2.1 (a := 33) (Y5.out.2.2.2.1.off 6 rfl) (by decide)
        have i6 := kept_cell c6 H5.out.lt
        have iu := kept_cell (M5.out.int 2 (by decide)) M5.out.lt
        go_wp2_with fail
        haveI := kept_some w5
        refine wp_region_kept_shut _ _ (show _ = [_, _, _, _, _, _, _] ++ [_] from rfl) (by kernel_rfl) (by kernel_rfl) (by kernel_rfl) ?_
        repeat (go_big_quiet_step (fail))
        refine wpQuiet_nil ?_
        rintro _ ⟨wk, rfl⟩
        have Y6 := hide (Y5.out.next wk.below)
        have B6 := hide (B5.out.andBelow wk.below)
        generalize wk.val = w6 at *
        clear i6 iu c6
        have KS := hide (rsetRead_is c d f wr rd st lo bu w6 Y6.out.2.1 (u 2) x y HX.out HV.out)
        go_wp2_with fail
        refine KS.out.mono ?_
        rintro e w7 ⟨rfl, h7, o7⟩
        have H7 := hide h7
        have O7 := hide o7
        clear h7 o7 KS
        go_wp2
        go_end0
        exact ⟨rfl, Y6.out.vram O7.out H7.out, (ey_but B6.out).trans (ey_two O7.out)⟩
      · have ac : (a == 3) = false := by simp [a3]
        have e1 : mvOf (u 0) a mv = mv := by unfold mvOf; rw [if_neg (by omega)]
        have hH : ∀ wx, wx = w4 → HasF 81 wx b 1072 (segs ((L.set 5 (21, iv u)).set 10 (1, fun _ => .bool (mvOf (u 0) a mv)))) ∧ HasF 69 wx w2.heap.size 21 (iv u) ∧ But b w wx := fun wx hx => by
          rw [hx, e1, set_id (set_other (k := 5) E10.out (21, iv u) (by decide))]
          exact ⟨H4.out, M4.out, B4.out⟩
        clear s8 a2 a3
        replace hH := hide hH
        clear e1
        go_upto_region 4 with fail
        refine under_name fun w5 hw5 => ?_
        obtain ⟨h5, m5, b5⟩ := hH.out w5 hw5
        have H5 := hide h5
        have M5 := hide m5
        have B5 := hide b5
        have Y5 := hide (HE.out.row b5 h5 ((HY.out.set E5.out _).set (set_other E10.out _ (by decide)) _) (set_other (set_other rfl _ (by decide)) _ (by decide)) (set_other (set_other rfl _ (by decide)) _ (by decide)))
        clear hw5 hH h5 m5 b5 H4 M4 B4 g0 c10 z10 HE
        have c6 := H5.out.get1 6 Y5.out.2.2.2.2.1 (a := 33) (Y5.out.2.2.2.1.off 6 rfl) (by decide)
        have i6 := kept_cell c6 H5.out.lt
        have iu := kept_cell (M5.out.int 2 (by decide)) M5.out.lt
        go_wp2_with fail
        haveI := kept_some w5
        refine wp_region_kept_shut _ _ (show _ = [_, _, _, _, _, _, _] ++ [_] from rfl) (by kernel_rfl) (by kernel_rfl) (by kernel_rfl) ?_
        repeat (go_big_quiet_step (fail))
        refine wpQuiet_nil ?_
        rintro _ ⟨wk, rfl⟩
        have Y6 := hide (Y5.out.next wk.below)
        have B6 := hide (B5.out.andBelow wk.below)
        generalize wk.val = w6 at *
        clear i6 iu c6
        have KS := hide (rsetRead_is c d f wr rd st lo bu w6 Y6.out.2.1 (u 2) x y HX.out HV.out)
        go_wp2_with fail
        refine KS.out.mono ?_
        rintro e w7 ⟨rfl, h7, o7⟩
        have H7 := hide h7
        have O7 := hide o7
        clear h7 o7 KS
        go_wp2
        go_end0
        exact ⟨rfl, Y6.out.vram O7.out H7.out, (ey_but B6.out).trans (ey_two O7.out)⟩
  · have sb : (u 0 == 8) = false := by simp [s8]
    have e1 : mvOf (u 0) a mv = mv := by unfold mvOf; rw [if_neg (by omega)]
    have hH : ∀ wx, wx = w4 → HasF 81 wx b 1072 (segs ((L.set 5 (21, iv u)).set 10 (1, fun _ => .bool (mvOf (u 0) a mv)))) ∧ HasF 69 wx w2.heap.size 21 (iv u) ∧ But b w wx := fun wx hx => by
      rw [hx, e1, set_id (set_other (k := 5) E10.out (21, iv u) (by decide))]
      exact ⟨H4.out, M4.out, B4.out⟩
    clear s8
    replace hH := hide hH
    clear e1
    go_upto_region 4 with fail
    refine under_name fun w5 hw5 => ?_
    obtain ⟨h5, m5, b5⟩ := hH.out w5 hw5
    have H5 := hide h5
    have M5 := hide m5
    have B5 := hide b5
    have Y5 := hide (HE.out.row b5 h5 ((HY.out.set E5.out _).set (set_other E10.out _ (by decide)) _) (set_other (set_other rfl _ (by decide)) _ (by decide)) (set_other (set_other rfl _ (by decide)) _ (by decide)))
    clear hw5 hH h5 m5 b5 H4 M4 B4 g0 c10 z10 HE
    have c6 := H5.out.get1 6 Y5.out.2.2.2.2.1 (a := 33) (Y5.out.2.2.2.1.off 6 rfl) (by decide)
    have i6 := kept_cell c6 H5.out.lt
    have iu := kept_cell (M5.out.int 2 (by decide)) M5.out.lt
    go_wp2_with fail
    haveI := kept_some w5
    refine wp_region_kept_shut _ _ (show _ = [_, _, _, _, _, _, _] ++ [_] from rfl) (by kernel_rfl) (by kernel_rfl) (by kernel_rfl) ?_
    repeat (go_big_quiet_step (fail))
    refine wpQuiet_nil ?_
    rintro _ ⟨wk, rfl⟩
    have Y6 := hide (Y5.out.next wk.below)
    have B6 := hide (B5.out.andBelow wk.below)
    generalize wk.val = w6 at *
    clear i6 iu c6
    have KS := hide (rsetRead_is c d f wr rd st lo bu w6 Y6.out.2.1 (u 2) x y HX.out HV.out)
    go_wp2_with fail
    refine KS.out.mono ?_
    rintro e w7 ⟨rfl, h7, o7⟩
    have H7 := hide h7
    have O7 := hide o7
    clear h7 o7 KS
    go_wp2
    go_end0
    exact ⟨rfl, Y6.out.vram O7.out H7.out, (ey_but B6.out).trans (ey_two O7.out)⟩
set_option maxHeartbeats 2000000 in
theorem ydraw_putLow {w : World} {b c d r : Nat} {L : List (Nat × (Nat → Value))} {f : Nat → Int} {wr rd st lo bu : Int} {ram : Nat → Int} (h : HasY w b c d r L f wr rd st lo bu ram) (a v : Int) {g : Nat → Value} (h5 : L[5]? = some (21, g)) {u : Nat → Int} (KW : ∀ w, Calls Tryz.prog 100 #[.agg (rowF g 21), .int .i64 a, .int .i64 v] w fun e w' => e = Ending.returned (.tuple #[.agg (rowF (iv u) 21), .int .i64 3]) ∧ Below w.heap.size w w') {mv : Bool} (h10 : L[10]? = some (1, fun _ => .bool mv)) (x : Int) (hx : v % 256 = x) : Calls Tryz.prog 51 #[.pointer (some ⟨b, 0, none⟩), .int .i64 a, .int .i64 v] w fun e w' => e = Ending.returned (.tuple #[]) ∧ HasY w' b c d r ((L.set 5 (21, iv u)).set 10 (1, fun _ => .bool (mvOf (u 0) a mv))) f wr rd st x bu ram ∧ OnlyE (EY b c d r) w w' := by
  have HX := hide hx
  clear hx
  have hY := h.2.2.2.1
  have SG := hide (h.1.seg 5 h5 (a := 12) (hY.off 5 rfl))
  have HE := hide h
  have H := hide h.1
  have E5 := hide h5
  have E10 := hide h10
  have HY := hide hY
  have W0 := hide KW
  have ZO : Hid ((rowF (iv u) 21).all (·.oneCell') = true) := hide (rowF_one u 21)
  have ZI : Hid ((Tryz.prog.info? 69).map (·.size) = some (rowF (iv u) 21).size) := hide (by rw [rowF_size]; kernel_rfl)
  have ZS : Hid ((rowF (iv fun _ => 0) 21).size = (rowF (iv u) 21).size) := hide (by rw [rowF_size, rowF_size])
  clear h h5 h10 hY KW
  go_enter Tryz.func51, Tryz.ntmps51
  go_wp2_with (first
    | (refine wpList_load_part rfl 69 (.tmp 13) rfl b 12 rfl H.out 21 (by decide) g SG.out _ Tryz.underlying69 rfl (by kernel_rfl) ?_))
  refine (W0.out _).mono ?_
  rintro e w2 ⟨rfl, b2⟩
  have H2 := hide (H.out.next b2)
  have B2 := hide (But.of (b := b) b2)
  have NB := hide (show b ≠ w2.heap.size from Nat.ne_of_lt (Nat.lt_of_lt_of_le H.out.lt b2.size))
  have SZ := hide b2.size
  clear b2 W0 H SG
  go_upto_region 2 with (first
    | (refine wpList_alloced rfl 69 rfl (rowF (iv fun _ => 0) 21) zero_G21 ?_)
    | (refine wpList_store_row rfl 69 (.tmp 6) (.tmp 18) rfl w2.heap.size _ rfl rfl 69 _ (hasF_new _ _ _ _) ZI.out ZS.out ZO.out ?_
       refine under_list fun w3 hw3 => ?_
       have W3 : Below w2.heap.size w2 w3 := (by rw [hw3]; exact below_setRow ((Below.refl _ _).alloc (Nat.le_refl _) _) (Nat.le_refl _) _)
       have M3 : Hid (HasF 69 w3 w2.heap.size 21 (iv u)) := hide (by rw [hw3]; exact setRow_heap _ _ _ _ _ _ (hasF_new _ _ _ _))
       have H3 := hide (H2.out.next W3)
       have B3 := hide (B2.out.andBelow W3)
       clear hw3 W3 H2 B2)
    | (refine wpList_load_row rfl 69 (.tmp 6) rfl w2.heap.size rfl _ _ _ _ M3.out Tryz.underlying69 rfl ZI.out ?_)
    | (refine wpList_store_part rfl 69 (.tmp 23) (.tmp 21) rfl b 12 21 (iv u) rfl rfl H3.out (by decide) (by kernel_rfl) (fun _ _ => rfl) ?_
       refine under_list fun w4 hw4 => ?_
       have H4 : Hid (HasF 81 w4 b 1072 (segs (L.set 5 (21, iv u)))) := hide (by rw [hw4]; exact H3.out.lay 5 E5.out (iv u) (HY.out.off 5 rfl))
       have B4 : Hid (But b w w4) := hide (by rw [hw4]; exact But.cells _ _ _ B3.out)
       have M4 : Hid (HasF 69 w4 w2.heap.size 21 (iv u)) := hide (by rw [hw4]; exact (But.cells _ _ _ (But.refl b w3)).keep M3.out (fun e => NB.out e.symm))
       clear hw4 H3 B3 M3))
  have g0 := M4.out.int 0 (by decide)
  have c10 := H4.out.get1 10 (set_other E10.out _ (by decide)) (a := 292) ((HY.out.set E5.out _).off 10 rfl) (by decide)
  have z10 := H4.out.frozen 292
  by_cases s8 : u 0 = 8
  · have sb : (u 0 == 8) = true := by simp [s8]
    by_cases a2 : a = 2
    · have ab : (a == 2) = true := by simp [a2]
      have e1 : mvOf (u 0) a mv = true := by unfold mvOf; rw [if_pos (by omega)]
      have hH : ∀ wx, wx = w4.setCell ⟨b, 292, none⟩ (.bool true) → HasF 81 wx b 1072 (segs ((L.set 5 (21, iv u)).set 10 (1, fun _ => .bool (mvOf (u 0) a mv)))) ∧ HasF 69 wx w2.heap.size 21 (iv u) ∧ But b w wx := fun wx hx => by
        rw [hx, e1]
        exact ⟨H4.out.put1 10 (set_other E10.out _ (by decide)) ((HY.out.set E5.out _).off 10 rfl) (.bool true), M4.out.other _ _ (fun e => NB.out e.symm), B4.out.set _ _⟩
      clear s8 a2
      replace hH := hide hH
      clear e1
      go_upto_region 4 with fail
      refine under_name fun w5 hw5 => ?_
      obtain ⟨h5, m5, b5⟩ := hH.out w5 hw5
      have H5 := hide h5
      have M5 := hide m5
      have B5 := hide b5
      have Y5 := hide (HE.out.row b5 h5 ((HY.out.set E5.out _).set (set_other E10.out _ (by decide)) _) (set_other (set_other rfl _ (by decide)) _ (by decide)) (set_other (set_other rfl _ (by decide)) _ (by decide)))
      clear hw5 hH h5 m5 b5 H4 M4 B4 g0 c10 z10 HE
      have c6 := H5.out.get1 6 Y5.out.2.2.2.2.1 (a := 33) (Y5.out.2.2.2.1.off 6 rfl) (by decide)
      have KS := hide (rputLow_is c d f wr rd st lo bu w5 Y5.out.2.1 v x HX.out)
      go_wp2_with fail
      refine KS.out.mono ?_
      rintro e w7 ⟨rfl, h7, o7⟩
      have H7 := hide h7
      have O7 := hide o7
      clear h7 o7 KS
      go_wp2
      go_end0
      exact ⟨rfl, Y5.out.vram O7.out H7.out, (ey_but B5.out).trans (ey_two O7.out)⟩
    · have ab : (a == 2) = false := by simp [a2]
      by_cases a3 : a = 3
      · have ac : (a == 3) = true := by simp [a3]
        have e1 : mvOf (u 0) a mv = true := by unfold mvOf; rw [if_pos (by omega)]
        have hH : ∀ wx, wx = w4.setCell ⟨b, 292, none⟩ (.bool true) → HasF 81 wx b 1072 (segs ((L.set 5 (21, iv u)).set 10 (1, fun _ => .bool (mvOf (u 0) a mv)))) ∧ HasF 69 wx w2.heap.size 21 (iv u) ∧ But b w wx := fun wx hx => by
          rw [hx, e1]
          exact ⟨H4.out.put1 10 (set_other E10.out _ (by decide)) ((HY.out.set E5.out _).off 10 rfl) (.bool true), M4.out.other _ _ (fun e => NB.out e.symm), B4.out.set _ _⟩
        clear s8 a2 a3
        replace hH := hide hH
        clear e1
        go_upto_region 4 with fail
        refine under_name fun w5 hw5 => ?_
        obtain ⟨h5, m5, b5⟩ := hH.out w5 hw5
        have H5 := hide h5
        have M5 := hide m5
        have B5 := hide b5
        have Y5 := hide (HE.out.row b5 h5 ((HY.out.set E5.out _).set (set_other E10.out _ (by decide)) _) (set_other (set_other rfl _ (by decide)) _ (by decide)) (set_other (set_other rfl _ (by decide)) _ (by decide)))
        clear hw5 hH h5 m5 b5 H4 M4 B4 g0 c10 z10 HE
        have c6 := H5.out.get1 6 Y5.out.2.2.2.2.1 (a := 33) (Y5.out.2.2.2.1.off 6 rfl) (by decide)
        have KS := hide (rputLow_is c d f wr rd st lo bu w5 Y5.out.2.1 v x HX.out)
        go_wp2_with fail
        refine KS.out.mono ?_
        rintro e w7 ⟨rfl, h7, o7⟩
        have H7 := hide h7
        have O7 := hide o7
        clear h7 o7 KS
        go_wp2
        go_end0
        exact ⟨rfl, Y5.out.vram O7.out H7.out, (ey_but B5.out).trans (ey_two O7.out)⟩
      · have ac : (a == 3) = false := by simp [a3]
        have e1 : mvOf (u 0) a mv = mv := by unfold mvOf; rw [if_neg (by omega)]
        have hH : ∀ wx, wx = w4 → HasF 81 wx b 1072 (segs ((L.set 5 (21, iv u)).set 10 (1, fun _ => .bool (mvOf (u 0) a mv)))) ∧ HasF 69 wx w2.heap.size 21 (iv u) ∧ But b w wx := fun wx hx => by
          rw [hx, e1, set_id (set_other (k := 5) E10.out (21, iv u) (by decide))]
          exact ⟨H4.out, M4.out, B4.out⟩
        clear s8 a2 a3
        replace hH := hide hH
        clear e1
        go_upto_region 4 with fail
        refine under_name fun w5 hw5 => ?_
        obtain ⟨h5, m5, b5⟩ := hH.out w5 hw5
        have H5 := hide h5
        have M5 := hide m5
        have B5 := hide b5
        have Y5 := hide (HE.out.row b5 h5 ((HY.out.set E5.out _).set (set_other E10.out _ (by decide)) _) (set_other (set_other rfl _ (by decide)) _ (by decide)) (set_other (set_other rfl _ (by decide)) _ (by decide)))
        clear hw5 hH h5 m5 b5 H4 M4 B4 g0 c10 z10 HE
        have c6 := H5.out.get1 6 Y5.out.2.2.2.2.1 (a := 33) (Y5.out.2.2.2.1.off 6 rfl) (by decide)
        have KS := hide (rputLow_is c d f wr rd st lo bu w5 Y5.out.2.1 v x HX.out)
        go_wp2_with fail
        refine KS.out.mono ?_
        rintro e w7 ⟨rfl, h7, o7⟩
        have H7 := hide h7
        have O7 := hide o7
        clear h7 o7 KS
        go_wp2
        go_end0
        exact ⟨rfl, Y5.out.vram O7.out H7.out, (ey_but B5.out).trans (ey_two O7.out)⟩
  · have sb : (u 0 == 8) = false := by simp [s8]
    have e1 : mvOf (u 0) a mv = mv := by unfold mvOf; rw [if_neg (by omega)]
    have hH : ∀ wx, wx = w4 → HasF 81 wx b 1072 (segs ((L.set 5 (21, iv u)).set 10 (1, fun _ => .bool (mvOf (u 0) a mv)))) ∧ HasF 69 wx w2.heap.size 21 (iv u) ∧ But b w wx := fun wx hx => by
      rw [hx, e1, set_id (set_other (k := 5) E10.out (21, iv u) (by decide))]
      exact ⟨H4.out, M4.out, B4.out⟩
    clear s8
    replace hH := hide hH
    clear e1
    go_upto_region 4 with fail
    refine under_name fun w5 hw5 => ?_
    obtain ⟨h5, m5, b5⟩ := hH.out w5 hw5
    have H5 := hide h5
    have M5 := hide m5
    have B5 := hide b5
    have Y5 := hide (HE.out.row b5 h5 ((HY.out.set E5.out _).set (set_other E10.out _ (by decide)) _) (set_other (set_other rfl _ (by decide)) _ (by decide)) (set_other (set_other rfl _ (by decide)) _ (by decide)))
    clear hw5 hH h5 m5 b5 H4 M4 B4 g0 c10 z10 HE
    have c6 := H5.out.get1 6 Y5.out.2.2.2.2.1 (a := 33) (Y5.out.2.2.2.1.off 6 rfl) (by decide)
    have KS := hide (rputLow_is c d f wr rd st lo bu w5 Y5.out.2.1 v x HX.out)
    go_wp2_with fail
    refine KS.out.mono ?_
    rintro e w7 ⟨rfl, h7, o7⟩
    have H7 := hide h7
    have O7 := hide o7
    clear h7 o7 KS
    go_wp2
    go_end0
    exact ⟨rfl, Y5.out.vram O7.out H7.out, (ey_but B5.out).trans (ey_two O7.out)⟩
set_option maxHeartbeats 2000000 in
theorem ydraw_putHigh {w : World} {b c d r : Nat} {L : List (Nat × (Nat → Value))} {f : Nat → Int} {wr rd st lo bu : Int} {ram : Nat → Int} (h : HasY w b c d r L f wr rd st lo bu ram) (a v : Int) {g : Nat → Value} (h5 : L[5]? = some (21, g)) {u : Nat → Int} (KW : ∀ w, Calls Tryz.prog 100 #[.agg (rowF g 21), .int .i64 a, .int .i64 v] w fun e w' => e = Ending.returned (.tuple #[.agg (rowF (iv u) 21), .int .i64 4]) ∧ Below w.heap.size w w') {mv : Bool} (h10 : L[10]? = some (1, fun _ => .bool mv)) (x y : Int) (F : Nat → Int) (hx : lo % 256 + 256 * (v % 256) = x) (hF : pokeAt f wr x = F) (hw0 : 0 ≤ wr) (hw1 : wr < 65536) (hs0 : 0 ≤ st) (hs1 : st < 65536) (hy : (wr + st) % 65536 = y) : Calls Tryz.prog 51 #[.pointer (some ⟨b, 0, none⟩), .int .i64 a, .int .i64 v] w fun e w' => e = Ending.returned (.tuple #[]) ∧ HasY w' b c d r ((L.set 5 (21, iv u)).set 10 (1, fun _ => .bool (mvOf (u 0) a mv))) F y rd st lo bu ram ∧ OnlyE (EY b c d r) w w' := by
  have HX := hide (And.intro hx (And.intro hF (And.intro hw0 (And.intro hw1 (And.intro hs0 (And.intro hs1 hy))))))
  clear hx hF hw0 hw1 hs0 hs1 hy
  have hY := h.2.2.2.1
  have SG := hide (h.1.seg 5 h5 (a := 12) (hY.off 5 rfl))
  have HE := hide h
  have H := hide h.1
  have E5 := hide h5
  have E10 := hide h10
  have HY := hide hY
  have W0 := hide KW
  have ZO : Hid ((rowF (iv u) 21).all (·.oneCell') = true) := hide (rowF_one u 21)
  have ZI : Hid ((Tryz.prog.info? 69).map (·.size) = some (rowF (iv u) 21).size) := hide (by rw [rowF_size]; kernel_rfl)
  have ZS : Hid ((rowF (iv fun _ => 0) 21).size = (rowF (iv u) 21).size) := hide (by rw [rowF_size, rowF_size])
  clear h h5 h10 hY KW
  go_enter Tryz.func51, Tryz.ntmps51
  go_wp2_with (first
    | (refine wpList_load_part rfl 69 (.tmp 13) rfl b 12 rfl H.out 21 (by decide) g SG.out _ Tryz.underlying69 rfl (by kernel_rfl) ?_))
  refine (W0.out _).mono ?_
  rintro e w2 ⟨rfl, b2⟩
  have H2 := hide (H.out.next b2)
  have B2 := hide (But.of (b := b) b2)
  have NB := hide (show b ≠ w2.heap.size from Nat.ne_of_lt (Nat.lt_of_lt_of_le H.out.lt b2.size))
  have SZ := hide b2.size
  clear b2 W0 H SG
  go_upto_region 2 with (first
    | (refine wpList_alloced rfl 69 rfl (rowF (iv fun _ => 0) 21) zero_G21 ?_)
    | (refine wpList_store_row rfl 69 (.tmp 6) (.tmp 18) rfl w2.heap.size _ rfl rfl 69 _ (hasF_new _ _ _ _) ZI.out ZS.out ZO.out ?_
       refine under_list fun w3 hw3 => ?_
       have W3 : Below w2.heap.size w2 w3 := (by rw [hw3]; exact below_setRow ((Below.refl _ _).alloc (Nat.le_refl _) _) (Nat.le_refl _) _)
       have M3 : Hid (HasF 69 w3 w2.heap.size 21 (iv u)) := hide (by rw [hw3]; exact setRow_heap _ _ _ _ _ _ (hasF_new _ _ _ _))
       have H3 := hide (H2.out.next W3)
       have B3 := hide (B2.out.andBelow W3)
       clear hw3 W3 H2 B2)
    | (refine wpList_load_row rfl 69 (.tmp 6) rfl w2.heap.size rfl _ _ _ _ M3.out Tryz.underlying69 rfl ZI.out ?_)
    | (refine wpList_store_part rfl 69 (.tmp 23) (.tmp 21) rfl b 12 21 (iv u) rfl rfl H3.out (by decide) (by kernel_rfl) (fun _ _ => rfl) ?_
       refine under_list fun w4 hw4 => ?_
       have H4 : Hid (HasF 81 w4 b 1072 (segs (L.set 5 (21, iv u)))) := hide (by rw [hw4]; exact H3.out.lay 5 E5.out (iv u) (HY.out.off 5 rfl))
       have B4 : Hid (But b w w4) := hide (by rw [hw4]; exact But.cells _ _ _ B3.out)
       have M4 : Hid (HasF 69 w4 w2.heap.size 21 (iv u)) := hide (by rw [hw4]; exact (But.cells _ _ _ (But.refl b w3)).keep M3.out (fun e => NB.out e.symm))
       clear hw4 H3 B3 M3))
  have g0 := M4.out.int 0 (by decide)
  have c10 := H4.out.get1 10 (set_other E10.out _ (by decide)) (a := 292) ((HY.out.set E5.out _).off 10 rfl) (by decide)
  have z10 := H4.out.frozen 292
  by_cases s8 : u 0 = 8
  · have sb : (u 0 == 8) = true := by simp [s8]
    by_cases a2 : a = 2
    · have ab : (a == 2) = true := by simp [a2]
      have e1 : mvOf (u 0) a mv = true := by unfold mvOf; rw [if_pos (by omega)]
      have hH : ∀ wx, wx = w4.setCell ⟨b, 292, none⟩ (.bool true) → HasF 81 wx b 1072 (segs ((L.set 5 (21, iv u)).set 10 (1, fun _ => .bool (mvOf (u 0) a mv)))) ∧ HasF 69 wx w2.heap.size 21 (iv u) ∧ But b w wx := fun wx hx => by
        rw [hx, e1]
        exact ⟨H4.out.put1 10 (set_other E10.out _ (by decide)) ((HY.out.set E5.out _).off 10 rfl) (.bool true), M4.out.other _ _ (fun e => NB.out e.symm), B4.out.set _ _⟩
      clear s8 a2
      replace hH := hide hH
      clear e1
      go_upto_region 4 with fail
      refine under_name fun w5 hw5 => ?_
      obtain ⟨h5, m5, b5⟩ := hH.out w5 hw5
      have H5 := hide h5
      have M5 := hide m5
      have B5 := hide b5
      have Y5 := hide (HE.out.row b5 h5 ((HY.out.set E5.out _).set (set_other E10.out _ (by decide)) _) (set_other (set_other rfl _ (by decide)) _ (by decide)) (set_other (set_other rfl _ (by decide)) _ (by decide)))
      clear hw5 hH h5 m5 b5 H4 M4 B4 g0 c10 z10 HE
      have c6 := H5.out.get1 6 Y5.out.2.2.2.2.1 (a := 33) (Y5.out.2.2.2.1.off 6 rfl) (by decide)
      have KS := hide (rputHigh_is c d f wr rd st lo bu w5 Y5.out.2.1 v x y F HX.out.1 HX.out.2.1 HX.out.2.2.1 HX.out.2.2.2.1 HX.out.2.2.2.2.1 HX.out.2.2.2.2.2.1 HX.out.2.2.2.2.2.2)
      go_wp2_with fail
      refine KS.out.mono ?_
      rintro e w7 ⟨rfl, h7, o7⟩
      have H7 := hide h7
      have O7 := hide o7
      clear h7 o7 KS
      go_wp2
      go_end0
      exact ⟨rfl, Y5.out.vram O7.out H7.out, (ey_but B5.out).trans (ey_two O7.out)⟩
    · have ab : (a == 2) = false := by simp [a2]
      by_cases a3 : a = 3
      · have ac : (a == 3) = true := by simp [a3]
        have e1 : mvOf (u 0) a mv = true := by unfold mvOf; rw [if_pos (by omega)]
        have hH : ∀ wx, wx = w4.setCell ⟨b, 292, none⟩ (.bool true) → HasF 81 wx b 1072 (segs ((L.set 5 (21, iv u)).set 10 (1, fun _ => .bool (mvOf (u 0) a mv)))) ∧ HasF 69 wx w2.heap.size 21 (iv u) ∧ But b w wx := fun wx hx => by
          rw [hx, e1]
          exact ⟨H4.out.put1 10 (set_other E10.out _ (by decide)) ((HY.out.set E5.out _).off 10 rfl) (.bool true), M4.out.other _ _ (fun e => NB.out e.symm), B4.out.set _ _⟩
        clear s8 a2 a3
        replace hH := hide hH
        clear e1
        go_upto_region 4 with fail
        refine under_name fun w5 hw5 => ?_
        obtain ⟨h5, m5, b5⟩ := hH.out w5 hw5
        have H5 := hide h5
        have M5 := hide m5
        have B5 := hide b5
        have Y5 := hide (HE.out.row b5 h5 ((HY.out.set E5.out _).set (set_other E10.out _ (by decide)) _) (set_other (set_other rfl _ (by decide)) _ (by decide)) (set_other (set_other rfl _ (by decide)) _ (by decide)))
        clear hw5 hH h5 m5 b5 H4 M4 B4 g0 c10 z10 HE
        have c6 := H5.out.get1 6 Y5.out.2.2.2.2.1 (a := 33) (Y5.out.2.2.2.1.off 6 rfl) (by decide)
        have KS := hide (rputHigh_is c d f wr rd st lo bu w5 Y5.out.2.1 v x y F HX.out.1 HX.out.2.1 HX.out.2.2.1 HX.out.2.2.2.1 HX.out.2.2.2.2.1 HX.out.2.2.2.2.2.1 HX.out.2.2.2.2.2.2)
        go_wp2_with fail
        refine KS.out.mono ?_
        rintro e w7 ⟨rfl, h7, o7⟩
        have H7 := hide h7
        have O7 := hide o7
        clear h7 o7 KS
        go_wp2
        go_end0
        exact ⟨rfl, Y5.out.vram O7.out H7.out, (ey_but B5.out).trans (ey_two O7.out)⟩
      · have ac : (a == 3) = false := by simp [a3]
        have e1 : mvOf (u 0) a mv = mv := by unfold mvOf; rw [if_neg (by omega)]
        have hH : ∀ wx, wx = w4 → HasF 81 wx b 1072 (segs ((L.set 5 (21, iv u)).set 10 (1, fun _ => .bool (mvOf (u 0) a mv)))) ∧ HasF 69 wx w2.heap.size 21 (iv u) ∧ But b w wx := fun wx hx => by
          rw [hx, e1, set_id (set_other (k := 5) E10.out (21, iv u) (by decide))]
          exact ⟨H4.out, M4.out, B4.out⟩
        clear s8 a2 a3
        replace hH := hide hH
        clear e1
        go_upto_region 4 with fail
        refine under_name fun w5 hw5 => ?_
        obtain ⟨h5, m5, b5⟩ := hH.out w5 hw5
        have H5 := hide h5
        have M5 := hide m5
        have B5 := hide b5
        have Y5 := hide (HE.out.row b5 h5 ((HY.out.set E5.out _).set (set_other E10.out _ (by decide)) _) (set_other (set_other rfl _ (by decide)) _ (by decide)) (set_other (set_other rfl _ (by decide)) _ (by decide)))
        clear hw5 hH h5 m5 b5 H4 M4 B4 g0 c10 z10 HE
        have c6 := H5.out.get1 6 Y5.out.2.2.2.2.1 (a := 33) (Y5.out.2.2.2.1.off 6 rfl) (by decide)
        have KS := hide (rputHigh_is c d f wr rd st lo bu w5 Y5.out.2.1 v x y F HX.out.1 HX.out.2.1 HX.out.2.2.1 HX.out.2.2.2.1 HX.out.2.2.2.2.1 HX.out.2.2.2.2.2.1 HX.out.2.2.2.2.2.2)
        go_wp2_with fail
        refine KS.out.mono ?_
        rintro e w7 ⟨rfl, h7, o7⟩
        have H7 := hide h7
        have O7 := hide o7
        clear h7 o7 KS
        go_wp2
        go_end0
        exact ⟨rfl, Y5.out.vram O7.out H7.out, (ey_but B5.out).trans (ey_two O7.out)⟩
  · have sb : (u 0 == 8) = false := by simp [s8]
    have e1 : mvOf (u 0) a mv = mv := by unfold mvOf; rw [if_neg (by omega)]
    have hH : ∀ wx, wx = w4 → HasF 81 wx b 1072 (segs ((L.set 5 (21, iv u)).set 10 (1, fun _ => .bool (mvOf (u 0) a mv)))) ∧ HasF 69 wx w2.heap.size 21 (iv u) ∧ But b w wx := fun wx hx => by
      rw [hx, e1, set_id (set_other (k := 5) E10.out (21, iv u) (by decide))]
      exact ⟨H4.out, M4.out, B4.out⟩
    clear s8
    replace hH := hide hH
    clear e1
    go_upto_region 4 with fail
    refine under_name fun w5 hw5 => ?_
    obtain ⟨h5, m5, b5⟩ := hH.out w5 hw5
    have H5 := hide h5
    have M5 := hide m5
    have B5 := hide b5
    have Y5 := hide (HE.out.row b5 h5 ((HY.out.set E5.out _).set (set_other E10.out _ (by decide)) _) (set_other (set_other rfl _ (by decide)) _ (by decide)) (set_other (set_other rfl _ (by decide)) _ (by decide)))
    clear hw5 hH h5 m5 b5 H4 M4 B4 g0 c10 z10 HE
    have c6 := H5.out.get1 6 Y5.out.2.2.2.2.1 (a := 33) (Y5.out.2.2.2.1.off 6 rfl) (by decide)
    have KS := hide (rputHigh_is c d f wr rd st lo bu w5 Y5.out.2.1 v x y F HX.out.1 HX.out.2.1 HX.out.2.2.1 HX.out.2.2.2.1 HX.out.2.2.2.2.1 HX.out.2.2.2.2.2.1 HX.out.2.2.2.2.2.2)
    go_wp2_with fail
    refine KS.out.mono ?_
    rintro e w7 ⟨rfl, h7, o7⟩
    have H7 := hide h7
    have O7 := hide o7
    clear h7 o7 KS
    go_wp2
    go_end0
    exact ⟨rfl, Y5.out.vram O7.out H7.out, (ey_but B5.out).trans (ey_two O7.out)⟩
set_option maxHeartbeats 2000000 in
theorem ydraw_step {w : World} {b c d r : Nat} {L : List (Nat × (Nat → Value))} {f : Nat → Int} {wr rd st lo bu : Int} {ram : Nat → Int} (h : HasY w b c d r L f wr rd st lo bu ram) (a v : Int) {g : Nat → Value} (h5 : L[5]? = some (21, g)) {u : Nat → Int} (KW : ∀ w, Calls Tryz.prog 100 #[.agg (rowF g 21), .int .i64 a, .int .i64 v] w fun e w' => e = Ending.returned (.tuple #[.agg (rowF (iv u) 21), .int .i64 5]) ∧ Below w.heap.size w w') {mv : Bool} (h10 : L[10]? = some (1, fun _ => .bool mv)) {z : Int} (KF : ∀ w, Calls Tryz.prog 103 #[.agg (rowF (iv u) 21)] w fun e w' => e = Ending.returned (.int .i64 z) ∧ Below w.heap.size w w') : Calls Tryz.prog 51 #[.pointer (some ⟨b, 0, none⟩), .int .i64 a, .int .i64 v] w fun e w' => e = Ending.returned (.tuple #[]) ∧ HasY w' b c d r ((L.set 5 (21, iv u)).set 10 (1, fun _ => .bool (mvOf (u 0) a mv))) f wr rd z lo bu ram ∧ OnlyE (EY b c d r) w w' := by
  have KG := hide KF
  clear KF
  have hY := h.2.2.2.1
  have SG := hide (h.1.seg 5 h5 (a := 12) (hY.off 5 rfl))
  have HE := hide h
  have H := hide h.1
  have E5 := hide h5
  have E10 := hide h10
  have HY := hide hY
  have W0 := hide KW
  have ZO : Hid ((rowF (iv u) 21).all (·.oneCell') = true) := hide (rowF_one u 21)
  have ZI : Hid ((Tryz.prog.info? 69).map (·.size) = some (rowF (iv u) 21).size) := hide (by rw [rowF_size]; kernel_rfl)
  have ZS : Hid ((rowF (iv fun _ => 0) 21).size = (rowF (iv u) 21).size) := hide (by rw [rowF_size, rowF_size])
  clear h h5 h10 hY KW
  go_enter Tryz.func51, Tryz.ntmps51
  go_wp2_with (first
    | (refine wpList_load_part rfl 69 (.tmp 13) rfl b 12 rfl H.out 21 (by decide) g SG.out _ Tryz.underlying69 rfl (by kernel_rfl) ?_))
  refine (W0.out _).mono ?_
  rintro e w2 ⟨rfl, b2⟩
  have H2 := hide (H.out.next b2)
  have B2 := hide (But.of (b := b) b2)
  have NB := hide (show b ≠ w2.heap.size from Nat.ne_of_lt (Nat.lt_of_lt_of_le H.out.lt b2.size))
  have SZ := hide b2.size
  clear b2 W0 H SG
  go_upto_region 2 with (first
    | (refine wpList_alloced rfl 69 rfl (rowF (iv fun _ => 0) 21) zero_G21 ?_)
    | (refine wpList_store_row rfl 69 (.tmp 6) (.tmp 18) rfl w2.heap.size _ rfl rfl 69 _ (hasF_new _ _ _ _) ZI.out ZS.out ZO.out ?_
       refine under_list fun w3 hw3 => ?_
       have W3 : Below w2.heap.size w2 w3 := (by rw [hw3]; exact below_setRow ((Below.refl _ _).alloc (Nat.le_refl _) _) (Nat.le_refl _) _)
       have M3 : Hid (HasF 69 w3 w2.heap.size 21 (iv u)) := hide (by rw [hw3]; exact setRow_heap _ _ _ _ _ _ (hasF_new _ _ _ _))
       have H3 := hide (H2.out.next W3)
       have B3 := hide (B2.out.andBelow W3)
       clear hw3 W3 H2 B2)
    | (refine wpList_load_row rfl 69 (.tmp 6) rfl w2.heap.size rfl _ _ _ _ M3.out Tryz.underlying69 rfl ZI.out ?_)
    | (refine wpList_store_part rfl 69 (.tmp 23) (.tmp 21) rfl b 12 21 (iv u) rfl rfl H3.out (by decide) (by kernel_rfl) (fun _ _ => rfl) ?_
       refine under_list fun w4 hw4 => ?_
       have H4 : Hid (HasF 81 w4 b 1072 (segs (L.set 5 (21, iv u)))) := hide (by rw [hw4]; exact H3.out.lay 5 E5.out (iv u) (HY.out.off 5 rfl))
       have B4 : Hid (But b w w4) := hide (by rw [hw4]; exact But.cells _ _ _ B3.out)
       have M4 : Hid (HasF 69 w4 w2.heap.size 21 (iv u)) := hide (by rw [hw4]; exact (But.cells _ _ _ (But.refl b w3)).keep M3.out (fun e => NB.out e.symm))
       clear hw4 H3 B3 M3))
  have g0 := M4.out.int 0 (by decide)
  have c10 := H4.out.get1 10 (set_other E10.out _ (by decide)) (a := 292) ((HY.out.set E5.out _).off 10 rfl) (by decide)
  have z10 := H4.out.frozen 292
  by_cases s8 : u 0 = 8
  · have sb : (u 0 == 8) = true := by simp [s8]
    by_cases a2 : a = 2
    · have ab : (a == 2) = true := by simp [a2]
      have e1 : mvOf (u 0) a mv = true := by unfold mvOf; rw [if_pos (by omega)]
      have hH : ∀ wx, wx = w4.setCell ⟨b, 292, none⟩ (.bool true) → HasF 81 wx b 1072 (segs ((L.set 5 (21, iv u)).set 10 (1, fun _ => .bool (mvOf (u 0) a mv)))) ∧ HasF 69 wx w2.heap.size 21 (iv u) ∧ But b w wx := fun wx hx => by
        rw [hx, e1]
        exact ⟨H4.out.put1 10 (set_other E10.out _ (by decide)) ((HY.out.set E5.out _).off 10 rfl) (.bool true), M4.out.other _ _ (fun e => NB.out e.symm), B4.out.set _ _⟩
      clear s8 a2
      replace hH := hide hH
      clear e1
      go_upto_region 4 with fail
      refine under_name fun w5 hw5 => ?_
      obtain ⟨h5, m5, b5⟩ := hH.out w5 hw5
      have H5 := hide h5
      have M5 := hide m5
      have B5 := hide b5
      have Y5 := hide (HE.out.row b5 h5 ((HY.out.set E5.out _).set (set_other E10.out _ (by decide)) _) (set_other (set_other rfl _ (by decide)) _ (by decide)) (set_other (set_other rfl _ (by decide)) _ (by decide)))
      clear hw5 hH h5 m5 b5 H4 M4 B4 g0 c10 z10 HE
      have c6 := H5.out.get1 6 Y5.out.2.2.2.2.1 (a := 33) (Y5.out.2.2.2.1.off 6 rfl) (by decide)
      have i6 := kept_cell c6 H5.out.lt
      have RQ := hide (M5.out.range 0 21 (by decide))
      simp only [Nat.zero_add] at RQ
      have HL := hide M5.out.lt
      go_wp2_with fail
      haveI := kept_some w5
      refine wp_region_kept_shut _ _ (show _ = [_, _, _, _, _, _, _, _] ++ [_] from rfl) (by kernel_rfl) (by kernel_rfl) (by kernel_rfl) ?_
      repeat (first
        | (refine wpQuiet_mid rfl 69 (.tmp 6) rfl w2.heap.size 0 rfl (rowF (iv u) 21) _ (fun w' ⟨x, hx⟩ => by rw [hx]; intro j v hv; rw [x.cell w2.heap.size _ HL.out]; exact RQ.out j v hv) Tryz.underlying69 rfl ZI.out ?_; simp only [Act.put, List.setIfInBounds_toArray, List.set_cons_succ, List.set_cons_zero])
        | go_big_quiet_step ((go_at_call 103; exact kept_call (KG.out _))))
      refine wpQuiet_nil ?_
      rintro _ ⟨wk, rfl⟩
      have Y6 := hide (Y5.out.next wk.below)
      have B6 := hide (B5.out.andBelow wk.below)
      generalize wk.val = w6 at *
      clear i6 c6 RQ HL
      have k1 := Y6.out.2.1.c3
      have z1 := Y6.out.2.1.frozen 3
      go_wp2
      go_end0
      exact ⟨rfl, Y6.out.vram ((Only2.refl c d w6).setc _ _) (Y6.out.2.1.set3 _), (ey_but B6.out).trans (ey_two ((Only2.refl c d w6).setc _ _))⟩
    · have ab : (a == 2) = false := by simp [a2]
      by_cases a3 : a = 3
      · have ac : (a == 3) = true := by simp [a3]
        have e1 : mvOf (u 0) a mv = true := by unfold mvOf; rw [if_pos (by omega)]
        have hH : ∀ wx, wx = w4.setCell ⟨b, 292, none⟩ (.bool true) → HasF 81 wx b 1072 (segs ((L.set 5 (21, iv u)).set 10 (1, fun _ => .bool (mvOf (u 0) a mv)))) ∧ HasF 69 wx w2.heap.size 21 (iv u) ∧ But b w wx := fun wx hx => by
          rw [hx, e1]
          exact ⟨H4.out.put1 10 (set_other E10.out _ (by decide)) ((HY.out.set E5.out _).off 10 rfl) (.bool true), M4.out.other _ _ (fun e => NB.out e.symm), B4.out.set _ _⟩
        clear s8 a2 a3
        replace hH := hide hH
        clear e1
        go_upto_region 4 with fail
        refine under_name fun w5 hw5 => ?_
        obtain ⟨h5, m5, b5⟩ := hH.out w5 hw5
        have H5 := hide h5
        have M5 := hide m5
        have B5 := hide b5
        have Y5 := hide (HE.out.row b5 h5 ((HY.out.set E5.out _).set (set_other E10.out _ (by decide)) _) (set_other (set_other rfl _ (by decide)) _ (by decide)) (set_other (set_other rfl _ (by decide)) _ (by decide)))
        clear hw5 hH h5 m5 b5 H4 M4 B4 g0 c10 z10 HE
        have c6 := H5.out.get1 6 Y5.out.2.2.2.2.1 (a := 33) (Y5.out.2.2.2.1.off 6 rfl) (by decide)
        have i6 := kept_cell c6 H5.out.lt
        have RQ := hide (M5.out.range 0 21 (by decide))
        simp only [Nat.zero_add] at RQ
        have HL := hide M5.out.lt
        go_wp2_with fail
        haveI := kept_some w5
        refine wp_region_kept_shut _ _ (show _ = [_, _, _, _, _, _, _, _] ++ [_] from rfl) (by kernel_rfl) (by kernel_rfl) (by kernel_rfl) ?_
        repeat (first
          | (refine wpQuiet_mid rfl 69 (.tmp 6) rfl w2.heap.size 0 rfl (rowF (iv u) 21) _ (fun w' ⟨x, hx⟩ => by rw [hx]; intro j v hv; rw [x.cell w2.heap.size _ HL.out]; exact RQ.out j v hv) Tryz.underlying69 rfl ZI.out ?_; simp only [Act.put, List.setIfInBounds_toArray, List.set_cons_succ, List.set_cons_zero])
          | go_big_quiet_step ((go_at_call 103; exact kept_call (KG.out _))))
        refine wpQuiet_nil ?_
        rintro _ ⟨wk, rfl⟩
        have Y6 := hide (Y5.out.next wk.below)
        have B6 := hide (B5.out.andBelow wk.below)
        generalize wk.val = w6 at *
        clear i6 c6 RQ HL
        have k1 := Y6.out.2.1.c3
        have z1 := Y6.out.2.1.frozen 3
        go_wp2
        go_end0
        exact ⟨rfl, Y6.out.vram ((Only2.refl c d w6).setc _ _) (Y6.out.2.1.set3 _), (ey_but B6.out).trans (ey_two ((Only2.refl c d w6).setc _ _))⟩
      · have ac : (a == 3) = false := by simp [a3]
        have e1 : mvOf (u 0) a mv = mv := by unfold mvOf; rw [if_neg (by omega)]
        have hH : ∀ wx, wx = w4 → HasF 81 wx b 1072 (segs ((L.set 5 (21, iv u)).set 10 (1, fun _ => .bool (mvOf (u 0) a mv)))) ∧ HasF 69 wx w2.heap.size 21 (iv u) ∧ But b w wx := fun wx hx => by
          rw [hx, e1, set_id (set_other (k := 5) E10.out (21, iv u) (by decide))]
          exact ⟨H4.out, M4.out, B4.out⟩
        clear s8 a2 a3
        replace hH := hide hH
        clear e1
        go_upto_region 4 with fail
        refine under_name fun w5 hw5 => ?_
        obtain ⟨h5, m5, b5⟩ := hH.out w5 hw5
        have H5 := hide h5
        have M5 := hide m5
        have B5 := hide b5
        have Y5 := hide (HE.out.row b5 h5 ((HY.out.set E5.out _).set (set_other E10.out _ (by decide)) _) (set_other (set_other rfl _ (by decide)) _ (by decide)) (set_other (set_other rfl _ (by decide)) _ (by decide)))
        clear hw5 hH h5 m5 b5 H4 M4 B4 g0 c10 z10 HE
        have c6 := H5.out.get1 6 Y5.out.2.2.2.2.1 (a := 33) (Y5.out.2.2.2.1.off 6 rfl) (by decide)
        have i6 := kept_cell c6 H5.out.lt
        have RQ := hide (M5.out.range 0 21 (by decide))
        simp only [Nat.zero_add] at RQ
        have HL := hide M5.out.lt
        go_wp2_with fail
        haveI := kept_some w5
        refine wp_region_kept_shut _ _ (show _ = [_, _, _, _, _, _, _, _] ++ [_] from rfl) (by kernel_rfl) (by kernel_rfl) (by kernel_rfl) ?_
        repeat (first
          | (refine wpQuiet_mid rfl 69 (.tmp 6) rfl w2.heap.size 0 rfl (rowF (iv u) 21) _ (fun w' ⟨x, hx⟩ => by rw [hx]; intro j v hv; rw [x.cell w2.heap.size _ HL.out]; exact RQ.out j v hv) Tryz.underlying69 rfl ZI.out ?_; simp only [Act.put, List.setIfInBounds_toArray, List.set_cons_succ, List.set_cons_zero])
          | go_big_quiet_step ((go_at_call 103; exact kept_call (KG.out _))))
        refine wpQuiet_nil ?_
        rintro _ ⟨wk, rfl⟩
        have Y6 := hide (Y5.out.next wk.below)
        have B6 := hide (B5.out.andBelow wk.below)
        generalize wk.val = w6 at *
        clear i6 c6 RQ HL
        have k1 := Y6.out.2.1.c3
        have z1 := Y6.out.2.1.frozen 3
        go_wp2
        go_end0
        exact ⟨rfl, Y6.out.vram ((Only2.refl c d w6).setc _ _) (Y6.out.2.1.set3 _), (ey_but B6.out).trans (ey_two ((Only2.refl c d w6).setc _ _))⟩
  · have sb : (u 0 == 8) = false := by simp [s8]
    have e1 : mvOf (u 0) a mv = mv := by unfold mvOf; rw [if_neg (by omega)]
    have hH : ∀ wx, wx = w4 → HasF 81 wx b 1072 (segs ((L.set 5 (21, iv u)).set 10 (1, fun _ => .bool (mvOf (u 0) a mv)))) ∧ HasF 69 wx w2.heap.size 21 (iv u) ∧ But b w wx := fun wx hx => by
      rw [hx, e1, set_id (set_other (k := 5) E10.out (21, iv u) (by decide))]
      exact ⟨H4.out, M4.out, B4.out⟩
    clear s8
    replace hH := hide hH
    clear e1
    go_upto_region 4 with fail
    refine under_name fun w5 hw5 => ?_
    obtain ⟨h5, m5, b5⟩ := hH.out w5 hw5
    have H5 := hide h5
    have M5 := hide m5
    have B5 := hide b5
    have Y5 := hide (HE.out.row b5 h5 ((HY.out.set E5.out _).set (set_other E10.out _ (by decide)) _) (set_other (set_other rfl _ (by decide)) _ (by decide)) (set_other (set_other rfl _ (by decide)) _ (by decide)))
    clear hw5 hH h5 m5 b5 H4 M4 B4 g0 c10 z10 HE
    have c6 := H5.out.get1 6 Y5.out.2.2.2.2.1 (a := 33) (Y5.out.2.2.2.1.off 6 rfl) (by decide)
    have i6 := kept_cell c6 H5.out.lt
    have RQ := hide (M5.out.range 0 21 (by decide))
    simp only [Nat.zero_add] at RQ
    have HL := hide M5.out.lt
    go_wp2_with fail
    haveI := kept_some w5
    refine wp_region_kept_shut _ _ (show _ = [_, _, _, _, _, _, _, _] ++ [_] from rfl) (by kernel_rfl) (by kernel_rfl) (by kernel_rfl) ?_
    repeat (first
      | (refine wpQuiet_mid rfl 69 (.tmp 6) rfl w2.heap.size 0 rfl (rowF (iv u) 21) _ (fun w' ⟨x, hx⟩ => by rw [hx]; intro j v hv; rw [x.cell w2.heap.size _ HL.out]; exact RQ.out j v hv) Tryz.underlying69 rfl ZI.out ?_; simp only [Act.put, List.setIfInBounds_toArray, List.set_cons_succ, List.set_cons_zero])
      | go_big_quiet_step ((go_at_call 103; exact kept_call (KG.out _))))
    refine wpQuiet_nil ?_
    rintro _ ⟨wk, rfl⟩
    have Y6 := hide (Y5.out.next wk.below)
    have B6 := hide (B5.out.andBelow wk.below)
    generalize wk.val = w6 at *
    clear i6 c6 RQ HL
    have k1 := Y6.out.2.1.c3
    have z1 := Y6.out.2.1.frozen 3
    go_wp2
    go_end0
    exact ⟨rfl, Y6.out.vram ((Only2.refl c d w6).setc _ _) (Y6.out.2.1.set3 _), (ey_but B6.out).trans (ey_two ((Only2.refl c d w6).setc _ _))⟩
set_option maxHeartbeats 2000000 in
theorem ydraw_sat {w : World} {b c d r : Nat} {L : List (Nat × (Nat → Value))} {f : Nat → Int} {wr rd st lo bu : Int} {ram : Nat → Int} (h : HasY w b c d r L f wr rd st lo bu ram) (a v : Int) {g : Nat → Value} (h5 : L[5]? = some (21, g)) {u : Nat → Int} (KW : ∀ w, Calls Tryz.prog 100 #[.agg (rowF g 21), .int .i64 a, .int .i64 v] w fun e w' => e = Ending.returned (.tuple #[.agg (rowF (iv u) 21), .int .i64 7]) ∧ Below w.heap.size w w') {mv : Bool} (h10 : L[10]? = some (1, fun _ => .bool mv)) {wt : Bool} (h9 : L[9]? = some (1, fun _ => .bool wt)) : Calls Tryz.prog 51 #[.pointer (some ⟨b, 0, none⟩), .int .i64 a, .int .i64 v] w fun e w' => e = Ending.returned (.tuple #[]) ∧ HasY w' b c d r (((L.set 5 (21, iv u)).set 10 (1, fun _ => .bool (mvOf (u 0) a mv))).set 9 (1, fun _ => .bool true)) f wr rd st lo bu ram ∧ OnlyE (EY b c d r) w w' := by
  have E9 := hide h9
  clear h9
  have hY := h.2.2.2.1
  have SG := hide (h.1.seg 5 h5 (a := 12) (hY.off 5 rfl))
  have HE := hide h
  have H := hide h.1
  have E5 := hide h5
  have E10 := hide h10
  have HY := hide hY
  have W0 := hide KW
  have ZO : Hid ((rowF (iv u) 21).all (·.oneCell') = true) := hide (rowF_one u 21)
  have ZI : Hid ((Tryz.prog.info? 69).map (·.size) = some (rowF (iv u) 21).size) := hide (by rw [rowF_size]; kernel_rfl)
  have ZS : Hid ((rowF (iv fun _ => 0) 21).size = (rowF (iv u) 21).size) := hide (by rw [rowF_size, rowF_size])
  clear h h5 h10 hY KW
  go_enter Tryz.func51, Tryz.ntmps51
  go_wp2_with (first
    | (refine wpList_load_part rfl 69 (.tmp 13) rfl b 12 rfl H.out 21 (by decide) g SG.out _ Tryz.underlying69 rfl (by kernel_rfl) ?_))
  refine (W0.out _).mono ?_
  rintro e w2 ⟨rfl, b2⟩
  have H2 := hide (H.out.next b2)
  have B2 := hide (But.of (b := b) b2)
  have NB := hide (show b ≠ w2.heap.size from Nat.ne_of_lt (Nat.lt_of_lt_of_le H.out.lt b2.size))
  have SZ := hide b2.size
  clear b2 W0 H SG
  go_upto_region 2 with (first
    | (refine wpList_alloced rfl 69 rfl (rowF (iv fun _ => 0) 21) zero_G21 ?_)
    | (refine wpList_store_row rfl 69 (.tmp 6) (.tmp 18) rfl w2.heap.size _ rfl rfl 69 _ (hasF_new _ _ _ _) ZI.out ZS.out ZO.out ?_
       refine under_list fun w3 hw3 => ?_
       have W3 : Below w2.heap.size w2 w3 := (by rw [hw3]; exact below_setRow ((Below.refl _ _).alloc (Nat.le_refl _) _) (Nat.le_refl _) _)
       have M3 : Hid (HasF 69 w3 w2.heap.size 21 (iv u)) := hide (by rw [hw3]; exact setRow_heap _ _ _ _ _ _ (hasF_new _ _ _ _))
       have H3 := hide (H2.out.next W3)
       have B3 := hide (B2.out.andBelow W3)
       clear hw3 W3 H2 B2)
    | (refine wpList_load_row rfl 69 (.tmp 6) rfl w2.heap.size rfl _ _ _ _ M3.out Tryz.underlying69 rfl ZI.out ?_)
    | (refine wpList_store_part rfl 69 (.tmp 23) (.tmp 21) rfl b 12 21 (iv u) rfl rfl H3.out (by decide) (by kernel_rfl) (fun _ _ => rfl) ?_
       refine under_list fun w4 hw4 => ?_
       have H4 : Hid (HasF 81 w4 b 1072 (segs (L.set 5 (21, iv u)))) := hide (by rw [hw4]; exact H3.out.lay 5 E5.out (iv u) (HY.out.off 5 rfl))
       have B4 : Hid (But b w w4) := hide (by rw [hw4]; exact But.cells _ _ _ B3.out)
       have M4 : Hid (HasF 69 w4 w2.heap.size 21 (iv u)) := hide (by rw [hw4]; exact (But.cells _ _ _ (But.refl b w3)).keep M3.out (fun e => NB.out e.symm))
       clear hw4 H3 B3 M3))
  have g0 := M4.out.int 0 (by decide)
  have c10 := H4.out.get1 10 (set_other E10.out _ (by decide)) (a := 292) ((HY.out.set E5.out _).off 10 rfl) (by decide)
  have z10 := H4.out.frozen 292
  by_cases s8 : u 0 = 8
  · have sb : (u 0 == 8) = true := by simp [s8]
    by_cases a2 : a = 2
    · have ab : (a == 2) = true := by simp [a2]
      have e1 : mvOf (u 0) a mv = true := by unfold mvOf; rw [if_pos (by omega)]
      have hH : ∀ wx, wx = w4.setCell ⟨b, 292, none⟩ (.bool true) → HasF 81 wx b 1072 (segs ((L.set 5 (21, iv u)).set 10 (1, fun _ => .bool (mvOf (u 0) a mv)))) ∧ HasF 69 wx w2.heap.size 21 (iv u) ∧ But b w wx := fun wx hx => by
        rw [hx, e1]
        exact ⟨H4.out.put1 10 (set_other E10.out _ (by decide)) ((HY.out.set E5.out _).off 10 rfl) (.bool true), M4.out.other _ _ (fun e => NB.out e.symm), B4.out.set _ _⟩
      clear s8 a2
      replace hH := hide hH
      clear e1
      go_upto_region 4 with fail
      refine under_name fun w5 hw5 => ?_
      obtain ⟨h5, m5, b5⟩ := hH.out w5 hw5
      have H5 := hide h5
      have M5 := hide m5
      have B5 := hide b5
      have Y5 := hide (HE.out.row b5 h5 ((HY.out.set E5.out _).set (set_other E10.out _ (by decide)) _) (set_other (set_other rfl _ (by decide)) _ (by decide)) (set_other (set_other rfl _ (by decide)) _ (by decide)))
      clear hw5 hH h5 m5 b5 H4 M4 B4 g0 c10 z10 HE
      have c9 := H5.out.get1 9 (set_other (set_other E9.out _ (by decide)) _ (by decide)) (a := 291) (Y5.out.2.2.2.1.off 9 rfl) (by decide)
      have z9 := H5.out.frozen 291
      go_wp2
      go_end0
      have B6 := (But.refl b w5).set 291 (.bool true)
      exact ⟨rfl, Y5.out.row B6 (H5.out.put1 9 (set_other (set_other E9.out _ (by decide)) _ (by decide)) (Y5.out.2.2.2.1.off 9 rfl) _) (Y5.out.2.2.2.1.set (set_other (set_other E9.out _ (by decide)) _ (by decide)) _) (set_other rfl _ (by decide)) (set_other rfl _ (by decide)), (ey_but B5.out).trans (ey_but B6)⟩
    · have ab : (a == 2) = false := by simp [a2]
      by_cases a3 : a = 3
      · have ac : (a == 3) = true := by simp [a3]
        have e1 : mvOf (u 0) a mv = true := by unfold mvOf; rw [if_pos (by omega)]
        have hH : ∀ wx, wx = w4.setCell ⟨b, 292, none⟩ (.bool true) → HasF 81 wx b 1072 (segs ((L.set 5 (21, iv u)).set 10 (1, fun _ => .bool (mvOf (u 0) a mv)))) ∧ HasF 69 wx w2.heap.size 21 (iv u) ∧ But b w wx := fun wx hx => by
          rw [hx, e1]
          exact ⟨H4.out.put1 10 (set_other E10.out _ (by decide)) ((HY.out.set E5.out _).off 10 rfl) (.bool true), M4.out.other _ _ (fun e => NB.out e.symm), B4.out.set _ _⟩
        clear s8 a2 a3
        replace hH := hide hH
        clear e1
        go_upto_region 4 with fail
        refine under_name fun w5 hw5 => ?_
        obtain ⟨h5, m5, b5⟩ := hH.out w5 hw5
        have H5 := hide h5
        have M5 := hide m5
        have B5 := hide b5
        have Y5 := hide (HE.out.row b5 h5 ((HY.out.set E5.out _).set (set_other E10.out _ (by decide)) _) (set_other (set_other rfl _ (by decide)) _ (by decide)) (set_other (set_other rfl _ (by decide)) _ (by decide)))
        clear hw5 hH h5 m5 b5 H4 M4 B4 g0 c10 z10 HE
        have c9 := H5.out.get1 9 (set_other (set_other E9.out _ (by decide)) _ (by decide)) (a := 291) (Y5.out.2.2.2.1.off 9 rfl) (by decide)
        have z9 := H5.out.frozen 291
        go_wp2
        go_end0
        have B6 := (But.refl b w5).set 291 (.bool true)
        exact ⟨rfl, Y5.out.row B6 (H5.out.put1 9 (set_other (set_other E9.out _ (by decide)) _ (by decide)) (Y5.out.2.2.2.1.off 9 rfl) _) (Y5.out.2.2.2.1.set (set_other (set_other E9.out _ (by decide)) _ (by decide)) _) (set_other rfl _ (by decide)) (set_other rfl _ (by decide)), (ey_but B5.out).trans (ey_but B6)⟩
      · have ac : (a == 3) = false := by simp [a3]
        have e1 : mvOf (u 0) a mv = mv := by unfold mvOf; rw [if_neg (by omega)]
        have hH : ∀ wx, wx = w4 → HasF 81 wx b 1072 (segs ((L.set 5 (21, iv u)).set 10 (1, fun _ => .bool (mvOf (u 0) a mv)))) ∧ HasF 69 wx w2.heap.size 21 (iv u) ∧ But b w wx := fun wx hx => by
          rw [hx, e1, set_id (set_other (k := 5) E10.out (21, iv u) (by decide))]
          exact ⟨H4.out, M4.out, B4.out⟩
        clear s8 a2 a3
        replace hH := hide hH
        clear e1
        go_upto_region 4 with fail
        refine under_name fun w5 hw5 => ?_
        obtain ⟨h5, m5, b5⟩ := hH.out w5 hw5
        have H5 := hide h5
        have M5 := hide m5
        have B5 := hide b5
        have Y5 := hide (HE.out.row b5 h5 ((HY.out.set E5.out _).set (set_other E10.out _ (by decide)) _) (set_other (set_other rfl _ (by decide)) _ (by decide)) (set_other (set_other rfl _ (by decide)) _ (by decide)))
        clear hw5 hH h5 m5 b5 H4 M4 B4 g0 c10 z10 HE
        have c9 := H5.out.get1 9 (set_other (set_other E9.out _ (by decide)) _ (by decide)) (a := 291) (Y5.out.2.2.2.1.off 9 rfl) (by decide)
        have z9 := H5.out.frozen 291
        go_wp2
        go_end0
        have B6 := (But.refl b w5).set 291 (.bool true)
        exact ⟨rfl, Y5.out.row B6 (H5.out.put1 9 (set_other (set_other E9.out _ (by decide)) _ (by decide)) (Y5.out.2.2.2.1.off 9 rfl) _) (Y5.out.2.2.2.1.set (set_other (set_other E9.out _ (by decide)) _ (by decide)) _) (set_other rfl _ (by decide)) (set_other rfl _ (by decide)), (ey_but B5.out).trans (ey_but B6)⟩
  · have sb : (u 0 == 8) = false := by simp [s8]
    have e1 : mvOf (u 0) a mv = mv := by unfold mvOf; rw [if_neg (by omega)]
    have hH : ∀ wx, wx = w4 → HasF 81 wx b 1072 (segs ((L.set 5 (21, iv u)).set 10 (1, fun _ => .bool (mvOf (u 0) a mv)))) ∧ HasF 69 wx w2.heap.size 21 (iv u) ∧ But b w wx := fun wx hx => by
      rw [hx, e1, set_id (set_other (k := 5) E10.out (21, iv u) (by decide))]
      exact ⟨H4.out, M4.out, B4.out⟩
    clear s8
    replace hH := hide hH
    clear e1
    go_upto_region 4 with fail
    refine under_name fun w5 hw5 => ?_
    obtain ⟨h5, m5, b5⟩ := hH.out w5 hw5
    have H5 := hide h5
    have M5 := hide m5
    have B5 := hide b5
    have Y5 := hide (HE.out.row b5 h5 ((HY.out.set E5.out _).set (set_other E10.out _ (by decide)) _) (set_other (set_other rfl _ (by decide)) _ (by decide)) (set_other (set_other rfl _ (by decide)) _ (by decide)))
    clear hw5 hH h5 m5 b5 H4 M4 B4 g0 c10 z10 HE
    have c9 := H5.out.get1 9 (set_other (set_other E9.out _ (by decide)) _ (by decide)) (a := 291) (Y5.out.2.2.2.1.off 9 rfl) (by decide)
    have z9 := H5.out.frozen 291
    go_wp2
    go_end0
    have B6 := (But.refl b w5).set 291 (.bool true)
    exact ⟨rfl, Y5.out.row B6 (H5.out.put1 9 (set_other (set_other E9.out _ (by decide)) _ (by decide)) (Y5.out.2.2.2.1.off 9 rfl) _) (Y5.out.2.2.2.1.set (set_other (set_other E9.out _ (by decide)) _ (by decide)) _) (set_other rfl _ (by decide)) (set_other rfl _ (by decide)), (ey_but B5.out).trans (ey_but B6)⟩
end Go.Proofs.YtnllcknfmciebaaGreatDoor.D24
