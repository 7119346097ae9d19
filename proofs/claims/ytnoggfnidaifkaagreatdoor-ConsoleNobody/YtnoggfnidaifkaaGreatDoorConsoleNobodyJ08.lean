/- The program's machine: Settle, Tell, and a look at the status. -/
import Derived.Test.YtnoggfnidaifkaaGreatDoorConsoleNobodyJ07
import Derived.Test.YtnoggfnidaifkaaGreatDoorConsoleNobodyJ01
namespace Go.Proofs.YtnoggfnidaifkaaGreatDoor.L24
set_option maxRecDepth 20000
open C3 G6 R15 W13
open Go.RowKit
set_option linter.unusedVariables false
set_option maxHeartbeats 1000000 in
theorem settle_no {w : World} {b v c d : Nat} {L : List (Nat × (Nat → Value))} {bs : List Int} {f : Nat → Int} {wr rd st lo bu : Int} (h : HasX w b v c d L bs f wr rd st lo bu) {t t' : Nat → Value} {lag k : Int} (h12 : L[12]? = some (4, t)) (h17 : L[17]? = some (1, fun _ => Value.int .i64 lag)) (KA : ∀ w, Calls Tryz.prog 93 #[.agg (rowF t 4), .int .i64 lag] w fun e w' => e = Ending.returned (.tuple #[.agg (rowF t' 4), .int .i64 k]) ∧ Below w.heap.size w w') (hg : ∀ j, j < 4 → (t' j).oneCell' = true) (hk : ¬ 0 < k) :
    Calls Tryz.prog 57 #[.pointer (some ⟨b, 0, none⟩)] w fun e w' => e = Ending.returned (.tuple #[]) ∧ HasX w' b v c d ((L.set 12 (4, t')).set 17 (1, fun _ => Value.int .i64 0)) bs f wr rd st lo bu ∧ OnlyE (EX b v) w w' := by
  have MI := hide (missing_no h)
  have HE := hide h
  have KA := hide KA
  have E12 := hide h12
  have E17 := hide h17
  have HB := hide h.isB
  have G1 := hide hg
  have ZO : Hid ((rowF t' 4).all (·.oneCell') = true) := hide (rowF_all hg)
  have ZI : Hid ((Tryz.prog.info? 61).map (·.size) = some (rowF t' 4).size) := hide (by rw [rowF_size]; kernel_rfl)
  have ZS : Hid ((#[.int .i64 0, .int .i64 0, .bool false, .int .i64 0] : Array Value).size = (rowF t' 4).size) := hide (by rw [rowF_size]; rfl)
  have IT : Hid ((Tryz.prog.info? 61).map (·.size) = some (rowF t 4).size) := hide (by rw [rowF_size]; kernel_rfl)
  clear h h12 h17 hg
  go_enter Tryz.func57, Tryz.ntmps57
  go_wp2_with (first | (go_at_call 92; refine MI.out.mono ?_; rintro e w1 ⟨rfl, b1⟩; have X1 := hide (HE.out.next b1); have B1 := hide (But.of (b := b) b1); clear b1 MI))
  have R12 := hide (X1.out.1.range 9241 4 (by decide))
  rw [rowF_ext (X1.out.1.seg 12 E12.out (a := 9241) (HB.out.off 12 rfl))] at R12
  have HL := hide X1.out.1.lt
  have i17 := hide (X1.out.1.get1 17 E17.out (a := 9262) (HB.out.off 17 rfl) (by decide))
  generalize rowF t 4 = A at *
  refine wp_region_cell _ _ _ _ (show _ = ([_, _, _, _, _, _, _, _, _, _, _, _] ++ [_, _]) ++ [_] from rfl) #[.int .i64 0, .int .i64 0, .bool false, .int .i64 0] (rowF t' 4) 61 35 2 16 61 (by kernel_rfl) (by kernel_rfl) (by kernel_rfl) (by kernel_rfl) rfl rfl (by decide) rfl ZI.out ZS.out ZO.out ?_ ?_
  · intro a w
    set_option maxRecDepth 100000 in
    rfl
  apply Exists.intro
  refine ⟨fun W hW => ?_, ?_, ?_⟩
  · have j17 := kept_cell ((hW.cell (p := ⟨b, 9262, none⟩) HL.out).trans i17.out) (Nat.lt_of_lt_of_le HL.out hW.size)
    haveI := kept_some W
    repeat (first
      | (refine wpQuiet_mid rfl 61 (.tmp 9) rfl b 9241 rfl A _ (fun w' ⟨x, hx⟩ => by rw [hx]; intro j y hy; rw [x.cell b _ (Nat.lt_of_lt_of_le HL.out hW.size), hW.cell (p := ⟨b, 9241 + j, none⟩) HL.out]; exact R12.out j y hy) Tryz.underlying61 rfl IT.out ?_; simp only [Act.put, List.setIfInBounds_toArray, List.set_cons_succ, List.set_cons_zero])
      | go_big_quiet_step ((go_at_call 93; exact kept_call (KA.out _))))
    refine wpQuiet_nil ?_
    rfl
  · rfl
  intro g w3 b3 hg lg
  have M3 := hide hg
  have H3 := hide (X1.out.1.next b3)
  have B3 := hide (B1.out.andBelow b3)
  simp only [Act.put, List.setIfInBounds_toArray, List.set_cons_succ, List.set_cons_zero]
  clear b3 hg lg KA R12 i17 HL
  go_wp2_with (first
    | (refine wpList_load_row rfl 61 (.tmp 2) rfl g rfl _ _ _ _ M3.out Tryz.underlying61 rfl ZI.out ?_)
    | (refine wpList_store_part rfl 61 (.tmp 22) (.tmp 20) rfl b 9241 4 t' rfl rfl H3.out (by decide) (by kernel_rfl) G1.out ?_
       refine under_list fun w4 hw4 => ?_
       have H4 : Hid (HasF 70 w4 b 9263 (segs (L.set 12 (4, t')))) := hide (by rw [hw4]; exact H3.out.lay 12 E12.out t' (HB.out.off 12 rfl))
       have B4 : Hid (But b w w4) := hide (by rw [hw4]; exact But.cells _ _ _ B3.out)
       have I4 := hide (HB.out.set E12.out t')
       have F17 := hide (set_other (k := 12) E17.out (4, t') (by decide))
       have c17 := H4.out.get1 17 F17.out (a := 9262) (I4.out.off 17 rfl) (by decide)
       have z17 := H4.out.frozen 9262
       have H5 := hide (H4.out.put1 17 F17.out (a := 9262) (I4.out.off 17 rfl) (.int .i64 0))
       have B5 := hide (B4.out.set 9262 (.int .i64 0))
       have I5 := hide (I4.out.set F17.out (fun _ => Value.int .i64 0))
       clear hw4 H3 B3 M3 H4 B4)
     )
  go_end0
  exact ⟨rfl, HE.out.row B5.out H5.out I5.out (set_other (set_other rfl _ (by decide)) _ (by decide)) (set_other (set_other rfl _ (by decide)) _ (by decide)), ex_but B5.out⟩
set_option maxHeartbeats 1000000 in
theorem settle_round {w : World} {b v c d : Nat} {L : List (Nat × (Nat → Value))} {bs : List Int} {f : Nat → Int} {wr rd st lo bu : Int} (h : HasX w b v c d L bs f wr rd st lo bu) {t t' s s' : Nat → Value} {lag k : Int} (h12 : L[12]? = some (4, t)) (h17 : L[17]? = some (1, fun _ => Value.int .i64 lag)) (h13 : L[13]? = some (2, s)) (KA : ∀ w, Calls Tryz.prog 93 #[.agg (rowF t 4), .int .i64 lag] w fun e w' => e = Ending.returned (.tuple #[.agg (rowF t' 4), .int .i64 k]) ∧ Below w.heap.size w w') (hg : ∀ j, j < 4 → (t' j).oneCell' = true) (hk : 0 < k)
    (KR : ∀ w, Calls Tryz.prog 94 #[.agg (rowF s 2), .int .i64 4, .bool true] w fun e w' => e = Ending.returned (.agg (rowF s' 2)) ∧ Below w.heap.size w w') (hs : ∀ j, j < 2 → (s' j).oneCell' = true) :
    Calls Tryz.prog 57 #[.pointer (some ⟨b, 0, none⟩)] w fun e w' => e = Ending.returned (.tuple #[]) ∧ HasX w' b v c d (((L.set 12 (4, t')).set 17 (1, fun _ => Value.int .i64 0)).set 13 (2, s')) bs f wr rd st lo bu ∧ OnlyE (EX b v) w w' := by
  have KR := hide KR
  have GS := hide hs
  have E5 : Hid (((L.set 12 (4, t')).set 17 (1, fun _ => Value.int .i64 0))[13]? = some (2, s)) := hide (set_other (set_other h13 _ (by decide)) _ (by decide))
  have SG5 : Hid (∀ j, j < 2 → segs ((L.set 12 (4, t')).set 17 (1, fun _ => Value.int .i64 0)) (9245 + j) = s j) := hide (fun j hj => by
    have q := segs_get ((L.set 12 (4, t')).set 17 (1, fun _ => Value.int .i64 0)) 13 2 s j E5.out hj
    rw [((h.isB.set h12 t').set (set_other h17 _ (by decide)) _).off 13 (a := 9245) rfl] at q
    exact q)
  clear h13 hs
  have MI := hide (missing_no h)
  have HE := hide h
  have KA := hide KA
  have E12 := hide h12
  have E17 := hide h17
  have HB := hide h.isB
  have G1 := hide hg
  have ZO : Hid ((rowF t' 4).all (·.oneCell') = true) := hide (rowF_all hg)
  have ZI : Hid ((Tryz.prog.info? 61).map (·.size) = some (rowF t' 4).size) := hide (by rw [rowF_size]; kernel_rfl)
  have ZS : Hid ((#[.int .i64 0, .int .i64 0, .bool false, .int .i64 0] : Array Value).size = (rowF t' 4).size) := hide (by rw [rowF_size]; rfl)
  have IT : Hid ((Tryz.prog.info? 61).map (·.size) = some (rowF t 4).size) := hide (by rw [rowF_size]; kernel_rfl)
  clear h h12 h17 hg
  go_enter Tryz.func57, Tryz.ntmps57
  go_wp2_with (first | (go_at_call 92; refine MI.out.mono ?_; rintro e w1 ⟨rfl, b1⟩; have X1 := hide (HE.out.next b1); have B1 := hide (But.of (b := b) b1); clear b1 MI))
  have R12 := hide (X1.out.1.range 9241 4 (by decide))
  rw [rowF_ext (X1.out.1.seg 12 E12.out (a := 9241) (HB.out.off 12 rfl))] at R12
  have HL := hide X1.out.1.lt
  have i17 := hide (X1.out.1.get1 17 E17.out (a := 9262) (HB.out.off 17 rfl) (by decide))
  generalize rowF t 4 = A at *
  refine wp_region_cell _ _ _ _ (show _ = ([_, _, _, _, _, _, _, _, _, _, _, _] ++ [_, _]) ++ [_] from rfl) #[.int .i64 0, .int .i64 0, .bool false, .int .i64 0] (rowF t' 4) 61 35 2 16 61 (by kernel_rfl) (by kernel_rfl) (by kernel_rfl) (by kernel_rfl) rfl rfl (by decide) rfl ZI.out ZS.out ZO.out ?_ ?_
  · intro a w
    set_option maxRecDepth 100000 in
    rfl
  apply Exists.intro
  refine ⟨fun W hW => ?_, ?_, ?_⟩
  · have j17 := kept_cell ((hW.cell (p := ⟨b, 9262, none⟩) HL.out).trans i17.out) (Nat.lt_of_lt_of_le HL.out hW.size)
    haveI := kept_some W
    repeat (first
      | (refine wpQuiet_mid rfl 61 (.tmp 9) rfl b 9241 rfl A _ (fun w' ⟨x, hx⟩ => by rw [hx]; intro j y hy; rw [x.cell b _ (Nat.lt_of_lt_of_le HL.out hW.size), hW.cell (p := ⟨b, 9241 + j, none⟩) HL.out]; exact R12.out j y hy) Tryz.underlying61 rfl IT.out ?_; simp only [Act.put, List.setIfInBounds_toArray, List.set_cons_succ, List.set_cons_zero])
      | go_big_quiet_step ((go_at_call 93; exact kept_call (KA.out _))))
    refine wpQuiet_nil ?_
    rfl
  · rfl
  intro g w3 b3 hg lg
  have M3 := hide hg
  have H3 := hide (X1.out.1.next b3)
  have B3 := hide (B1.out.andBelow b3)
  simp only [Act.put, List.setIfInBounds_toArray, List.set_cons_succ, List.set_cons_zero]
  clear b3 hg lg KA R12 i17 HL
  go_wp2_with (first
    | (refine wpList_load_row rfl 61 (.tmp 2) rfl g rfl _ _ _ _ M3.out Tryz.underlying61 rfl ZI.out ?_)
    | (refine wpList_store_part rfl 61 (.tmp 22) (.tmp 20) rfl b 9241 4 t' rfl rfl H3.out (by decide) (by kernel_rfl) G1.out ?_
       refine under_list fun w4 hw4 => ?_
       have H4 : Hid (HasF 70 w4 b 9263 (segs (L.set 12 (4, t')))) := hide (by rw [hw4]; exact H3.out.lay 12 E12.out t' (HB.out.off 12 rfl))
       have B4 : Hid (But b w w4) := hide (by rw [hw4]; exact But.cells _ _ _ B3.out)
       have I4 := hide (HB.out.set E12.out t')
       have F17 := hide (set_other (k := 12) E17.out (4, t') (by decide))
       have c17 := H4.out.get1 17 F17.out (a := 9262) (I4.out.off 17 rfl) (by decide)
       have z17 := H4.out.frozen 9262
       have H5 := hide (H4.out.put1 17 F17.out (a := 9262) (I4.out.off 17 rfl) (.int .i64 0))
       have B5 := hide (B4.out.set 9262 (.int .i64 0))
       have I5 := hide (I4.out.set F17.out (fun _ => Value.int .i64 0))
       clear hw4 H3 B3 M3 H4 B4)
    | (refine wpList_load_part rfl 63 (.tmp 30) rfl b 9245 rfl H5.out 2 (by decide) s SG5.out _ Tryz.underlying63 rfl (by kernel_rfl) ?_))
  refine (KR.out _).mono ?_
  rintro e w5 ⟨rfl, b5⟩
  have H6 := hide (H5.out.next b5)
  have B6 := hide (B5.out.andBelow b5)
  clear b5 KR H5 B5 SG5
  go_wp2_with (first
    | (refine wpList_store_part rfl 63 (.tmp 34) (.tmp 32) rfl b 9245 2 s' rfl rfl H6.out (by decide) (by kernel_rfl) GS.out ?_
       refine under_list fun w7 hw7 => ?_
       have H7 : Hid (HasF 70 w7 b 9263 (segs (((L.set 12 (4, t')).set 17 (1, fun _ => Value.int .i64 0)).set 13 (2, s')))) := hide (by rw [hw7]; exact H6.out.lay 13 E5.out s' (I5.out.off 13 rfl))
       have B7 : Hid (But b w w7) := hide (by rw [hw7]; exact But.cells _ _ _ B6.out)
       clear hw7 H6 B6))
  go_end0
  exact ⟨rfl, HE.out.row B7.out H7.out (I5.out.set E5.out _) (set_other (set_other (set_other rfl _ (by decide)) _ (by decide)) _ (by decide)) (set_other (set_other (set_other rfl _ (by decide)) _ (by decide)) _ (by decide)), ex_but B7.out⟩
set_option maxHeartbeats 1000000 in
theorem takeStatus_is {w : World} {b v c d : Nat} {L : List (Nat × (Nat → Value))} {bs : List Int} {f : Nat → Int} {wr rd st lo bu : Int} (h : HasX w b v c d L bs f wr rd st lo bu) {s s' : Nat → Value} {q x : Int} (h3 : L[3]? = some (1, fun _ => Value.int .i64 q)) (h13 : L[13]? = some (2, s)) (hx : q % 128 = x)
    (KR : ∀ w, Calls Tryz.prog 94 #[.agg (rowF s 2), .int .i64 2, .bool false] w fun e w' => e = Ending.returned (.agg (rowF s' 2)) ∧ Below w.heap.size w w') (hs : ∀ j, j < 2 → (s' j).oneCell' = true) :
    Calls Tryz.prog 147 #[.pointer (some ⟨b, 0, none⟩)] w fun e w' => e = Ending.returned (.int .i64 x) ∧ HasX w' b v c d ((L.set 3 (1, fun _ => Value.int .i64 0)).set 13 (2, s')) bs f wr rd st lo bu ∧ OnlyE (EX b v) w w' := by
  have KR := hide KR
  have GS := hide hs
  have E5 : Hid ((L.set 3 (1, fun _ => Value.int .i64 0))[13]? = some (2, s)) := hide (set_other h13 _ (by decide))
  have SG5 : Hid (∀ j, j < 2 → segs (L.set 3 (1, fun _ => Value.int .i64 0)) (9245 + j) = s j) := hide (fun j hj => by
    have q := segs_get (L.set 3 (1, fun _ => Value.int .i64 0)) 13 2 s j E5.out hj
    rw [(h.isB.set h3 _).off 13 (a := 9245) rfl] at q
    exact q)
  clear h13 hs
  have HE := hide h
  have HB := hide h.isB
  have E3 := hide h3
  have c3 := h.1.get1 3 h3 (a := 278) (h.isB.off 3 rfl) (by decide)
  have z3 := h.1.frozen 278
  have H5 := hide (h.1.put1 3 h3 (a := 278) (h.isB.off 3 rfl) (.int .i64 0))
  have B5 := hide ((But.refl b w).set 278 (.int .i64 0))
  have I5 := hide (h.isB.set h3 (fun _ => Value.int .i64 0))
  have ea : bits .and .i64 q 127 = x := (and_mask 7 (by decide) q).trans hx
  clear h h3
  go_enter Tryz.func147, Tryz.ntmps147
  go_wp2_with (first
    | (refine wpList_load_part rfl 63 (.tmp 17) rfl b 9245 rfl H5.out 2 (by decide) s SG5.out _ Tryz.underlying63 rfl (by kernel_rfl) ?_))
  refine (KR.out _).mono ?_
  rintro e w5 ⟨rfl, b5⟩
  have H6 := hide (H5.out.next b5)
  have B6 := hide (B5.out.andBelow b5)
  clear b5 KR H5 B5 SG5
  go_wp2_with (first
    | (refine wpList_store_part rfl 63 (.tmp 21) (.tmp 19) rfl b 9245 2 s' rfl rfl H6.out (by decide) (by kernel_rfl) GS.out ?_
       refine under_list fun w7 hw7 => ?_
       have H7 : Hid (HasF 70 w7 b 9263 (segs ((L.set 3 (1, fun _ => Value.int .i64 0)).set 13 (2, s')))) := hide (by rw [hw7]; exact H6.out.lay 13 E5.out s' (I5.out.off 13 rfl))
       have B7 : Hid (But b w w7) := hide (by rw [hw7]; exact But.cells _ _ _ B6.out)
       clear hw7 H6 B6))
  go_ret
  exact ⟨by first | rfl | exact ret_int (by omega), HE.out.row B7.out H7.out (I5.out.set E5.out _) (set_other (set_other rfl _ (by decide)) _ (by decide)) (set_other (set_other rfl _ (by decide)) _ (by decide)), ex_but B7.out⟩
end Go.Proofs.YtnoggfnidaifkaaGreatDoor.L24
