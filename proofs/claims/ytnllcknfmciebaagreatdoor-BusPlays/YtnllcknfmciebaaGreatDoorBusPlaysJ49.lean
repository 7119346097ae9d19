/- The document's own machine: words that are moved, by a write to the picture's ports. -/
import Derived.Test.YtnllcknfmciebaaGreatDoorBusPlaysJ48
import Derived.Test.YtnllcknfmciebaaGreatDoorBusPlaysJ01
import Derived.Test.YtnllcknfmciebaaGreatDoorBusPlaysJ27
import Derived.Test.YtnllcknfmciebaaGreatDoorBusPlaysJ47
import Derived.Deep.CutRange
namespace Go.Proofs.YtnllcknfmciebaaGreatDoor.D24
set_option maxRecDepth 20000
open W13
open Go.RowKit
set_option linter.unusedVariables false
theorem put_int {T:TypeId} {w:World} {b N:Nat} {L:List (Nat×(Nat→Value))} (h:HasF T w b N (segs L)) (k:Nat) {n:Nat} {f:Nat→Int} (hk:L[k]? = some (n,iv f)) (j:Nat) (hj:j<n) {a:Nat} (ha:soff L k+j=a) (x:Int):HasF T (w.setCell ⟨b,a,none⟩ (.int .i64 x)) b N (segs (L.set k (n,iv (up f j x)))):=by
 have q:=h.put k hk j hj ha (.int .i64 x)
 rw [updC_iv] at q
 exact q
set_option maxHeartbeats 2000000 in
theorem ydraw_move {w : World} {b c d r : Nat} {L : List (Nat × (Nat → Value))} {f : Nat → Int} {wr rd st lo bu : Int} {ram : Nat → Int} (h : HasY w b c d r L f wr rd st lo bu ram) (a v : Int) {g : Nat → Value} (h5 : L[5]? = some (21, g)) {u : Nat → Int} (KW : ∀ w, Calls Tryz.prog 100 #[.agg (rowF g 21), .int .i64 a, .int .i64 v] w fun e w' => e = Ending.returned (.tuple #[.agg (rowF (iv u) 21), .int .i64 6]) ∧ Below w.heap.size w w') {mv : Bool} (h10 : L[10]? = some (1, fun _ => .bool mv)) {X Y : Int} {F : Nat → Int} {L3 : List (Nat × (Nat → Value))} {my : Bool} (r0 : 0 ≤ u 16) (r1 : u 16 ≤ 65535) (hmy : (u 16 / 2 % 2 == 1) = my) (yl : IsY L3 ∧ L3[6]? = L[6]? ∧ L3[3]? = L[3]?)
    (KT : ∀ w, HasF 81 w b 1072 (segs (((L.set 5 (21, iv u)).set 10 (1, fun _ => .bool (mvOf (u 0) a mv))).set 5 (21, iv (up (up (up u 17 X) 18 Y) 19 65535)))) → Calls Tryz.prog 12 #[.pointer (some ⟨b, 0, none⟩), .int .i64 16, .bool my] w fun e w' => e = Ending.returned (.tuple #[]) ∧ HasF 81 w' b 1072 (segs L3) ∧ But b w w') (KV : ∀ w, HasR w c d f wr rd st lo bu → Calls Tryz.prog 104 #[.pointer (some ⟨c, 0, none⟩), .int .i64 (u 17), .int .i64 (u 18), .int .i64 (u 19), .int .i64 (u 16)] w fun e w' => e = Ending.returned (.tuple #[.int .i64 X, .int .i64 Y]) ∧ HasR w' c d F wr rd st lo bu ∧ Only2 c d w w') :
    Calls Tryz.prog 51 #[.pointer (some ⟨b, 0, none⟩), .int .i64 a, .int .i64 v] w fun e w' => e = Ending.returned (.tuple #[]) ∧ HasY w' b c d r L3 F wr rd st lo bu ram ∧ OnlyE (EY b c d r) w w' := by
  have R0 := hide r0
  have R1 := hide r1
  have MY := hide hmy
  have YL := hide yl
  have KL := hide KT
  clear r0 r1 hmy yl KT
  have KM := hide KV
  have HC := hide (show w.heap[c]? = some _ ∧ w.heap[d]? = some _ from ⟨h.2.1.1, h.2.1.2.1⟩)
  clear KV
  have hY := h.2.2.2.1
  have SG := hide (h.1.seg 5 h5 (a := 12) (hY.off 5 rfl))
  have HE := hide h
  have H := hide h.1
  have E5 := hide h5
  have E10 := hide h10
  have HY := hide hY
  have W0 := hide KW
  have ZO : Hid ((rowF (iv u) 21).all (·.oneCell') = true) := hide (rowF_one u 21)
  have ZI : Hid ((Tryz.prog.info? 69).map (·.size) = some (rowF (iv u) 21).size) := hide (by rw [rowF_size]; kernel_rfl)
  have ZS : Hid ((rowF (iv fun _ => 0) 21).size = (rowF (iv u) 21).size) := hide (by rw [rowF_size, rowF_size])
  clear h h5 h10 hY KW
  go_enter Tryz.func51, Tryz.ntmps51
  go_wp2_with (first
    | (refine wpList_load_part rfl 69 (.tmp 13) rfl b 12 rfl H.out 21 (by decide) g SG.out _ Tryz.underlying69 rfl (by kernel_rfl) ?_))
  refine (W0.out _).mono ?_
  rintro e w2 ⟨rfl, b2⟩
  have H2 := hide (H.out.next b2)
  have B2 := hide (But.of (b := b) b2)
  have NB := hide (show b ≠ w2.heap.size from Nat.ne_of_lt (Nat.lt_of_lt_of_le H.out.lt b2.size))
  have SZ := hide b2.size
  clear b2 W0 H SG
  go_upto_region 2 with (first
    | (refine wpList_alloced rfl 69 rfl (rowF (iv fun _ => 0) 21) zero_G21 ?_)
    | (refine wpList_store_row rfl 69 (.tmp 6) (.tmp 18) rfl w2.heap.size _ rfl rfl 69 _ (hasF_new _ _ _ _) ZI.out ZS.out ZO.out ?_
       refine under_list fun w3 hw3 => ?_
       have W3 : Below w2.heap.size w2 w3 := (by rw [hw3]; exact below_setRow ((Below.refl _ _).alloc (Nat.le_refl _) _) (Nat.le_refl _) _)
       have M3 : Hid (HasF 69 w3 w2.heap.size 21 (iv u)) := hide (by rw [hw3]; exact setRow_heap _ _ _ _ _ _ (hasF_new _ _ _ _))
       have H3 := hide (H2.out.next W3)
       have B3 := hide (B2.out.andBelow W3)
       clear hw3 W3 H2 B2)
    | (refine wpList_load_row rfl 69 (.tmp 6) rfl w2.heap.size rfl _ _ _ _ M3.out Tryz.underlying69 rfl ZI.out ?_)
    | (refine wpList_store_part rfl 69 (.tmp 23) (.tmp 21) rfl b 12 21 (iv u) rfl rfl H3.out (by decide) (by kernel_rfl) (fun _ _ => rfl) ?_
       refine under_list fun w4 hw4 => ?_
       have H4 : Hid (HasF 81 w4 b 1072 (segs (L.set 5 (21, iv u)))) := hide (by rw [hw4]; exact H3.out.lay 5 E5.out (iv u) (HY.out.off 5 rfl))
       have B4 : Hid (But b w w4) := hide (by rw [hw4]; exact But.cells _ _ _ B3.out)
       have M4 : Hid (HasF 69 w4 w2.heap.size 21 (iv u)) := hide (by rw [hw4]; exact (But.cells _ _ _ (But.refl b w3)).keep M3.out (fun e => NB.out e.symm))
       clear hw4 H3 B3 M3))
  have g0 := M4.out.int 0 (by decide)
  have c10 := H4.out.get1 10 (set_other E10.out _ (by decide)) (a := 292) ((HY.out.set E5.out _).off 10 rfl) (by decide)
  have z10 := H4.out.frozen 292
  by_cases s8 : u 0 = 8
  · have sb : (u 0 == 8) = true := by simp [s8]
    by_cases a2 : a = 2
    · have ab : (a == 2) = true := by simp [a2]
      have e1 : mvOf (u 0) a mv = true := by unfold mvOf; rw [if_pos (by omega)]
      have hH : ∀ wx, wx = w4.setCell ⟨b, 292, none⟩ (.bool true) → HasF 81 wx b 1072 (segs ((L.set 5 (21, iv u)).set 10 (1, fun _ => .bool (mvOf (u 0) a mv)))) ∧ HasF 69 wx w2.heap.size 21 (iv u) ∧ But b w wx := fun wx hx => by
        rw [hx, e1]
        exact ⟨H4.out.put1 10 (set_other E10.out _ (by decide)) ((HY.out.set E5.out _).off 10 rfl) (.bool true), M4.out.other _ _ (fun e => NB.out e.symm), B4.out.set _ _⟩
      clear s8 a2
      replace hH := hide hH
      clear e1
      go_upto_region 4 with fail
      refine under_name fun w5 hw5 => ?_
      obtain ⟨h5, m5, b5⟩ := hH.out w5 hw5
      have H5 := hide h5
      have M5 := hide m5
      have B5 := hide b5
      have Y5 := hide (HE.out.row b5 h5 ((HY.out.set E5.out _).set (set_other E10.out _ (by decide)) _) (set_other (set_other rfl _ (by decide)) _ (by decide)) (set_other (set_other rfl _ (by decide)) _ (by decide)))
      clear hw5 hH h5 m5 b5 H4 M4 B4 g0 c10 z10 HE
      have c6 := H5.out.get1 6 Y5.out.2.2.2.2.1 (a := 33) (Y5.out.2.2.2.1.off 6 rfl) (by decide)
      have k16 := M5.out.int 16 (by decide)
      have k17 := M5.out.int 17 (by decide)
      have k18 := M5.out.int 18 (by decide)
      have k19 := M5.out.int 19 (by decide)
      have HL := hide H5.out.lt
      have GL := hide M5.out.lt
      have GN := hide (show w2.heap.size ≠ c ∧ w2.heap.size ≠ d from ⟨fun e => by have := lt_of_block HC.out.1; have := SZ.out; omega, fun e => by have := lt_of_block HC.out.2; have := SZ.out; omega⟩)
      generalize hg : w2.heap.size = g at *
      replace hg := hide hg
      go_wp2_with fail
      obtain ⟨B1, hB1⟩ : ∃ B1 : World → Prop, B1 = fun x => HasY x b c d r ((L.set 5 (21, iv u)).set 10 (1, fun _ => .bool (mvOf (u 0) a mv))) F wr rd st lo bu ram ∧ HasF 69 x g 21 (iv u) ∧ OnlyE (EY b c d r) w x := ⟨_, rfl⟩
      have EB : ∀ x, (HasY x b c d r ((L.set 5 (21, iv u)).set 10 (1, fun _ => .bool (mvOf (u 0) a mv))) F wr rd st lo bu ram ∧ HasF 69 x g 21 (iv u) ∧ OnlyE (EY b c d r) w x) ↔ B1 x := fun x => by rw [hB1]
      clear hB1
      refine wp_region_state (ofList [.pointer (some ⟨b, 0, none⟩), .pointer (some ⟨b, 0, none⟩), .pointer (some ⟨b, 33, none⟩), .pointer (some ⟨c, 0, none⟩), .pointer (some ⟨g, 1, none⟩), .pointer (some ⟨g, 17, none⟩), .int .i64 (u 17), .pointer (some ⟨g, 1, none⟩), .pointer (some ⟨g, 18, none⟩), .int .i64 (u 18), .pointer (some ⟨g, 1, none⟩), .pointer (some ⟨g, 19, none⟩), .int .i64 (u 19), .pointer (some ⟨g, 1, none⟩), .pointer (some ⟨g, 16, none⟩), .int .i64 (u 16), .tuple #[.int .i64 X, .int .i64 Y], .tuple #[.int .i64 X, .int .i64 Y], .int .i64 X, .int .i64 Y, .int .i64 X, .int .i64 Y]) (oneS (fun x => Below w5.heap.size w5 x) B1 16) _ (fun vals => by simp only [putAll, Act.put, List.setIfInBounds_toArray, List.set_cons_succ, List.set_cons_zero, Nat.reduceAdd]; rfl) (by kernel_rfl) (by kernel_rfl) (by kernel_rfl) (fun dn hd => oneS_none hd (Below.refl _ _).drew) ?_ ?_
      · refine stepsS_cons (fun vals dn x hi hc hk hs => ?_) (stepsS_cons (fun vals dn x hi hc hk hs => ?_) (stepsS_cons (fun vals dn x hi hc hk hs => ?_) (stepsS_cons (fun vals dn x hi hc hk hs => ?_) (stepsS_cons (fun vals dn x hi hc hk hs => ?_) (stepsS_cons (fun vals dn x hi hc hk hs => ?_) (stepsS_cons (fun vals dn x hi hc hk hs => ?_) (stepsS_cons (fun vals dn x hi hc hk hs => ?_) (stepsS_cons (fun vals dn x hi hc hk hs => ?_) (stepsS_cons (fun vals dn x hi hc hk hs => ?_) (stepsS_cons (fun vals dn x hi hc hk hs => ?_) (stepsS_cons (fun vals dn x hi hc hk hs => ?_) (stepsS_cons (fun vals dn x hi hc hk hs => ?_) (stepsS_cons (fun vals dn x hi hc hk hs => ?_) (stepsS_cons (fun vals dn x hi hc hk hs => ?_) (stepsS_cons (fun vals dn x hi hc hk hs => ?_) (stepsS_cons (fun vals dn x hi hc hk hs => ?_) (stepsS_cons (fun vals dn x hi hc hk hs => ?_) (stepsS_cons (fun vals dn x hi hc hk hs => ?_) (stepsS_cons (fun vals dn x hi hc hk hs => ?_) (stepsS_cons (fun vals dn x hi hc hk hs => ?_) (stepsS_cons (fun vals dn x hi hc hk hs => ?_) stepsS_nil)))))))))))))))))))))
        · have hd := not_yet hc hi 16 30 (by kernel_rfl)
          have hb := oneS_ahead hs hd
          go_wp2_with fail
          exact postS_mk _ rfl rfl (oneS_stay0 hd (by decide) hb)
        · obtain ⟨⟨(h0 : vals 0 = .pointer (some ⟨b, 0, none⟩)), t0⟩, _⟩ := hk
          simp only [h0]
          clear h0
          have hd := not_yet hc hi 16 30 (by kernel_rfl)
          have hb := oneS_ahead hs hd
          go_wp2_with fail
          exact postS_mk _ rfl rfl (oneS_stay0 hd (by decide) hb)
        · obtain ⟨⟨(h1 : vals 1 = .pointer (some ⟨b, 0, none⟩)), t1⟩, _⟩ := hk
          simp only [h1]
          clear h1
          have hd := not_yet hc hi 16 30 (by kernel_rfl)
          have hb := oneS_ahead hs hd
          go_wp2_with fail
          exact postS_mk _ rfl rfl (oneS_stay0 hd (by decide) hb)
        · obtain ⟨⟨(h2 : vals 2 = .pointer (some ⟨b, 33, none⟩)), t2⟩, _⟩ := hk
          simp only [h2]
          clear h2
          have hd := not_yet hc hi 16 30 (by kernel_rfl)
          have hb := oneS_ahead hs hd
          have q := (hb.cell (p := ⟨b, 33, none⟩) HL.out).trans c6
          go_wp2_with fail
          exact postS_mk _ rfl rfl (oneS_stay0 hd (by decide) hb)
        · have hd := not_yet hc hi 16 30 (by kernel_rfl)
          have hb := oneS_ahead hs hd
          go_wp2_with fail
          exact postS_mk _ rfl rfl (oneS_stay0 hd (by decide) hb)
        · obtain ⟨⟨(h4 : vals 4 = .pointer (some ⟨g, 1, none⟩)), t4⟩, _⟩ := hk
          simp only [h4]
          clear h4
          have hd := not_yet hc hi 16 30 (by kernel_rfl)
          have hb := oneS_ahead hs hd
          go_wp2_with fail
          exact postS_mk _ rfl rfl (oneS_stay0 hd (by decide) hb)
        · obtain ⟨⟨(h5 : vals 5 = .pointer (some ⟨g, 17, none⟩)), t5⟩, _⟩ := hk
          simp only [h5]
          clear h5
          have hd := not_yet hc hi 16 30 (by kernel_rfl)
          have hb := oneS_ahead hs hd
          have q := (hb.cell (p := ⟨g, 17, none⟩) GL.out).trans k17
          go_wp2_with fail
          exact postS_mk _ rfl rfl (oneS_stay0 hd (by decide) hb)
        · have hd := not_yet hc hi 16 30 (by kernel_rfl)
          have hb := oneS_ahead hs hd
          go_wp2_with fail
          exact postS_mk _ rfl rfl (oneS_stay0 hd (by decide) hb)
        · obtain ⟨⟨(h7 : vals 7 = .pointer (some ⟨g, 1, none⟩)), t7⟩, _⟩ := hk
          simp only [h7]
          clear h7
          have hd := not_yet hc hi 16 30 (by kernel_rfl)
          have hb := oneS_ahead hs hd
          go_wp2_with fail
          exact postS_mk _ rfl rfl (oneS_stay0 hd (by decide) hb)
        · obtain ⟨⟨(h8 : vals 8 = .pointer (some ⟨g, 18, none⟩)), t8⟩, _⟩ := hk
          simp only [h8]
          clear h8
          have hd := not_yet hc hi 16 30 (by kernel_rfl)
          have hb := oneS_ahead hs hd
          have q := (hb.cell (p := ⟨g, 18, none⟩) GL.out).trans k18
          go_wp2_with fail
          exact postS_mk _ rfl rfl (oneS_stay0 hd (by decide) hb)
        · have hd := not_yet hc hi 16 30 (by kernel_rfl)
          have hb := oneS_ahead hs hd
          go_wp2_with fail
          exact postS_mk _ rfl rfl (oneS_stay0 hd (by decide) hb)
        · obtain ⟨⟨(h10 : vals 10 = .pointer (some ⟨g, 1, none⟩)), t10⟩, _⟩ := hk
          simp only [h10]
          clear h10
          have hd := not_yet hc hi 16 30 (by kernel_rfl)
          have hb := oneS_ahead hs hd
          go_wp2_with fail
          exact postS_mk _ rfl rfl (oneS_stay0 hd (by decide) hb)
        · obtain ⟨⟨(h11 : vals 11 = .pointer (some ⟨g, 19, none⟩)), t11⟩, _⟩ := hk
          simp only [h11]
          clear h11
          have hd := not_yet hc hi 16 30 (by kernel_rfl)
          have hb := oneS_ahead hs hd
          have q := (hb.cell (p := ⟨g, 19, none⟩) GL.out).trans k19
          go_wp2_with fail
          exact postS_mk _ rfl rfl (oneS_stay0 hd (by decide) hb)
        · have hd := not_yet hc hi 16 30 (by kernel_rfl)
          have hb := oneS_ahead hs hd
          go_wp2_with fail
          exact postS_mk _ rfl rfl (oneS_stay0 hd (by decide) hb)
        · obtain ⟨⟨(h13 : vals 13 = .pointer (some ⟨g, 1, none⟩)), t13⟩, _⟩ := hk
          simp only [h13]
          clear h13
          have hd := not_yet hc hi 16 30 (by kernel_rfl)
          have hb := oneS_ahead hs hd
          go_wp2_with fail
          exact postS_mk _ rfl rfl (oneS_stay0 hd (by decide) hb)
        · obtain ⟨⟨(h14 : vals 14 = .pointer (some ⟨g, 16, none⟩)), t14⟩, _⟩ := hk
          simp only [h14]
          clear h14
          have hd := not_yet hc hi 16 30 (by kernel_rfl)
          have hb := oneS_ahead hs hd
          have q := (hb.cell (p := ⟨g, 16, none⟩) GL.out).trans k16
          go_wp2_with fail
          exact postS_mk _ rfl rfl (oneS_stay0 hd (by decide) hb)
        · obtain ⟨⟨(h3 : vals 3 = .pointer (some ⟨c, 0, none⟩)), t3⟩, ⟨(h6 : vals 6 = .int .i64 (u 17)), t6⟩, ⟨(h9 : vals 9 = .int .i64 (u 18)), t9⟩, ⟨(h12 : vals 12 = .int .i64 (u 19)), t12⟩, ⟨(h15 : vals 15 = .int .i64 (u 16)), t15⟩, _⟩ := hk
          simp only [h3, h6, h9, h12, h15]
          clear h3 h6 h9 h12 h15
          have hb := oneS_ahead hs hi
          have y6 := Y5.out.next hb
          go_wp2_with fail
          refine (KM.out _ y6.2.1).mono ?_
          rintro e x2 ⟨rfl, h2, o2⟩
          have r2 : B1 x2 := (EB x2).1 ⟨y6.vram o2 h2, Only2.obj o2 (M5.out.next hb) GN.out.1 GN.out.2, (ey_but (B5.out.andBelow hb)).trans (ey_two o2)⟩
          clear h2 o2 y6
          go_wp2_with fail
          exact postS_mk _ rfl rfl (oneS_goes r2)
        · obtain ⟨⟨(h16 : vals 16 = .tuple #[.int .i64 X, .int .i64 Y]), t16⟩, _⟩ := hk
          simp only [h16]
          clear h16
          have hd := t16
          have hb := oneS_behind hs hd
          go_wp2_with fail
          exact postS_mk _ rfl rfl (oneS_stay1 hd (by decide) hb)
        · obtain ⟨⟨(h17 : vals 17 = .tuple #[.int .i64 X, .int .i64 Y]), t17⟩, _⟩ := hk
          simp only [h17]
          clear h17
          have hd := reach_done hc 30 16 17 t17 (by kernel_rfl)
          have hb := oneS_behind hs hd
          go_wp2_with fail
          exact postS_mk _ rfl rfl (oneS_stay1 hd (by decide) hb)
        · obtain ⟨⟨(h17 : vals 17 = .tuple #[.int .i64 X, .int .i64 Y]), t17⟩, _, _⟩ := hk
          simp only [h17]
          clear h17
          have hd := reach_done hc 30 16 17 t17 (by kernel_rfl)
          have hb := oneS_behind hs hd
          go_wp2_with fail
          exact postS_mk _ rfl rfl (oneS_stay1 hd (by decide) hb)
        · obtain ⟨⟨(h18 : vals 18 = .int .i64 X), t18⟩, ⟨(h16 : vals 16 = .tuple #[.int .i64 X, .int .i64 Y]), t16⟩, ⟨(h0 : vals 0 = .pointer (some ⟨b, 0, none⟩)), t0⟩, ⟨(h1 : vals 1 = .pointer (some ⟨b, 0, none⟩)), t1⟩, ⟨(h2 : vals 2 = .pointer (some ⟨b, 33, none⟩)), t2⟩, ⟨(h3 : vals 3 = .pointer (some ⟨c, 0, none⟩)), t3⟩, ⟨(h4 : vals 4 = .pointer (some ⟨g, 1, none⟩)), t4⟩, ⟨(h5 : vals 5 = .pointer (some ⟨g, 17, none⟩)), t5⟩, ⟨(h6 : vals 6 = .int .i64 (u 17)), t6⟩, ⟨(h7 : vals 7 = .pointer (some ⟨g, 1, none⟩)), t7⟩, ⟨(h8 : vals 8 = .pointer (some ⟨g, 18, none⟩)), t8⟩, ⟨(h9 : vals 9 = .int .i64 (u 18)), t9⟩, ⟨(h10 : vals 10 = .pointer (some ⟨g, 1, none⟩)), t10⟩, ⟨(h11 : vals 11 = .pointer (some ⟨g, 19, none⟩)), t11⟩, ⟨(h12 : vals 12 = .int .i64 (u 19)), t12⟩, ⟨(h13 : vals 13 = .pointer (some ⟨g, 1, none⟩)), t13⟩, ⟨(h14 : vals 14 = .pointer (some ⟨g, 16, none⟩)), t14⟩, ⟨(h15 : vals 15 = .int .i64 (u 16)), t15⟩, _, ⟨(h17 : vals 17 = .tuple #[.int .i64 X, .int .i64 Y]), t17⟩, _, _, _⟩ := hk
          simp only [h18, h16, h0, h1, h2, h3, h4, h5, h6, h7, h8, h9, h10, h11, h12, h13, h14, h15, h17]
          clear h18 h16 h0 h1 h2 h3 h4 h5 h6 h7 h8 h9 h10 h11 h12 h13 h14 h15 h17
          have hd := t16
          have hb := oneS_behind hs hd
          go_wp2_with fail
          exact postS_mk _ rfl rfl (oneS_stay1 hd (by decide) hb)
        · obtain ⟨⟨(h19 : vals 19 = .int .i64 Y), t19⟩, ⟨(h20 : vals 20 = .int .i64 X), t20⟩, ⟨(h0 : vals 0 = .pointer (some ⟨b, 0, none⟩)), t0⟩, ⟨(h1 : vals 1 = .pointer (some ⟨b, 0, none⟩)), t1⟩, ⟨(h2 : vals 2 = .pointer (some ⟨b, 33, none⟩)), t2⟩, ⟨(h3 : vals 3 = .pointer (some ⟨c, 0, none⟩)), t3⟩, ⟨(h4 : vals 4 = .pointer (some ⟨g, 1, none⟩)), t4⟩, ⟨(h5 : vals 5 = .pointer (some ⟨g, 17, none⟩)), t5⟩, ⟨(h6 : vals 6 = .int .i64 (u 17)), t6⟩, ⟨(h7 : vals 7 = .pointer (some ⟨g, 1, none⟩)), t7⟩, ⟨(h8 : vals 8 = .pointer (some ⟨g, 18, none⟩)), t8⟩, ⟨(h9 : vals 9 = .int .i64 (u 18)), t9⟩, ⟨(h10 : vals 10 = .pointer (some ⟨g, 1, none⟩)), t10⟩, ⟨(h11 : vals 11 = .pointer (some ⟨g, 19, none⟩)), t11⟩, ⟨(h12 : vals 12 = .int .i64 (u 19)), t12⟩, ⟨(h13 : vals 13 = .pointer (some ⟨g, 1, none⟩)), t13⟩, ⟨(h14 : vals 14 = .pointer (some ⟨g, 16, none⟩)), t14⟩, ⟨(h15 : vals 15 = .int .i64 (u 16)), t15⟩, ⟨(h16 : vals 16 = .tuple #[.int .i64 X, .int .i64 Y]), t16⟩, ⟨(h17 : vals 17 = .tuple #[.int .i64 X, .int .i64 Y]), t17⟩, ⟨(h18 : vals 18 = .int .i64 X), t18⟩, _, _, _⟩ := hk
          simp only [h19, h20, h0, h1, h2, h3, h4, h5, h6, h7, h8, h9, h10, h11, h12, h13, h14, h15, h16, h17, h18]
          clear h19 h20 h0 h1 h2 h3 h4 h5 h6 h7 h8 h9 h10 h11 h12 h13 h14 h15 h16 h17 h18
          have hd := t16
          have hb := oneS_behind hs hd
          go_wp2_with fail
          exact postS_mk _ rfl rfl (oneS_stay1 hd (by decide) hb)
      rintro vals dn x hall hs hv
      have hb := (EB x).2 (oneS_behind hs (hall 16 (by decide)))
      obtain ⟨_, _, _, _, _, _, _, _, _, _, _, _, _, _, _, _, _, _, _, _, (h20 : vals 20 = .int .i64 X), (h21 : vals 21 = .int .i64 Y), _⟩ := hv
      simp only [h20, h21]
      have Y6 := hide hb.1
      have M6 := hide hb.2.1
      have O6 := hide hb.2.2
      have E6 := hide (show ((L.set 5 (21, iv u)).set 10 (1, fun _ => .bool (mvOf (u 0) a mv)))[5]? = some (21, iv u) from set_other (set_same E5.out _) _ (by decide))
      have e29 : x.cell? ⟨b, 29, none⟩ = some (.int .i64 (u 17)) := Y6.out.1.get 5 E6.out 17 (by decide) (by rw [Y6.out.2.2.2.1.off 5 (a := 12) rfl]) (by decide)
      have e30 : x.cell? ⟨b, 30, none⟩ = some (.int .i64 (u 18)) := Y6.out.1.get 5 E6.out 18 (by decide) (by rw [Y6.out.2.2.2.1.off 5 (a := 12) rfl]) (by decide)
      have e31 : x.cell? ⟨b, 31, none⟩ = some (.int .i64 (u 19)) := Y6.out.1.get 5 E6.out 19 (by decide) (by rw [Y6.out.2.2.2.1.off 5 (a := 12) rfl]) (by decide)
      have z29 := Y6.out.1.frozen 29
      have z30 := Y6.out.1.frozen 30
      have z31 := Y6.out.1.frozen 31
      clear h20 h21 hb hs hall EB c6 k16 k17 k18 k19 Y5 M5 B5 H5 KM
      go_upto_region 20 with fail
      refine under_name fun x3 hx3 => ?_
      have H3 := hide (show HasF 81 x3 b 1072 (segs (((L.set 5 (21, iv u)).set 10 (1, fun _ => .bool (mvOf (u 0) a mv))).set 5 (21, iv (up (up (up u 17 X) 18 Y) 19 65535)))) by
        rw [hx3]
        have q1 := put_int Y6.out.1 5 E6.out 17 (by decide) (a := 29) (by rw [Y6.out.2.2.2.1.off 5 (a := 12) rfl]) X
        have y1 := Y6.out.2.2.2.1.set E6.out (iv (up u 17 X))
        have q2 := put_int q1 5 (set_same E6.out _) 18 (by decide) (a := 30) (by rw [y1.off 5 (a := 12) rfl]) Y
        rw [List.set_set] at q2
        have y2 := Y6.out.2.2.2.1.set E6.out (iv (up (up u 17 X) 18 Y))
        have q3 := put_int q2 5 (set_same E6.out _) 19 (by decide) (a := 31) (by rw [y2.off 5 (a := 12) rfl]) 65535
        rw [List.set_set] at q3
        exact q3)
      have B3 := hide (show But b x x3 by rw [hx3]; exact (((But.refl b x).set _ _).set _ _).set _ _)
      have k16 := (B3.out.keep M6.out (fun e => NB.out e.symm)).int 16 (by decide)
      clear hx3 e29 e30 e31 z29 z30 z31
      have e1 : Int.tdiv (u 16) 2 = u 16 / 2 := Int.tdiv_eq_ediv_of_nonneg R0.out
      have e2 : Int.tmod (u 16 / 2) 2 = u 16 / 2 % 2 := Int.tmod_eq_emod_of_nonneg (by have := R0.out; omega)
      have e3 : (u 16 / 2 % 2 == 1) = my := MY.out
      have e4 : 0 ≤ u 16 / 2 ∧ u 16 / 2 ≤ 65536 := by have := R0.out; have := R1.out; omega
      go_wp2_with fail
      refine (KL.out _ H3.out).mono ?_
      rintro e x4 ⟨rfl, h4, b4⟩
      have H4 := hide h4
      have B4 := hide (B3.out.trans b4)
      clear h4 b4 H3 B3
      go_wp2
      go_end0
      exact ⟨rfl, Y6.out.row B4.out H4.out YL.out.1 (YL.out.2.1.trans (set_other (set_other rfl _ (by decide)) _ (by decide)).symm) (YL.out.2.2.trans (set_other (set_other rfl _ (by decide)) _ (by decide)).symm), O6.out.trans (ey_but B4.out)⟩
    · have ab : (a == 2) = false := by simp [a2]
      by_cases a3 : a = 3
      · have ac : (a == 3) = true := by simp [a3]
        have e1 : mvOf (u 0) a mv = true := by unfold mvOf; rw [if_pos (by omega)]
        have hH : ∀ wx, wx = w4.setCell ⟨b, 292, none⟩ (.bool true) → HasF 81 wx b 1072 (segs ((L.set 5 (21, iv u)).set 10 (1, fun _ => .bool (mvOf (u 0) a mv)))) ∧ HasF 69 wx w2.heap.size 21 (iv u) ∧ But b w wx := fun wx hx => by
          rw [hx, e1]
          exact ⟨H4.out.put1 10 (set_other E10.out _ (by decide)) ((HY.out.set E5.out _).off 10 rfl) (.bool true), M4.out.other _ _ (fun e => NB.out e.symm), B4.out.set _ _⟩
        clear s8 a2 a3
        replace hH := hide hH
        clear e1
        go_upto_region 4 with fail
        refine under_name fun w5 hw5 => ?_
        obtain ⟨h5, m5, b5⟩ := hH.out w5 hw5
        have H5 := hide h5
        have M5 := hide m5
        have B5 := hide b5
        have Y5 := hide (HE.out.row b5 h5 ((HY.out.set E5.out _).set (set_other E10.out _ (by decide)) _) (set_other (set_other rfl _ (by decide)) _ (by decide)) (set_other (set_other rfl _ (by decide)) _ (by decide)))
        clear hw5 hH h5 m5 b5 H4 M4 B4 g0 c10 z10 HE
        have c6 := H5.out.get1 6 Y5.out.2.2.2.2.1 (a := 33) (Y5.out.2.2.2.1.off 6 rfl) (by decide)
        have k16 := M5.out.int 16 (by decide)
        have k17 := M5.out.int 17 (by decide)
        have k18 := M5.out.int 18 (by decide)
        have k19 := M5.out.int 19 (by decide)
        have HL := hide H5.out.lt
        have GL := hide M5.out.lt
        have GN := hide (show w2.heap.size ≠ c ∧ w2.heap.size ≠ d from ⟨fun e => by have := lt_of_block HC.out.1; have := SZ.out; omega, fun e => by have := lt_of_block HC.out.2; have := SZ.out; omega⟩)
        generalize hg : w2.heap.size = g at *
        replace hg := hide hg
        go_wp2_with fail
        obtain ⟨B1, hB1⟩ : ∃ B1 : World → Prop, B1 = fun x => HasY x b c d r ((L.set 5 (21, iv u)).set 10 (1, fun _ => .bool (mvOf (u 0) a mv))) F wr rd st lo bu ram ∧ HasF 69 x g 21 (iv u) ∧ OnlyE (EY b c d r) w x := ⟨_, rfl⟩
        have EB : ∀ x, (HasY x b c d r ((L.set 5 (21, iv u)).set 10 (1, fun _ => .bool (mvOf (u 0) a mv))) F wr rd st lo bu ram ∧ HasF 69 x g 21 (iv u) ∧ OnlyE (EY b c d r) w x) ↔ B1 x := fun x => by rw [hB1]
        clear hB1
        refine wp_region_state (ofList [.pointer (some ⟨b, 0, none⟩), .pointer (some ⟨b, 0, none⟩), .pointer (some ⟨b, 33, none⟩), .pointer (some ⟨c, 0, none⟩), .pointer (some ⟨g, 1, none⟩), .pointer (some ⟨g, 17, none⟩), .int .i64 (u 17), .pointer (some ⟨g, 1, none⟩), .pointer (some ⟨g, 18, none⟩), .int .i64 (u 18), .pointer (some ⟨g, 1, none⟩), .pointer (some ⟨g, 19, none⟩), .int .i64 (u 19), .pointer (some ⟨g, 1, none⟩), .pointer (some ⟨g, 16, none⟩), .int .i64 (u 16), .tuple #[.int .i64 X, .int .i64 Y], .tuple #[.int .i64 X, .int .i64 Y], .int .i64 X, .int .i64 Y, .int .i64 X, .int .i64 Y]) (oneS (fun x => Below w5.heap.size w5 x) B1 16) _ (fun vals => by simp only [putAll, Act.put, List.setIfInBounds_toArray, List.set_cons_succ, List.set_cons_zero, Nat.reduceAdd]; rfl) (by kernel_rfl) (by kernel_rfl) (by kernel_rfl) (fun dn hd => oneS_none hd (Below.refl _ _).drew) ?_ ?_
        · refine stepsS_cons (fun vals dn x hi hc hk hs => ?_) (stepsS_cons (fun vals dn x hi hc hk hs => ?_) (stepsS_cons (fun vals dn x hi hc hk hs => ?_) (stepsS_cons (fun vals dn x hi hc hk hs => ?_) (stepsS_cons (fun vals dn x hi hc hk hs => ?_) (stepsS_cons (fun vals dn x hi hc hk hs => ?_) (stepsS_cons (fun vals dn x hi hc hk hs => ?_) (stepsS_cons (fun vals dn x hi hc hk hs => ?_) (stepsS_cons (fun vals dn x hi hc hk hs => ?_) (stepsS_cons (fun vals dn x hi hc hk hs => ?_) (stepsS_cons (fun vals dn x hi hc hk hs => ?_) (stepsS_cons (fun vals dn x hi hc hk hs => ?_) (stepsS_cons (fun vals dn x hi hc hk hs => ?_) (stepsS_cons (fun vals dn x hi hc hk hs => ?_) (stepsS_cons (fun vals dn x hi hc hk hs => ?_) (stepsS_cons (fun vals dn x hi hc hk hs => ?_) (stepsS_cons (fun vals dn x hi hc hk hs => ?_) (stepsS_cons (fun vals dn x hi hc hk hs => ?_) (stepsS_cons (fun vals dn x hi hc hk hs => ?_) (stepsS_cons (fun vals dn x hi hc hk hs => ?_) (stepsS_cons (fun vals dn x hi hc hk hs => ?_) (stepsS_cons (fun vals dn x hi hc hk hs => ?_) stepsS_nil)))))))))))))))))))))
          · have hd := not_yet hc hi 16 30 (by kernel_rfl)
            have hb := oneS_ahead hs hd
            go_wp2_with fail
            exact postS_mk _ rfl rfl (oneS_stay0 hd (by decide) hb)
          · obtain ⟨⟨(h0 : vals 0 = .pointer (some ⟨b, 0, none⟩)), t0⟩, _⟩ := hk
            simp only [h0]
            clear h0
            have hd := not_yet hc hi 16 30 (by kernel_rfl)
            have hb := oneS_ahead hs hd
            go_wp2_with fail
            exact postS_mk _ rfl rfl (oneS_stay0 hd (by decide) hb)
          · obtain ⟨⟨(h1 : vals 1 = .pointer (some ⟨b, 0, none⟩)), t1⟩, _⟩ := hk
            simp only [h1]
            clear h1
            have hd := not_yet hc hi 16 30 (by kernel_rfl)
            have hb := oneS_ahead hs hd
            go_wp2_with fail
            exact postS_mk _ rfl rfl (oneS_stay0 hd (by decide) hb)
          · obtain ⟨⟨(h2 : vals 2 = .pointer (some ⟨b, 33, none⟩)), t2⟩, _⟩ := hk
            simp only [h2]
            clear h2
            have hd := not_yet hc hi 16 30 (by kernel_rfl)
            have hb := oneS_ahead hs hd
            have q := (hb.cell (p := ⟨b, 33, none⟩) HL.out).trans c6
            go_wp2_with fail
            exact postS_mk _ rfl rfl (oneS_stay0 hd (by decide) hb)
          · have hd := not_yet hc hi 16 30 (by kernel_rfl)
            have hb := oneS_ahead hs hd
            go_wp2_with fail
            exact postS_mk _ rfl rfl (oneS_stay0 hd (by decide) hb)
          · obtain ⟨⟨(h4 : vals 4 = .pointer (some ⟨g, 1, none⟩)), t4⟩, _⟩ := hk
            simp only [h4]
            clear h4
            have hd := not_yet hc hi 16 30 (by kernel_rfl)
            have hb := oneS_ahead hs hd
            go_wp2_with fail
            exact postS_mk _ rfl rfl (oneS_stay0 hd (by decide) hb)
          · obtain ⟨⟨(h5 : vals 5 = .pointer (some ⟨g, 17, none⟩)), t5⟩, _⟩ := hk
            simp only [h5]
            clear h5
            have hd := not_yet hc hi 16 30 (by kernel_rfl)
            have hb := oneS_ahead hs hd
            have q := (hb.cell (p := ⟨g, 17, none⟩) GL.out).trans k17
            go_wp2_with fail
            exact postS_mk _ rfl rfl (oneS_stay0 hd (by decide) hb)
          · have hd := not_yet hc hi 16 30 (by kernel_rfl)
            have hb := oneS_ahead hs hd
            go_wp2_with fail
            exact postS_mk _ rfl rfl (oneS_stay0 hd (by decide) hb)
          · obtain ⟨⟨(h7 : vals 7 = .pointer (some ⟨g, 1, none⟩)), t7⟩, _⟩ := hk
            simp only [h7]
            clear h7
            have hd := not_yet hc hi 16 30 (by kernel_rfl)
            have hb := oneS_ahead hs hd
            go_wp2_with fail
            exact postS_mk _ rfl rfl (oneS_stay0 hd (by decide) hb)
          · obtain ⟨⟨(h8 : vals 8 = .pointer (some ⟨g, 18, none⟩)), t8⟩, _⟩ := hk
            simp only [h8]
            clear h8
            have hd := not_yet hc hi 16 30 (by kernel_rfl)
            have hb := oneS_ahead hs hd
            have q := (hb.cell (p := ⟨g, 18, none⟩) GL.out).trans k18
            go_wp2_with fail
            exact postS_mk _ rfl rfl (oneS_stay0 hd (by decide) hb)
          · have hd := not_yet hc hi 16 30 (by kernel_rfl)
            have hb := oneS_ahead hs hd
            go_wp2_with fail
            exact postS_mk _ rfl rfl (oneS_stay0 hd (by decide) hb)
          · obtain ⟨⟨(h10 : vals 10 = .pointer (some ⟨g, 1, none⟩)), t10⟩, _⟩ := hk
            simp only [h10]
            clear h10
            have hd := not_yet hc hi 16 30 (by kernel_rfl)
            have hb := oneS_ahead hs hd
            go_wp2_with fail
            exact postS_mk _ rfl rfl (oneS_stay0 hd (by decide) hb)
          · obtain ⟨⟨(h11 : vals 11 = .pointer (some ⟨g, 19, none⟩)), t11⟩, _⟩ := hk
            simp only [h11]
            clear h11
            have hd := not_yet hc hi 16 30 (by kernel_rfl)
            have hb := oneS_ahead hs hd
            have q := (hb.cell (p := ⟨g, 19, none⟩) GL.out).trans k19
            go_wp2_with fail
            exact postS_mk _ rfl rfl (oneS_stay0 hd (by decide) hb)
          · have hd := not_yet hc hi 16 30 (by kernel_rfl)
            have hb := oneS_ahead hs hd
            go_wp2_with fail
            exact postS_mk _ rfl rfl (oneS_stay0 hd (by decide) hb)
          · obtain ⟨⟨(h13 : vals 13 = .pointer (some ⟨g, 1, none⟩)), t13⟩, _⟩ := hk
            simp only [h13]
            clear h13
            have hd := not_yet hc hi 16 30 (by kernel_rfl)
            have hb := oneS_ahead hs hd
            go_wp2_with fail
            exact postS_mk _ rfl rfl (oneS_stay0 hd (by decide) hb)
          · obtain ⟨⟨(h14 : vals 14 = .pointer (some ⟨g, 16, none⟩)), t14⟩, _⟩ := hk
            simp only [h14]
            clear h14
            have hd := not_yet hc hi 16 30 (by kernel_rfl)
            have hb := oneS_ahead hs hd
            have q := (hb.cell (p := ⟨g, 16, none⟩) GL.out).trans k16
            go_wp2_with fail
            exact postS_mk _ rfl rfl (oneS_stay0 hd (by decide) hb)
          · obtain ⟨⟨(h3 : vals 3 = .pointer (some ⟨c, 0, none⟩)), t3⟩, ⟨(h6 : vals 6 = .int .i64 (u 17)), t6⟩, ⟨(h9 : vals 9 = .int .i64 (u 18)), t9⟩, ⟨(h12 : vals 12 = .int .i64 (u 19)), t12⟩, ⟨(h15 : vals 15 = .int .i64 (u 16)), t15⟩, _⟩ := hk
            simp only [h3, h6, h9, h12, h15]
            clear h3 h6 h9 h12 h15
            have hb := oneS_ahead hs hi
            have y6 := Y5.out.next hb
            go_wp2_with fail
            refine (KM.out _ y6.2.1).mono ?_
            rintro e x2 ⟨rfl, h2, o2⟩
            have r2 : B1 x2 := (EB x2).1 ⟨y6.vram o2 h2, Only2.obj o2 (M5.out.next hb) GN.out.1 GN.out.2, (ey_but (B5.out.andBelow hb)).trans (ey_two o2)⟩
            clear h2 o2 y6
            go_wp2_with fail
            exact postS_mk _ rfl rfl (oneS_goes r2)
          · obtain ⟨⟨(h16 : vals 16 = .tuple #[.int .i64 X, .int .i64 Y]), t16⟩, _⟩ := hk
            simp only [h16]
            clear h16
            have hd := t16
            have hb := oneS_behind hs hd
            go_wp2_with fail
            exact postS_mk _ rfl rfl (oneS_stay1 hd (by decide) hb)
          · obtain ⟨⟨(h17 : vals 17 = .tuple #[.int .i64 X, .int .i64 Y]), t17⟩, _⟩ := hk
            simp only [h17]
            clear h17
            have hd := reach_done hc 30 16 17 t17 (by kernel_rfl)
            have hb := oneS_behind hs hd
            go_wp2_with fail
            exact postS_mk _ rfl rfl (oneS_stay1 hd (by decide) hb)
          · obtain ⟨⟨(h17 : vals 17 = .tuple #[.int .i64 X, .int .i64 Y]), t17⟩, _, _⟩ := hk
            simp only [h17]
            clear h17
            have hd := reach_done hc 30 16 17 t17 (by kernel_rfl)
            have hb := oneS_behind hs hd
            go_wp2_with fail
            exact postS_mk _ rfl rfl (oneS_stay1 hd (by decide) hb)
          · obtain ⟨⟨(h18 : vals 18 = .int .i64 X), t18⟩, ⟨(h16 : vals 16 = .tuple #[.int .i64 X, .int .i64 Y]), t16⟩, ⟨(h0 : vals 0 = .pointer (some ⟨b, 0, none⟩)), t0⟩, ⟨(h1 : vals 1 = .pointer (some ⟨b, 0, none⟩)), t1⟩, ⟨(h2 : vals 2 = .pointer (some ⟨b, 33, none⟩)), t2⟩, ⟨(h3 : vals 3 = .pointer (some ⟨c, 0, none⟩)), t3⟩, ⟨(h4 : vals 4 = .pointer (some ⟨g, 1, none⟩)), t4⟩, ⟨(h5 : vals 5 = .pointer (some ⟨g, 17, none⟩)), t5⟩, ⟨(h6 : vals 6 = .int .i64 (u 17)), t6⟩, ⟨(h7 : vals 7 = .pointer (some ⟨g, 1, none⟩)), t7⟩, ⟨(h8 : vals 8 = .pointer (some ⟨g, 18, none⟩)), t8⟩, ⟨(h9 : vals 9 = .int .i64 (u 18)), t9⟩, ⟨(h10 : vals 10 = .pointer (some ⟨g, 1, none⟩)), t10⟩, ⟨(h11 : vals 11 = .pointer (some ⟨g, 19, none⟩)), t11⟩, ⟨(h12 : vals 12 = .int .i64 (u 19)), t12⟩, ⟨(h13 : vals 13 = .pointer (some ⟨g, 1, none⟩)), t13⟩, ⟨(h14 : vals 14 = .pointer (some ⟨g, 16, none⟩)), t14⟩, ⟨(h15 : vals 15 = .int .i64 (u 16)), t15⟩, _, ⟨(h17 : vals 17 = .tuple #[.int .i64 X, .int .i64 Y]), t17⟩, _, _, _⟩ := hk
            simp only [h18, h16, h0, h1, h2, h3, h4, h5, h6, h7, h8, h9, h10, h11, h12, h13, h14, h15, h17]
            clear h18 h16 h0 h1 h2 h3 h4 h5 h6 h7 h8 h9 h10 h11 h12 h13 h14 h15 h17
            have hd := t16
            have hb := oneS_behind hs hd
            go_wp2_with fail
            exact postS_mk _ rfl rfl (oneS_stay1 hd (by decide) hb)
          · obtain ⟨⟨(h19 : vals 19 = .int .i64 Y), t19⟩, ⟨(h20 : vals 20 = .int .i64 X), t20⟩, ⟨(h0 : vals 0 = .pointer (some ⟨b, 0, none⟩)), t0⟩, ⟨(h1 : vals 1 = .pointer (some ⟨b, 0, none⟩)), t1⟩, ⟨(h2 : vals 2 = .pointer (some ⟨b, 33, none⟩)), t2⟩, ⟨(h3 : vals 3 = .pointer (some ⟨c, 0, none⟩)), t3⟩, ⟨(h4 : vals 4 = .pointer (some ⟨g, 1, none⟩)), t4⟩, ⟨(h5 : vals 5 = .pointer (some ⟨g, 17, none⟩)), t5⟩, ⟨(h6 : vals 6 = .int .i64 (u 17)), t6⟩, ⟨(h7 : vals 7 = .pointer (some ⟨g, 1, none⟩)), t7⟩, ⟨(h8 : vals 8 = .pointer (some ⟨g, 18, none⟩)), t8⟩, ⟨(h9 : vals 9 = .int .i64 (u 18)), t9⟩, ⟨(h10 : vals 10 = .pointer (some ⟨g, 1, none⟩)), t10⟩, ⟨(h11 : vals 11 = .pointer (some ⟨g, 19, none⟩)), t11⟩, ⟨(h12 : vals 12 = .int .i64 (u 19)), t12⟩, ⟨(h13 : vals 13 = .pointer (some ⟨g, 1, none⟩)), t13⟩, ⟨(h14 : vals 14 = .pointer (some ⟨g, 16, none⟩)), t14⟩, ⟨(h15 : vals 15 = .int .i64 (u 16)), t15⟩, ⟨(h16 : vals 16 = .tuple #[.int .i64 X, .int .i64 Y]), t16⟩, ⟨(h17 : vals 17 = .tuple #[.int .i64 X, .int .i64 Y]), t17⟩, ⟨(h18 : vals 18 = .int .i64 X), t18⟩, _, _, _⟩ := hk
            simp only [h19, h20, h0, h1, h2, h3, h4, h5, h6, h7, h8, h9, h10, h11, h12, h13, h14, h15, h16, h17, h18]
            clear h19 h20 h0 h1 h2 h3 h4 h5 h6 h7 h8 h9 h10 h11 h12 h13 h14 h15 h16 h17 h18
            have hd := t16
            have hb := oneS_behind hs hd
            go_wp2_with fail
            exact postS_mk _ rfl rfl (oneS_stay1 hd (by decide) hb)
        rintro vals dn x hall hs hv
        have hb := (EB x).2 (oneS_behind hs (hall 16 (by decide)))
        obtain ⟨_, _, _, _, _, _, _, _, _, _, _, _, _, _, _, _, _, _, _, _, (h20 : vals 20 = .int .i64 X), (h21 : vals 21 = .int .i64 Y), _⟩ := hv
        simp only [h20, h21]
        have Y6 := hide hb.1
        have M6 := hide hb.2.1
        have O6 := hide hb.2.2
        have E6 := hide (show ((L.set 5 (21, iv u)).set 10 (1, fun _ => .bool (mvOf (u 0) a mv)))[5]? = some (21, iv u) from set_other (set_same E5.out _) _ (by decide))
        have e29 : x.cell? ⟨b, 29, none⟩ = some (.int .i64 (u 17)) := Y6.out.1.get 5 E6.out 17 (by decide) (by rw [Y6.out.2.2.2.1.off 5 (a := 12) rfl]) (by decide)
        have e30 : x.cell? ⟨b, 30, none⟩ = some (.int .i64 (u 18)) := Y6.out.1.get 5 E6.out 18 (by decide) (by rw [Y6.out.2.2.2.1.off 5 (a := 12) rfl]) (by decide)
        have e31 : x.cell? ⟨b, 31, none⟩ = some (.int .i64 (u 19)) := Y6.out.1.get 5 E6.out 19 (by decide) (by rw [Y6.out.2.2.2.1.off 5 (a := 12) rfl]) (by decide)
        have z29 := Y6.out.1.frozen 29
        have z30 := Y6.out.1.frozen 30
        have z31 := Y6.out.1.frozen 31
        clear h20 h21 hb hs hall EB c6 k16 k17 k18 k19 Y5 M5 B5 H5 KM
        go_upto_region 20 with fail
        refine under_name fun x3 hx3 => ?_
        have H3 := hide (show HasF 81 x3 b 1072 (segs (((L.set 5 (21, iv u)).set 10 (1, fun _ => .bool (mvOf (u 0) a mv))).set 5 (21, iv (up (up (up u 17 X) 18 Y) 19 65535)))) by
          rw [hx3]
          have q1 := put_int Y6.out.1 5 E6.out 17 (by decide) (a := 29) (by rw [Y6.out.2.2.2.1.off 5 (a := 12) rfl]) X
          have y1 := Y6.out.2.2.2.1.set E6.out (iv (up u 17 X))
          have q2 := put_int q1 5 (set_same E6.out _) 18 (by decide) (a := 30) (by rw [y1.off 5 (a := 12) rfl]) Y
          rw [List.set_set] at q2
          have y2 := Y6.out.2.2.2.1.set E6.out (iv (up (up u 17 X) 18 Y))
          have q3 := put_int q2 5 (set_same E6.out _) 19 (by decide) (a := 31) (by rw [y2.off 5 (a := 12) rfl]) 65535
          rw [List.set_set] at q3
          exact q3)
        have B3 := hide (show But b x x3 by rw [hx3]; exact (((But.refl b x).set _ _).set _ _).set _ _)
        have k16 := (B3.out.keep M6.out (fun e => NB.out e.symm)).int 16 (by decide)
        clear hx3 e29 e30 e31 z29 z30 z31
        have e1 : Int.tdiv (u 16) 2 = u 16 / 2 := Int.tdiv_eq_ediv_of_nonneg R0.out
        have e2 : Int.tmod (u 16 / 2) 2 = u 16 / 2 % 2 := Int.tmod_eq_emod_of_nonneg (by have := R0.out; omega)
        have e3 : (u 16 / 2 % 2 == 1) = my := MY.out
        have e4 : 0 ≤ u 16 / 2 ∧ u 16 / 2 ≤ 65536 := by have := R0.out; have := R1.out; omega
        go_wp2_with fail
        refine (KL.out _ H3.out).mono ?_
        rintro e x4 ⟨rfl, h4, b4⟩
        have H4 := hide h4
        have B4 := hide (B3.out.trans b4)
        clear h4 b4 H3 B3
        go_wp2
        go_end0
        exact ⟨rfl, Y6.out.row B4.out H4.out YL.out.1 (YL.out.2.1.trans (set_other (set_other rfl _ (by decide)) _ (by decide)).symm) (YL.out.2.2.trans (set_other (set_other rfl _ (by decide)) _ (by decide)).symm), O6.out.trans (ey_but B4.out)⟩
      · have ac : (a == 3) = false := by simp [a3]
        have e1 : mvOf (u 0) a mv = mv := by unfold mvOf; rw [if_neg (by omega)]
        have hH : ∀ wx, wx = w4 → HasF 81 wx b 1072 (segs ((L.set 5 (21, iv u)).set 10 (1, fun _ => .bool (mvOf (u 0) a mv)))) ∧ HasF 69 wx w2.heap.size 21 (iv u) ∧ But b w wx := fun wx hx => by
          rw [hx, e1, set_id (set_other (k := 5) E10.out (21, iv u) (by decide))]
          exact ⟨H4.out, M4.out, B4.out⟩
        clear s8 a2 a3
        replace hH := hide hH
        clear e1
        go_upto_region 4 with fail
        refine under_name fun w5 hw5 => ?_
        obtain ⟨h5, m5, b5⟩ := hH.out w5 hw5
        have H5 := hide h5
        have M5 := hide m5
        have B5 := hide b5
        have Y5 := hide (HE.out.row b5 h5 ((HY.out.set E5.out _).set (set_other E10.out _ (by decide)) _) (set_other (set_other rfl _ (by decide)) _ (by decide)) (set_other (set_other rfl _ (by decide)) _ (by decide)))
        clear hw5 hH h5 m5 b5 H4 M4 B4 g0 c10 z10 HE
        have c6 := H5.out.get1 6 Y5.out.2.2.2.2.1 (a := 33) (Y5.out.2.2.2.1.off 6 rfl) (by decide)
        have k16 := M5.out.int 16 (by decide)
        have k17 := M5.out.int 17 (by decide)
        have k18 := M5.out.int 18 (by decide)
        have k19 := M5.out.int 19 (by decide)
        have HL := hide H5.out.lt
        have GL := hide M5.out.lt
        have GN := hide (show w2.heap.size ≠ c ∧ w2.heap.size ≠ d from ⟨fun e => by have := lt_of_block HC.out.1; have := SZ.out; omega, fun e => by have := lt_of_block HC.out.2; have := SZ.out; omega⟩)
        generalize hg : w2.heap.size = g at *
        replace hg := hide hg
        go_wp2_with fail
        obtain ⟨B1, hB1⟩ : ∃ B1 : World → Prop, B1 = fun x => HasY x b c d r ((L.set 5 (21, iv u)).set 10 (1, fun _ => .bool (mvOf (u 0) a mv))) F wr rd st lo bu ram ∧ HasF 69 x g 21 (iv u) ∧ OnlyE (EY b c d r) w x := ⟨_, rfl⟩
        have EB : ∀ x, (HasY x b c d r ((L.set 5 (21, iv u)).set 10 (1, fun _ => .bool (mvOf (u 0) a mv))) F wr rd st lo bu ram ∧ HasF 69 x g 21 (iv u) ∧ OnlyE (EY b c d r) w x) ↔ B1 x := fun x => by rw [hB1]
        clear hB1
        refine wp_region_state (ofList [.pointer (some ⟨b, 0, none⟩), .pointer (some ⟨b, 0, none⟩), .pointer (some ⟨b, 33, none⟩), .pointer (some ⟨c, 0, none⟩), .pointer (some ⟨g, 1, none⟩), .pointer (some ⟨g, 17, none⟩), .int .i64 (u 17), .pointer (some ⟨g, 1, none⟩), .pointer (some ⟨g, 18, none⟩), .int .i64 (u 18), .pointer (some ⟨g, 1, none⟩), .pointer (some ⟨g, 19, none⟩), .int .i64 (u 19), .pointer (some ⟨g, 1, none⟩), .pointer (some ⟨g, 16, none⟩), .int .i64 (u 16), .tuple #[.int .i64 X, .int .i64 Y], .tuple #[.int .i64 X, .int .i64 Y], .int .i64 X, .int .i64 Y, .int .i64 X, .int .i64 Y]) (oneS (fun x => Below w5.heap.size w5 x) B1 16) _ (fun vals => by simp only [putAll, Act.put, List.setIfInBounds_toArray, List.set_cons_succ, List.set_cons_zero, Nat.reduceAdd]; rfl) (by kernel_rfl) (by kernel_rfl) (by kernel_rfl) (fun dn hd => oneS_none hd (Below.refl _ _).drew) ?_ ?_
        · refine stepsS_cons (fun vals dn x hi hc hk hs => ?_) (stepsS_cons (fun vals dn x hi hc hk hs => ?_) (stepsS_cons (fun vals dn x hi hc hk hs => ?_) (stepsS_cons (fun vals dn x hi hc hk hs => ?_) (stepsS_cons (fun vals dn x hi hc hk hs => ?_) (stepsS_cons (fun vals dn x hi hc hk hs => ?_) (stepsS_cons (fun vals dn x hi hc hk hs => ?_) (stepsS_cons (fun vals dn x hi hc hk hs => ?_) (stepsS_cons (fun vals dn x hi hc hk hs => ?_) (stepsS_cons (fun vals dn x hi hc hk hs => ?_) (stepsS_cons (fun vals dn x hi hc hk hs => ?_) (stepsS_cons (fun vals dn x hi hc hk hs => ?_) (stepsS_cons (fun vals dn x hi hc hk hs => ?_) (stepsS_cons (fun vals dn x hi hc hk hs => ?_) (stepsS_cons (fun vals dn x hi hc hk hs => ?_) (stepsS_cons (fun vals dn x hi hc hk hs => ?_) (stepsS_cons (fun vals dn x hi hc hk hs => ?_) (stepsS_cons (fun vals dn x hi hc hk hs => ?_) (stepsS_cons (fun vals dn x hi hc hk hs => ?_) (stepsS_cons (fun vals dn x hi hc hk hs => ?_) (stepsS_cons (fun vals dn x hi hc hk hs => ?_) (stepsS_cons (fun vals dn x hi hc hk hs => ?_) stepsS_nil)))))))))))))))))))))
          · have hd := not_yet hc hi 16 30 (by kernel_rfl)
            have hb := oneS_ahead hs hd
            go_wp2_with fail
            exact postS_mk _ rfl rfl (oneS_stay0 hd (by decide) hb)
          · obtain ⟨⟨(h0 : vals 0 = .pointer (some ⟨b, 0, none⟩)), t0⟩, _⟩ := hk
            simp only [h0]
            clear h0
            have hd := not_yet hc hi 16 30 (by kernel_rfl)
            have hb := oneS_ahead hs hd
            go_wp2_with fail
            exact postS_mk _ rfl rfl (oneS_stay0 hd (by decide) hb)
          · obtain ⟨⟨(h1 : vals 1 = .pointer (some ⟨b, 0, none⟩)), t1⟩, _⟩ := hk
            simp only [h1]
            clear h1
            have hd := not_yet hc hi 16 30 (by kernel_rfl)
            have hb := oneS_ahead hs hd
            go_wp2_with fail
            exact postS_mk _ rfl rfl (oneS_stay0 hd (by decide) hb)
          · obtain ⟨⟨(h2 : vals 2 = .pointer (some ⟨b, 33, none⟩)), t2⟩, _⟩ := hk
            simp only [h2]
            clear h2
            have hd := not_yet hc hi 16 30 (by kernel_rfl)
            have hb := oneS_ahead hs hd
            have q := (hb.cell (p := ⟨b, 33, none⟩) HL.out).trans c6
            go_wp2_with fail
            exact postS_mk _ rfl rfl (oneS_stay0 hd (by decide) hb)
          · have hd := not_yet hc hi 16 30 (by kernel_rfl)
            have hb := oneS_ahead hs hd
            go_wp2_with fail
            exact postS_mk _ rfl rfl (oneS_stay0 hd (by decide) hb)
          · obtain ⟨⟨(h4 : vals 4 = .pointer (some ⟨g, 1, none⟩)), t4⟩, _⟩ := hk
            simp only [h4]
            clear h4
            have hd := not_yet hc hi 16 30 (by kernel_rfl)
            have hb := oneS_ahead hs hd
            go_wp2_with fail
            exact postS_mk _ rfl rfl (oneS_stay0 hd (by decide) hb)
          · obtain ⟨⟨(h5 : vals 5 = .pointer (some ⟨g, 17, none⟩)), t5⟩, _⟩ := hk
            simp only [h5]
            clear h5
            have hd := not_yet hc hi 16 30 (by kernel_rfl)
            have hb := oneS_ahead hs hd
            have q := (hb.cell (p := ⟨g, 17, none⟩) GL.out).trans k17
            go_wp2_with fail
            exact postS_mk _ rfl rfl (oneS_stay0 hd (by decide) hb)
          · have hd := not_yet hc hi 16 30 (by kernel_rfl)
            have hb := oneS_ahead hs hd
            go_wp2_with fail
            exact postS_mk _ rfl rfl (oneS_stay0 hd (by decide) hb)
          · obtain ⟨⟨(h7 : vals 7 = .pointer (some ⟨g, 1, none⟩)), t7⟩, _⟩ := hk
            simp only [h7]
            clear h7
            have hd := not_yet hc hi 16 30 (by kernel_rfl)
            have hb := oneS_ahead hs hd
            go_wp2_with fail
            exact postS_mk _ rfl rfl (oneS_stay0 hd (by decide) hb)
          · obtain ⟨⟨(h8 : vals 8 = .pointer (some ⟨g, 18, none⟩)), t8⟩, _⟩ := hk
            simp only [h8]
            clear h8
            have hd := not_yet hc hi 16 30 (by kernel_rfl)
            have hb := oneS_ahead hs hd
            have q := (hb.cell (p := ⟨g, 18, none⟩) GL.out).trans k18
            go_wp2_with fail
            exact postS_mk _ rfl rfl (oneS_stay0 hd (by decide) hb)
          · have hd := not_yet hc hi 16 30 (by kernel_rfl)
            have hb := oneS_ahead hs hd
            go_wp2_with fail
            exact postS_mk _ rfl rfl (oneS_stay0 hd (by decide) hb)
          · obtain ⟨⟨(h10 : vals 10 = .pointer (some ⟨g, 1, none⟩)), t10⟩, _⟩ := hk
            simp only [h10]
            clear h10
            have hd := not_yet hc hi 16 30 (by kernel_rfl)
            have hb := oneS_ahead hs hd
            go_wp2_with fail
            exact postS_mk _ rfl rfl (oneS_stay0 hd (by decide) hb)
          · obtain ⟨⟨(h11 : vals 11 = .pointer (some ⟨g, 19, none⟩)), t11⟩, _⟩ := hk
            simp only [h11]
            clear h11
            have hd := not_yet hc hi 16 30 (by kernel_rfl)
            have hb := oneS_ahead hs hd
            have q := (hb.cell (p := ⟨g, 19, none⟩) GL.out).trans k19
            go_wp2_with fail
            exact postS_mk _ rfl rfl (oneS_stay0 hd (by decide) hb)
          · have hd := not_yet hc hi 16 30 (by kernel_rfl)
            have hb := oneS_ahead hs hd
            go_wp2_with fail
            exact postS_mk _ rfl rfl (oneS_stay0 hd (by decide) hb)
          · obtain ⟨⟨(h13 : vals 13 = .pointer (some ⟨g, 1, none⟩)), t13⟩, _⟩ := hk
            simp only [h13]
            clear h13
            have hd := not_yet hc hi 16 30 (by kernel_rfl)
            have hb := oneS_ahead hs hd
            go_wp2_with fail
            exact postS_mk _ rfl rfl (oneS_stay0 hd (by decide) hb)
          · obtain ⟨⟨(h14 : vals 14 = .pointer (some ⟨g, 16, none⟩)), t14⟩, _⟩ := hk
            simp only [h14]
            clear h14
            have hd := not_yet hc hi 16 30 (by kernel_rfl)
            have hb := oneS_ahead hs hd
            have q := (hb.cell (p := ⟨g, 16, none⟩) GL.out).trans k16
            go_wp2_with fail
            exact postS_mk _ rfl rfl (oneS_stay0 hd (by decide) hb)
          · obtain ⟨⟨(h3 : vals 3 = .pointer (some ⟨c, 0, none⟩)), t3⟩, ⟨(h6 : vals 6 = .int .i64 (u 17)), t6⟩, ⟨(h9 : vals 9 = .int .i64 (u 18)), t9⟩, ⟨(h12 : vals 12 = .int .i64 (u 19)), t12⟩, ⟨(h15 : vals 15 = .int .i64 (u 16)), t15⟩, _⟩ := hk
            simp only [h3, h6, h9, h12, h15]
            clear h3 h6 h9 h12 h15
            have hb := oneS_ahead hs hi
            have y6 := Y5.out.next hb
            go_wp2_with fail
            refine (KM.out _ y6.2.1).mono ?_
            rintro e x2 ⟨rfl, h2, o2⟩
            have r2 : B1 x2 := (EB x2).1 ⟨y6.vram o2 h2, Only2.obj o2 (M5.out.next hb) GN.out.1 GN.out.2, (ey_but (B5.out.andBelow hb)).trans (ey_two o2)⟩
            clear h2 o2 y6
            go_wp2_with fail
            exact postS_mk _ rfl rfl (oneS_goes r2)
          · obtain ⟨⟨(h16 : vals 16 = .tuple #[.int .i64 X, .int .i64 Y]), t16⟩, _⟩ := hk
            simp only [h16]
            clear h16
            have hd := t16
            have hb := oneS_behind hs hd
            go_wp2_with fail
            exact postS_mk _ rfl rfl (oneS_stay1 hd (by decide) hb)
          · obtain ⟨⟨(h17 : vals 17 = .tuple #[.int .i64 X, .int .i64 Y]), t17⟩, _⟩ := hk
            simp only [h17]
            clear h17
            have hd := reach_done hc 30 16 17 t17 (by kernel_rfl)
            have hb := oneS_behind hs hd
            go_wp2_with fail
            exact postS_mk _ rfl rfl (oneS_stay1 hd (by decide) hb)
          · obtain ⟨⟨(h17 : vals 17 = .tuple #[.int .i64 X, .int .i64 Y]), t17⟩, _, _⟩ := hk
            simp only [h17]
            clear h17
            have hd := reach_done hc 30 16 17 t17 (by kernel_rfl)
            have hb := oneS_behind hs hd
            go_wp2_with fail
            exact postS_mk _ rfl rfl (oneS_stay1 hd (by decide) hb)
          · obtain ⟨⟨(h18 : vals 18 = .int .i64 X), t18⟩, ⟨(h16 : vals 16 = .tuple #[.int .i64 X, .int .i64 Y]), t16⟩, ⟨(h0 : vals 0 = .pointer (some ⟨b, 0, none⟩)), t0⟩, ⟨(h1 : vals 1 = .pointer (some ⟨b, 0, none⟩)), t1⟩, ⟨(h2 : vals 2 = .pointer (some ⟨b, 33, none⟩)), t2⟩, ⟨(h3 : vals 3 = .pointer (some ⟨c, 0, none⟩)), t3⟩, ⟨(h4 : vals 4 = .pointer (some ⟨g, 1, none⟩)), t4⟩, ⟨(h5 : vals 5 = .pointer (some ⟨g, 17, none⟩)), t5⟩, ⟨(h6 : vals 6 = .int .i64 (u 17)), t6⟩, ⟨(h7 : vals 7 = .pointer (some ⟨g, 1, none⟩)), t7⟩, ⟨(h8 : vals 8 = .pointer (some ⟨g, 18, none⟩)), t8⟩, ⟨(h9 : vals 9 = .int .i64 (u 18)), t9⟩, ⟨(h10 : vals 10 = .pointer (some ⟨g, 1, none⟩)), t10⟩, ⟨(h11 : vals 11 = .pointer (some ⟨g, 19, none⟩)), t11⟩, ⟨(h12 : vals 12 = .int .i64 (u 19)), t12⟩, ⟨(h13 : vals 13 = .pointer (some ⟨g, 1, none⟩)), t13⟩, ⟨(h14 : vals 14 = .pointer (some ⟨g, 16, none⟩)), t14⟩, ⟨(h15 : vals 15 = .int .i64 (u 16)), t15⟩, _, ⟨(h17 : vals 17 = .tuple #[.int .i64 X, .int .i64 Y]), t17⟩, _, _, _⟩ := hk
            simp only [h18, h16, h0, h1, h2, h3, h4, h5, h6, h7, h8, h9, h10, h11, h12, h13, h14, h15, h17]
            clear h18 h16 h0 h1 h2 h3 h4 h5 h6 h7 h8 h9 h10 h11 h12 h13 h14 h15 h17
            have hd := t16
            have hb := oneS_behind hs hd
            go_wp2_with fail
            exact postS_mk _ rfl rfl (oneS_stay1 hd (by decide) hb)
          · obtain ⟨⟨(h19 : vals 19 = .int .i64 Y), t19⟩, ⟨(h20 : vals 20 = .int .i64 X), t20⟩, ⟨(h0 : vals 0 = .pointer (some ⟨b, 0, none⟩)), t0⟩, ⟨(h1 : vals 1 = .pointer (some ⟨b, 0, none⟩)), t1⟩, ⟨(h2 : vals 2 = .pointer (some ⟨b, 33, none⟩)), t2⟩, ⟨(h3 : vals 3 = .pointer (some ⟨c, 0, none⟩)), t3⟩, ⟨(h4 : vals 4 = .pointer (some ⟨g, 1, none⟩)), t4⟩, ⟨(h5 : vals 5 = .pointer (some ⟨g, 17, none⟩)), t5⟩, ⟨(h6 : vals 6 = .int .i64 (u 17)), t6⟩, ⟨(h7 : vals 7 = .pointer (some ⟨g, 1, none⟩)), t7⟩, ⟨(h8 : vals 8 = .pointer (some ⟨g, 18, none⟩)), t8⟩, ⟨(h9 : vals 9 = .int .i64 (u 18)), t9⟩, ⟨(h10 : vals 10 = .pointer (some ⟨g, 1, none⟩)), t10⟩, ⟨(h11 : vals 11 = .pointer (some ⟨g, 19, none⟩)), t11⟩, ⟨(h12 : vals 12 = .int .i64 (u 19)), t12⟩, ⟨(h13 : vals 13 = .pointer (some ⟨g, 1, none⟩)), t13⟩, ⟨(h14 : vals 14 = .pointer (some ⟨g, 16, none⟩)), t14⟩, ⟨(h15 : vals 15 = .int .i64 (u 16)), t15⟩, ⟨(h16 : vals 16 = .tuple #[.int .i64 X, .int .i64 Y]), t16⟩, ⟨(h17 : vals 17 = .tuple #[.int .i64 X, .int .i64 Y]), t17⟩, ⟨(h18 : vals 18 = .int .i64 X), t18⟩, _, _, _⟩ := hk
            simp only [h19, h20, h0, h1, h2, h3, h4, h5, h6, h7, h8, h9, h10, h11, h12, h13, h14, h15, h16, h17, h18]
            clear h19 h20 h0 h1 h2 h3 h4 h5 h6 h7 h8 h9 h10 h11 h12 h13 h14 h15 h16 h17 h18
            have hd := t16
            have hb := oneS_behind hs hd
            go_wp2_with fail
            exact postS_mk _ rfl rfl (oneS_stay1 hd (by decide) hb)
        rintro vals dn x hall hs hv
        have hb := (EB x).2 (oneS_behind hs (hall 16 (by decide)))
        obtain ⟨_, _, _, _, _, _, _, _, _, _, _, _, _, _, _, _, _, _, _, _, (h20 : vals 20 = .int .i64 X), (h21 : vals 21 = .int .i64 Y), _⟩ := hv
        simp only [h20, h21]
        have Y6 := hide hb.1
        have M6 := hide hb.2.1
        have O6 := hide hb.2.2
        have E6 := hide (show ((L.set 5 (21, iv u)).set 10 (1, fun _ => .bool (mvOf (u 0) a mv)))[5]? = some (21, iv u) from set_other (set_same E5.out _) _ (by decide))
        have e29 : x.cell? ⟨b, 29, none⟩ = some (.int .i64 (u 17)) := Y6.out.1.get 5 E6.out 17 (by decide) (by rw [Y6.out.2.2.2.1.off 5 (a := 12) rfl]) (by decide)
        have e30 : x.cell? ⟨b, 30, none⟩ = some (.int .i64 (u 18)) := Y6.out.1.get 5 E6.out 18 (by decide) (by rw [Y6.out.2.2.2.1.off 5 (a := 12) rfl]) (by decide)
        have e31 : x.cell? ⟨b, 31, none⟩ = some (.int .i64 (u 19)) := Y6.out.1.get 5 E6.out 19 (by decide) (by rw [Y6.out.2.2.2.1.off 5 (a := 12) rfl]) (by decide)
        have z29 := Y6.out.1.frozen 29
        have z30 := Y6.out.1.frozen 30
        have z31 := Y6.out.1.frozen 31
        clear h20 h21 hb hs hall EB c6 k16 k17 k18 k19 Y5 M5 B5 H5 KM
        go_upto_region 20 with fail
        refine under_name fun x3 hx3 => ?_
        have H3 := hide (show HasF 81 x3 b 1072 (segs (((L.set 5 (21, iv u)).set 10 (1, fun _ => .bool (mvOf (u 0) a mv))).set 5 (21, iv (up (up (up u 17 X) 18 Y) 19 65535)))) by
          rw [hx3]
          have q1 := put_int Y6.out.1 5 E6.out 17 (by decide) (a := 29) (by rw [Y6.out.2.2.2.1.off 5 (a := 12) rfl]) X
          have y1 := Y6.out.2.2.2.1.set E6.out (iv (up u 17 X))
          have q2 := put_int q1 5 (set_same E6.out _) 18 (by decide) (a := 30) (by rw [y1.off 5 (a := 12) rfl]) Y
          rw [List.set_set] at q2
          have y2 := Y6.out.2.2.2.1.set E6.out (iv (up (up u 17 X) 18 Y))
          have q3 := put_int q2 5 (set_same E6.out _) 19 (by decide) (a := 31) (by rw [y2.off 5 (a := 12) rfl]) 65535
          rw [List.set_set] at q3
          exact q3)
        have B3 := hide (show But b x x3 by rw [hx3]; exact (((But.refl b x).set _ _).set _ _).set _ _)
        have k16 := (B3.out.keep M6.out (fun e => NB.out e.symm)).int 16 (by decide)
        clear hx3 e29 e30 e31 z29 z30 z31
        have e1 : Int.tdiv (u 16) 2 = u 16 / 2 := Int.tdiv_eq_ediv_of_nonneg R0.out
        have e2 : Int.tmod (u 16 / 2) 2 = u 16 / 2 % 2 := Int.tmod_eq_emod_of_nonneg (by have := R0.out; omega)
        have e3 : (u 16 / 2 % 2 == 1) = my := MY.out
        have e4 : 0 ≤ u 16 / 2 ∧ u 16 / 2 ≤ 65536 := by have := R0.out; have := R1.out; omega
        go_wp2_with fail
        refine (KL.out _ H3.out).mono ?_
        rintro e x4 ⟨rfl, h4, b4⟩
        have H4 := hide h4
        have B4 := hide (B3.out.trans b4)
        clear h4 b4 H3 B3
        go_wp2
        go_end0
        exact ⟨rfl, Y6.out.row B4.out H4.out YL.out.1 (YL.out.2.1.trans (set_other (set_other rfl _ (by decide)) _ (by decide)).symm) (YL.out.2.2.trans (set_other (set_other rfl _ (by decide)) _ (by decide)).symm), O6.out.trans (ey_but B4.out)⟩
  · have sb : (u 0 == 8) = false := by simp [s8]
    have e1 : mvOf (u 0) a mv = mv := by unfold mvOf; rw [if_neg (by omega)]
    have hH : ∀ wx, wx = w4 → HasF 81 wx b 1072 (segs ((L.set 5 (21, iv u)).set 10 (1, fun _ => .bool (mvOf (u 0) a mv)))) ∧ HasF 69 wx w2.heap.size 21 (iv u) ∧ But b w wx := fun wx hx => by
      rw [hx, e1, set_id (set_other (k := 5) E10.out (21, iv u) (by decide))]
      exact ⟨H4.out, M4.out, B4.out⟩
    clear s8
    replace hH := hide hH
    clear e1
    go_upto_region 4 with fail
    refine under_name fun w5 hw5 => ?_
    obtain ⟨h5, m5, b5⟩ := hH.out w5 hw5
    have H5 := hide h5
    have M5 := hide m5
    have B5 := hide b5
    have Y5 := hide (HE.out.row b5 h5 ((HY.out.set E5.out _).set (set_other E10.out _ (by decide)) _) (set_other (set_other rfl _ (by decide)) _ (by decide)) (set_other (set_other rfl _ (by decide)) _ (by decide)))
    clear hw5 hH h5 m5 b5 H4 M4 B4 g0 c10 z10 HE
    have c6 := H5.out.get1 6 Y5.out.2.2.2.2.1 (a := 33) (Y5.out.2.2.2.1.off 6 rfl) (by decide)
    have k16 := M5.out.int 16 (by decide)
    have k17 := M5.out.int 17 (by decide)
    have k18 := M5.out.int 18 (by decide)
    have k19 := M5.out.int 19 (by decide)
    have HL := hide H5.out.lt
    have GL := hide M5.out.lt
    have GN := hide (show w2.heap.size ≠ c ∧ w2.heap.size ≠ d from ⟨fun e => by have := lt_of_block HC.out.1; have := SZ.out; omega, fun e => by have := lt_of_block HC.out.2; have := SZ.out; omega⟩)
    generalize hg : w2.heap.size = g at *
    replace hg := hide hg
    go_wp2_with fail
    obtain ⟨B1, hB1⟩ : ∃ B1 : World → Prop, B1 = fun x => HasY x b c d r ((L.set 5 (21, iv u)).set 10 (1, fun _ => .bool (mvOf (u 0) a mv))) F wr rd st lo bu ram ∧ HasF 69 x g 21 (iv u) ∧ OnlyE (EY b c d r) w x := ⟨_, rfl⟩
    have EB : ∀ x, (HasY x b c d r ((L.set 5 (21, iv u)).set 10 (1, fun _ => .bool (mvOf (u 0) a mv))) F wr rd st lo bu ram ∧ HasF 69 x g 21 (iv u) ∧ OnlyE (EY b c d r) w x) ↔ B1 x := fun x => by rw [hB1]
    clear hB1
    refine wp_region_state (ofList [.pointer (some ⟨b, 0, none⟩), .pointer (some ⟨b, 0, none⟩), .pointer (some ⟨b, 33, none⟩), .pointer (some ⟨c, 0, none⟩), .pointer (some ⟨g, 1, none⟩), .pointer (some ⟨g, 17, none⟩), .int .i64 (u 17), .pointer (some ⟨g, 1, none⟩), .pointer (some ⟨g, 18, none⟩), .int .i64 (u 18), .pointer (some ⟨g, 1, none⟩), .pointer (some ⟨g, 19, none⟩), .int .i64 (u 19), .pointer (some ⟨g, 1, none⟩), .pointer (some ⟨g, 16, none⟩), .int .i64 (u 16), .tuple #[.int .i64 X, .int .i64 Y], .tuple #[.int .i64 X, .int .i64 Y], .int .i64 X, .int .i64 Y, .int .i64 X, .int .i64 Y]) (oneS (fun x => Below w5.heap.size w5 x) B1 16) _ (fun vals => by simp only [putAll, Act.put, List.setIfInBounds_toArray, List.set_cons_succ, List.set_cons_zero, Nat.reduceAdd]; rfl) (by kernel_rfl) (by kernel_rfl) (by kernel_rfl) (fun dn hd => oneS_none hd (Below.refl _ _).drew) ?_ ?_
    · refine stepsS_cons (fun vals dn x hi hc hk hs => ?_) (stepsS_cons (fun vals dn x hi hc hk hs => ?_) (stepsS_cons (fun vals dn x hi hc hk hs => ?_) (stepsS_cons (fun vals dn x hi hc hk hs => ?_) (stepsS_cons (fun vals dn x hi hc hk hs => ?_) (stepsS_cons (fun vals dn x hi hc hk hs => ?_) (stepsS_cons (fun vals dn x hi hc hk hs => ?_) (stepsS_cons (fun vals dn x hi hc hk hs => ?_) (stepsS_cons (fun vals dn x hi hc hk hs => ?_) (stepsS_cons (fun vals dn x hi hc hk hs => ?_) (stepsS_cons (fun vals dn x hi hc hk hs => ?_) (stepsS_cons (fun vals dn x hi hc hk hs => ?_) (stepsS_cons (fun vals dn x hi hc hk hs => ?_) (stepsS_cons (fun vals dn x hi hc hk hs => ?_) (stepsS_cons (fun vals dn x hi hc hk hs => ?_) (stepsS_cons (fun vals dn x hi hc hk hs => ?_) (stepsS_cons (fun vals dn x hi hc hk hs => ?_) (stepsS_cons (fun vals dn x hi hc hk hs => ?_) (stepsS_cons (fun vals dn x hi hc hk hs => ?_) (stepsS_cons (fun vals dn x hi hc hk hs => ?_) (stepsS_cons (fun vals dn x hi hc hk hs => ?_) (stepsS_cons (fun vals dn x hi hc hk hs => ?_) stepsS_nil)))))))))))))))))))))
      · have hd := not_yet hc hi 16 30 (by kernel_rfl)
        have hb := oneS_ahead hs hd
        go_wp2_with fail
        exact postS_mk _ rfl rfl (oneS_stay0 hd (by decide) hb)
      · obtain ⟨⟨(h0 : vals 0 = .pointer (some ⟨b, 0, none⟩)), t0⟩, _⟩ := hk
        simp only [h0]
        clear h0
        have hd := not_yet hc hi 16 30 (by kernel_rfl)
        have hb := oneS_ahead hs hd
        go_wp2_with fail
        exact postS_mk _ rfl rfl (oneS_stay0 hd (by decide) hb)
      · obtain ⟨⟨(h1 : vals 1 = .pointer (some ⟨b, 0, none⟩)), t1⟩, _⟩ := hk
        simp only [h1]
        clear h1
        have hd := not_yet hc hi 16 30 (by kernel_rfl)
        have hb := oneS_ahead hs hd
        go_wp2_with fail
        exact postS_mk _ rfl rfl (oneS_stay0 hd (by decide) hb)
      · obtain ⟨⟨(h2 : vals 2 = .pointer (some ⟨b, 33, none⟩)), t2⟩, _⟩ := hk
        simp only [h2]
        clear h2
        have hd := not_yet hc hi 16 30 (by kernel_rfl)
        have hb := oneS_ahead hs hd
        have q := (hb.cell (p := ⟨b, 33, none⟩) HL.out).trans c6
        go_wp2_with fail
        exact postS_mk _ rfl rfl (oneS_stay0 hd (by decide) hb)
      · have hd := not_yet hc hi 16 30 (by kernel_rfl)
        have hb := oneS_ahead hs hd
        go_wp2_with fail
        exact postS_mk _ rfl rfl (oneS_stay0 hd (by decide) hb)
      · obtain ⟨⟨(h4 : vals 4 = .pointer (some ⟨g, 1, none⟩)), t4⟩, _⟩ := hk
        simp only [h4]
        clear h4
        have hd := not_yet hc hi 16 30 (by kernel_rfl)
        have hb := oneS_ahead hs hd
        go_wp2_with fail
        exact postS_mk _ rfl rfl (oneS_stay0 hd (by decide) hb)
      · obtain ⟨⟨(h5 : vals 5 = .pointer (some ⟨g, 17, none⟩)), t5⟩, _⟩ := hk
        simp only [h5]
        clear h5
        have hd := not_yet hc hi 16 30 (by kernel_rfl)
        have hb := oneS_ahead hs hd
        have q := (hb.cell (p := ⟨g, 17, none⟩) GL.out).trans k17
        go_wp2_with fail
        exact postS_mk _ rfl rfl (oneS_stay0 hd (by decide) hb)
      · have hd := not_yet hc hi 16 30 (by kernel_rfl)
        have hb := oneS_ahead hs hd
        go_wp2_with fail
        exact postS_mk _ rfl rfl (oneS_stay0 hd (by decide) hb)
      · obtain ⟨⟨(h7 : vals 7 = .pointer (some ⟨g, 1, none⟩)), t7⟩, _⟩ := hk
        simp only [h7]
        clear h7
        have hd := not_yet hc hi 16 30 (by kernel_rfl)
        have hb := oneS_ahead hs hd
        go_wp2_with fail
        exact postS_mk _ rfl rfl (oneS_stay0 hd (by decide) hb)
      · obtain ⟨⟨(h8 : vals 8 = .pointer (some ⟨g, 18, none⟩)), t8⟩, _⟩ := hk
        simp only [h8]
        clear h8
        have hd := not_yet hc hi 16 30 (by kernel_rfl)
        have hb := oneS_ahead hs hd
        have q := (hb.cell (p := ⟨g, 18, none⟩) GL.out).trans k18
        go_wp2_with fail
        exact postS_mk _ rfl rfl (oneS_stay0 hd (by decide) hb)
      · have hd := not_yet hc hi 16 30 (by kernel_rfl)
        have hb := oneS_ahead hs hd
        go_wp2_with fail
        exact postS_mk _ rfl rfl (oneS_stay0 hd (by decide) hb)
      · obtain ⟨⟨(h10 : vals 10 = .pointer (some ⟨g, 1, none⟩)), t10⟩, _⟩ := hk
        simp only [h10]
        clear h10
        have hd := not_yet hc hi 16 30 (by kernel_rfl)
        have hb := oneS_ahead hs hd
        go_wp2_with fail
        exact postS_mk _ rfl rfl (oneS_stay0 hd (by decide) hb)
      · obtain ⟨⟨(h11 : vals 11 = .pointer (some ⟨g, 19, none⟩)), t11⟩, _⟩ := hk
        simp only [h11]
        clear h11
        have hd := not_yet hc hi 16 30 (by kernel_rfl)
        have hb := oneS_ahead hs hd
        have q := (hb.cell (p := ⟨g, 19, none⟩) GL.out).trans k19
        go_wp2_with fail
        exact postS_mk _ rfl rfl (oneS_stay0 hd (by decide) hb)
      · have hd := not_yet hc hi 16 30 (by kernel_rfl)
        have hb := oneS_ahead hs hd
        go_wp2_with fail
        exact postS_mk _ rfl rfl (oneS_stay0 hd (by decide) hb)
      · obtain ⟨⟨(h13 : vals 13 = .pointer (some ⟨g, 1, none⟩)), t13⟩, _⟩ := hk
        simp only [h13]
        clear h13
        have hd := not_yet hc hi 16 30 (by kernel_rfl)
        have hb := oneS_ahead hs hd
        go_wp2_with fail
        exact postS_mk _ rfl rfl (oneS_stay0 hd (by decide) hb)
      · obtain ⟨⟨(h14 : vals 14 = .pointer (some ⟨g, 16, none⟩)), t14⟩, _⟩ := hk
        simp only [h14]
        clear h14
        have hd := not_yet hc hi 16 30 (by kernel_rfl)
        have hb := oneS_ahead hs hd
        have q := (hb.cell (p := ⟨g, 16, none⟩) GL.out).trans k16
        go_wp2_with fail
        exact postS_mk _ rfl rfl (oneS_stay0 hd (by decide) hb)
      · obtain ⟨⟨(h3 : vals 3 = .pointer (some ⟨c, 0, none⟩)), t3⟩, ⟨(h6 : vals 6 = .int .i64 (u 17)), t6⟩, ⟨(h9 : vals 9 = .int .i64 (u 18)), t9⟩, ⟨(h12 : vals 12 = .int .i64 (u 19)), t12⟩, ⟨(h15 : vals 15 = .int .i64 (u 16)), t15⟩, _⟩ := hk
        simp only [h3, h6, h9, h12, h15]
        clear h3 h6 h9 h12 h15
        have hb := oneS_ahead hs hi
        have y6 := Y5.out.next hb
        go_wp2_with fail
        refine (KM.out _ y6.2.1).mono ?_
        rintro e x2 ⟨rfl, h2, o2⟩
        have r2 : B1 x2 := (EB x2).1 ⟨y6.vram o2 h2, Only2.obj o2 (M5.out.next hb) GN.out.1 GN.out.2, (ey_but (B5.out.andBelow hb)).trans (ey_two o2)⟩
        clear h2 o2 y6
        go_wp2_with fail
        exact postS_mk _ rfl rfl (oneS_goes r2)
      · obtain ⟨⟨(h16 : vals 16 = .tuple #[.int .i64 X, .int .i64 Y]), t16⟩, _⟩ := hk
        simp only [h16]
        clear h16
        have hd := t16
        have hb := oneS_behind hs hd
        go_wp2_with fail
        exact postS_mk _ rfl rfl (oneS_stay1 hd (by decide) hb)
      · obtain ⟨⟨(h17 : vals 17 = .tuple #[.int .i64 X, .int .i64 Y]), t17⟩, _⟩ := hk
        simp only [h17]
        clear h17
        have hd := reach_done hc 30 16 17 t17 (by kernel_rfl)
        have hb := oneS_behind hs hd
        go_wp2_with fail
        exact postS_mk _ rfl rfl (oneS_stay1 hd (by decide) hb)
      · obtain ⟨⟨(h17 : vals 17 = .tuple #[.int .i64 X, .int .i64 Y]), t17⟩, _, _⟩ := hk
        simp only [h17]
        clear h17
        have hd := reach_done hc 30 16 17 t17 (by kernel_rfl)
        have hb := oneS_behind hs hd
        go_wp2_with fail
        exact postS_mk _ rfl rfl (oneS_stay1 hd (by decide) hb)
      · obtain ⟨⟨(h18 : vals 18 = .int .i64 X), t18⟩, ⟨(h16 : vals 16 = .tuple #[.int .i64 X, .int .i64 Y]), t16⟩, ⟨(h0 : vals 0 = .pointer (some ⟨b, 0, none⟩)), t0⟩, ⟨(h1 : vals 1 = .pointer (some ⟨b, 0, none⟩)), t1⟩, ⟨(h2 : vals 2 = .pointer (some ⟨b, 33, none⟩)), t2⟩, ⟨(h3 : vals 3 = .pointer (some ⟨c, 0, none⟩)), t3⟩, ⟨(h4 : vals 4 = .pointer (some ⟨g, 1, none⟩)), t4⟩, ⟨(h5 : vals 5 = .pointer (some ⟨g, 17, none⟩)), t5⟩, ⟨(h6 : vals 6 = .int .i64 (u 17)), t6⟩, ⟨(h7 : vals 7 = .pointer (some ⟨g, 1, none⟩)), t7⟩, ⟨(h8 : vals 8 = .pointer (some ⟨g, 18, none⟩)), t8⟩, ⟨(h9 : vals 9 = .int .i64 (u 18)), t9⟩, ⟨(h10 : vals 10 = .pointer (some ⟨g, 1, none⟩)), t10⟩, ⟨(h11 : vals 11 = .pointer (some ⟨g, 19, none⟩)), t11⟩, ⟨(h12 : vals 12 = .int .i64 (u 19)), t12⟩, ⟨(h13 : vals 13 = .pointer (some ⟨g, 1, none⟩)), t13⟩, ⟨(h14 : vals 14 = .pointer (some ⟨g, 16, none⟩)), t14⟩, ⟨(h15 : vals 15 = .int .i64 (u 16)), t15⟩, _, ⟨(h17 : vals 17 = .tuple #[.int .i64 X, .int .i64 Y]), t17⟩, _, _, _⟩ := hk
        simp only [h18, h16, h0, h1, h2, h3, h4, h5, h6, h7, h8, h9, h10, h11, h12, h13, h14, h15, h17]
        clear h18 h16 h0 h1 h2 h3 h4 h5 h6 h7 h8 h9 h10 h11 h12 h13 h14 h15 h17
        have hd := t16
        have hb := oneS_behind hs hd
        go_wp2_with fail
        exact postS_mk _ rfl rfl (oneS_stay1 hd (by decide) hb)
      · obtain ⟨⟨(h19 : vals 19 = .int .i64 Y), t19⟩, ⟨(h20 : vals 20 = .int .i64 X), t20⟩, ⟨(h0 : vals 0 = .pointer (some ⟨b, 0, none⟩)), t0⟩, ⟨(h1 : vals 1 = .pointer (some ⟨b, 0, none⟩)), t1⟩, ⟨(h2 : vals 2 = .pointer (some ⟨b, 33, none⟩)), t2⟩, ⟨(h3 : vals 3 = .pointer (some ⟨c, 0, none⟩)), t3⟩, ⟨(h4 : vals 4 = .pointer (some ⟨g, 1, none⟩)), t4⟩, ⟨(h5 : vals 5 = .pointer (some ⟨g, 17, none⟩)), t5⟩, ⟨(h6 : vals 6 = .int .i64 (u 17)), t6⟩, ⟨(h7 : vals 7 = .pointer (some ⟨g, 1, none⟩)), t7⟩, ⟨(h8 : vals 8 = .pointer (some ⟨g, 18, none⟩)), t8⟩, ⟨(h9 : vals 9 = .int .i64 (u 18)), t9⟩, ⟨(h10 : vals 10 = .pointer (some ⟨g, 1, none⟩)), t10⟩, ⟨(h11 : vals 11 = .pointer (some ⟨g, 19, none⟩)), t11⟩, ⟨(h12 : vals 12 = .int .i64 (u 19)), t12⟩, ⟨(h13 : vals 13 = .pointer (some ⟨g, 1, none⟩)), t13⟩, ⟨(h14 : vals 14 = .pointer (some ⟨g, 16, none⟩)), t14⟩, ⟨(h15 : vals 15 = .int .i64 (u 16)), t15⟩, ⟨(h16 : vals 16 = .tuple #[.int .i64 X, .int .i64 Y]), t16⟩, ⟨(h17 : vals 17 = .tuple #[.int .i64 X, .int .i64 Y]), t17⟩, ⟨(h18 : vals 18 = .int .i64 X), t18⟩, _, _, _⟩ := hk
        simp only [h19, h20, h0, h1, h2, h3, h4, h5, h6, h7, h8, h9, h10, h11, h12, h13, h14, h15, h16, h17, h18]
        clear h19 h20 h0 h1 h2 h3 h4 h5 h6 h7 h8 h9 h10 h11 h12 h13 h14 h15 h16 h17 h18
        have hd := t16
        have hb := oneS_behind hs hd
        go_wp2_with fail
        exact postS_mk _ rfl rfl (oneS_stay1 hd (by decide) hb)
    rintro vals dn x hall hs hv
    have hb := (EB x).2 (oneS_behind hs (hall 16 (by decide)))
    obtain ⟨_, _, _, _, _, _, _, _, _, _, _, _, _, _, _, _, _, _, _, _, (h20 : vals 20 = .int .i64 X), (h21 : vals 21 = .int .i64 Y), _⟩ := hv
    simp only [h20, h21]
    have Y6 := hide hb.1
    have M6 := hide hb.2.1
    have O6 := hide hb.2.2
    have E6 := hide (show ((L.set 5 (21, iv u)).set 10 (1, fun _ => .bool (mvOf (u 0) a mv)))[5]? = some (21, iv u) from set_other (set_same E5.out _) _ (by decide))
    have e29 : x.cell? ⟨b, 29, none⟩ = some (.int .i64 (u 17)) := Y6.out.1.get 5 E6.out 17 (by decide) (by rw [Y6.out.2.2.2.1.off 5 (a := 12) rfl]) (by decide)
    have e30 : x.cell? ⟨b, 30, none⟩ = some (.int .i64 (u 18)) := Y6.out.1.get 5 E6.out 18 (by decide) (by rw [Y6.out.2.2.2.1.off 5 (a := 12) rfl]) (by decide)
    have e31 : x.cell? ⟨b, 31, none⟩ = some (.int .i64 (u 19)) := Y6.out.1.get 5 E6.out 19 (by decide) (by rw [Y6.out.2.2.2.1.off 5 (a := 12) rfl]) (by decide)
    have z29 := Y6.out.1.frozen 29
    have z30 := Y6.out.1.frozen 30
    have z31 := Y6.out.1.frozen 31
    clear h20 h21 hb hs hall EB c6 k16 k17 k18 k19 Y5 M5 B5 H5 KM
    go_upto_region 20 with fail
    refine under_name fun x3 hx3 => ?_
    have H3 := hide (show HasF 81 x3 b 1072 (segs (((L.set 5 (21, iv u)).set 10 (1, fun _ => .bool (mvOf (u 0) a mv))).set 5 (21, iv (up (up (up u 17 X) 18 Y) 19 65535)))) by
      rw [hx3]
      have q1 := put_int Y6.out.1 5 E6.out 17 (by decide) (a := 29) (by rw [Y6.out.2.2.2.1.off 5 (a := 12) rfl]) X
      have y1 := Y6.out.2.2.2.1.set E6.out (iv (up u 17 X))
      have q2 := put_int q1 5 (set_same E6.out _) 18 (by decide) (a := 30) (by rw [y1.off 5 (a := 12) rfl]) Y
      rw [List.set_set] at q2
      have y2 := Y6.out.2.2.2.1.set E6.out (iv (up (up u 17 X) 18 Y))
      have q3 := put_int q2 5 (set_same E6.out _) 19 (by decide) (a := 31) (by rw [y2.off 5 (a := 12) rfl]) 65535
      rw [List.set_set] at q3
      exact q3)
    have B3 := hide (show But b x x3 by rw [hx3]; exact (((But.refl b x).set _ _).set _ _).set _ _)
    have k16 := (B3.out.keep M6.out (fun e => NB.out e.symm)).int 16 (by decide)
    clear hx3 e29 e30 e31 z29 z30 z31
    have e1 : Int.tdiv (u 16) 2 = u 16 / 2 := Int.tdiv_eq_ediv_of_nonneg R0.out
    have e2 : Int.tmod (u 16 / 2) 2 = u 16 / 2 % 2 := Int.tmod_eq_emod_of_nonneg (by have := R0.out; omega)
    have e3 : (u 16 / 2 % 2 == 1) = my := MY.out
    have e4 : 0 ≤ u 16 / 2 ∧ u 16 / 2 ≤ 65536 := by have := R0.out; have := R1.out; omega
    go_wp2_with fail
    refine (KL.out _ H3.out).mono ?_
    rintro e x4 ⟨rfl, h4, b4⟩
    have H4 := hide h4
    have B4 := hide (B3.out.trans b4)
    clear h4 b4 H3 B3
    go_wp2
    go_end0
    exact ⟨rfl, Y6.out.row B4.out H4.out YL.out.1 (YL.out.2.1.trans (set_other (set_other rfl _ (by decide)) _ (by decide)).symm) (YL.out.2.2.trans (set_other (set_other rfl _ (by decide)) _ (by decide)).symm), O6.out.trans (ey_but B4.out)⟩
end Go.Proofs.YtnllcknfmciebaaGreatDoor.D24
