/- The program's machine: what reads the colours, the timer, the pads and the interrupts. -/
import Derived.Test.YtnoggfnidaifkaaGreatDoorConsoleNobodyJ10
namespace Go.Proofs.YtnoggfnidaifkaaGreatDoor.L24
set_option maxRecDepth 20000
open B4 C3 G6 R15 W13
open Go.RowKit
set_option linter.unusedVariables false
theorem But.fresh {b n : Nat} {w w' : World} (h : But b w w') (hn : w.heap.size ≤ n) (cs : Array Value) : But b w (w'.setRow n cs) :=
  ⟨h.1, h.2.1, h.2.2.1, by have := h.size; simp [World.setRow]; omega, fun i hi hb => (setRow_other w' n i cs (by omega)).trans (h.block i hi hb)⟩
theorem zero_C514 (w : World) : (zeroValue 53).run Tryz.prog w = .ok (.agg (rowF (iv fun _ => 0) 514)) w := by kernel_rfl
def vcR (S b z : Nat) (a x : Int) (q q' : Nat → Value) (i : Nat) (y : Value) (w : World) : Prop := match i with
  | 0 => y = .pointer (some ⟨b, 0, none⟩)
  | 1 => y = .pointer (some ⟨b, 0, none⟩)
  | 2 => y = .pointer (some ⟨b, 8483, none⟩)
  | 3 => y = .agg (rowF q 514)
  | 4 => y = .pointer (some ⟨z, 2, none⟩)
  | 5 => y = .int .i64 a
  | 6 => y = .tuple #[.int .i64 x, .agg (rowF q' 514)]
  | 7 => y = .tuple #[.int .i64 x, .agg (rowF q' 514)]
  | 8 => y = .int .i64 x
  | 9 => y = .agg (rowF q' 514)
  | 10 => ∃ n, y = .pointer (some ⟨n, 0, none⟩) ∧ HasF 53 w n 514 (iv fun _ => 0) ∧ S ≤ n
  | _ => y = .int .i64 x
theorem vcR_next (S b z : Nat) (a x : Int) (q q' : Nat → Value) : ∀ i y w w', vcR S b z a x q q' i y w → Below w.heap.size w w' → vcR S b z a x q q' i y w' := by
  intro i y w w' h k
  rcases i with _ | _ | _ | _ | _ | _ | _ | _ | _ | _ | _ | i
  iterate 10 exact h
  · obtain ⟨n, e, r, s⟩ := h
    exact ⟨n, e, r.next k, s⟩
  · exact h
set_option maxHeartbeats 1000000 in
theorem readVce_is {w : World} {b v c d : Nat} {L : List (Nat × (Nat → Value))} {bs : List Int} {f : Nat → Int} {wr rd st lo bu : Int} (h : HasX w b v c d L bs f wr rd st lo bu) (k g a : Int) {x : Int} {q q' : Nat → Value} (h10 : L[10]? = some (514, q)) (KV : ∀ w, Calls Tryz.prog 149 #[.agg (rowF q 514), .int .i64 a] w fun e w' => e = Ending.returned (.tuple #[.int .i64 x, .agg (rowF q' 514)]) ∧ Below w.heap.size w w') (hq : ∀ j, j < 514 → (q' j).oneCell' = true) : Calls Tryz.prog 100 #[.pointer (some ⟨b, 0, none⟩), .agg #[.int .i64 k, .int .i64 g, .int .i64 a]] w fun e w' => e = Ending.returned (.int .i64 x) ∧ HasX w' b v c d (L.set 10 (514, q')) bs f wr rd st lo bu ∧ OnlyE (EX b v) w w' := by
  have SG := hide (h.1.seg 10 h10 (a := 8483) (h.isB.off 10 rfl))
  have E10 := hide h10
  have HB := hide h.isB
  have HE := hide h
  have G1 := hide hq
  have V0 := hide KV
  have ZO : Hid ((rowF q' 514).all (·.oneCell') = true) := hide (rowF_all hq)
  have ZI : Hid ((Tryz.prog.info? 53).map (·.size) = some (rowF q' 514).size) := hide (by rw [rowF_size]; kernel_rfl)
  have ZS : Hid ((rowF (iv fun _ => 0) 514).size = (rowF q' 514).size) := hide (by rw [rowF_size, rowF_size])
  clear h h10 KV hq
  go_enter Tryz.func100, Tryz.ntmps100
  go_wp2_with fail
  refine under_name fun w0 hw0 => ?_
  have b0 : Below w.heap.size w w0 := by rw [hw0]; exact (Below.refl _ w).alloc (Nat.le_refl _) _
  have p2 : Hid (w0.cell? ⟨w.heap.size, 2, none⟩ = some (.int .i64 a)) := hide (by rw [hw0]; exact (cell_of_row _ _ 2 _ _ _ (heap_alloc_new _ _)).trans rfl)
  have lz : Hid (w.heap.size < w0.heap.size) := hide (by rw [hw0]; simp)
  have X0 := hide (HE.out.next b0)
  have B0 := hide (But.of (b := b) b0)
  clear hw0 b0
  generalize hz : w.heap.size = z at *
  replace hz := hide hz
  refine wp_region_facts_last [_, _, _, _, _, _, _, _, _, _, _, _] _ rfl (vcR w0.heap.size b z a x q q') _ (fun vals => by simp only [putAll, Act.put, List.setIfInBounds_toArray, List.set_cons_succ, List.set_cons_zero, Nat.reduceAdd]; rfl) (by kernel_rfl) (by kernel_rfl) (by kernel_rfl) (by kernel_rfl) (vcR_next _ _ _ _ _ _ _) ?_ ?_
  · refine steps_cons (fun vals u hb hf => ?_) (steps_cons (fun vals u hb hf => ?_) (steps_cons (fun vals u hb hf => ?_) (steps_cons (fun vals u hb hf => ?_) (steps_cons (fun vals u hb hf => ?_) (steps_cons (fun vals u hb hf => ?_) (steps_cons (fun vals u hb hf => ?_) (steps_cons (fun vals u hb hf => ?_) (steps_cons (fun vals u hb hf => ?_) (steps_cons (fun vals u hb hf => ?_) (steps_cons (fun vals u hb hf => ?_) (steps_cons (fun vals u hb hf => ?_) steps_nil)))))))))))
    · set_option maxRecDepth 20000 in
      go_wp2_with fail
      exact stepPost_mk _ rfl rfl (Below.refl _ _)
    · obtain ⟨(h0 : vals 0 = .pointer (some ⟨b, 0, none⟩)), _⟩ := hf
      simp only [h0]
      clear h0
      go_wp2_with fail
      exact stepPost_mk _ rfl rfl (Below.refl _ _)
    · obtain ⟨(h1 : vals 1 = .pointer (some ⟨b, 0, none⟩)), _⟩ := hf
      simp only [h1]
      clear h1
      go_wp2_with fail
      exact stepPost_mk _ rfl rfl (Below.refl _ _)
    · obtain ⟨(h2 : vals 2 = .pointer (some ⟨b, 8483, none⟩)), _⟩ := hf
      simp only [h2]
      clear h2
      have H := X0.out.1.next hb
      refine wpList_load_part rfl 53 (.tmp 10) rfl b 8483 rfl H 514 (by decide) q SG.out _ Tryz.underlying53 rfl (by kernel_rfl) ?_
      exact stepPost_mk _ rfl rfl (Below.refl _ _)
    · set_option maxRecDepth 20000 in
      go_wp2_with fail
      exact stepPost_mk _ rfl rfl (Below.refl _ _)
    · obtain ⟨(h4 : vals 4 = .pointer (some ⟨z, 2, none⟩)), _⟩ := hf
      simp only [h4]
      clear h4
      have c2 := (hb.cell (p := ⟨z, 2, none⟩) lz.out).trans p2.out
      go_wp2_with fail
      exact stepPost_mk _ rfl rfl (Below.refl _ _)
    · obtain ⟨(h3 : vals 3 = .agg (rowF q 514)), (h5 : vals 5 = .int .i64 a), _⟩ := hf
      simp only [h3, h5]
      clear h3 h5
      go_wp2_with fail
      refine (V0.out _).mono ?_
      rintro e u2 ⟨rfl, b2⟩
      have B2 := hide b2
      clear b2
      go_wp2_with fail
      exact stepPost_mk _ rfl rfl B2.out
    · obtain ⟨(h6 : vals 6 = .tuple #[.int .i64 x, .agg (rowF q' 514)]), _⟩ := hf
      simp only [h6]
      clear h6
      go_wp2_with fail
      exact stepPost_mk _ rfl rfl (Below.refl _ _)
    · obtain ⟨(h7 : vals 7 = .tuple #[.int .i64 x, .agg (rowF q' 514)]), _⟩ := hf
      simp only [h7]
      clear h7
      go_wp2_with fail
      exact stepPost_mk _ rfl rfl (Below.refl _ _)
    · obtain ⟨(h7 : vals 7 = .tuple #[.int .i64 x, .agg (rowF q' 514)]), _⟩ := hf
      simp only [h7]
      clear h7
      go_wp2_with fail
      exact stepPost_mk _ rfl rfl (Below.refl _ _)
    · refine wpList_alloced rfl 53 rfl (rowF (iv fun _ => 0) 514) zero_C514 ?_
      exact stepPost_mk _ rfl ⟨_, rfl, hasF_new _ _ _ _, hb.size⟩ ((Below.refl _ _).alloc (Nat.le_refl _) _)
    · obtain ⟨(h8 : vals 8 = .int .i64 x), _⟩ := hf
      simp only [h8]
      clear h8
      go_wp2_with fail
      exact stepPost_mk _ rfl rfl (Below.refl _ _)
  intro vals w1 b1 hall
  obtain ⟨_, _, _, _, _, _, _, _, _, (h9 : vals 9 = .agg (rowF q' 514)), ⟨n, h10, m10, n10⟩, (h11 : vals 11 = .int .i64 x), _⟩ := hall
  simp only [h9, h10, h11]
  have H1 := hide (X0.out.1.next b1)
  have B1 := hide (B0.out.andBelow b1)
  have NB := hide (show b ≠ n from Nat.ne_of_lt (Nat.lt_of_lt_of_le X0.out.1.lt n10))
  have M1 := hide m10
  have N1 := hide (show w.heap.size ≤ n by rw [hz.out]; exact Nat.le_trans (Nat.le_of_lt lz.out) n10)
  clear h9 h10 h11 b1 m10 n10 V0 SG
  refine wpList_store_row rfl 53 (.tmp 6) (.tmp 16) rfl n _ rfl rfl 53 _ M1.out ZI.out ZS.out ZO.out ?_
  refine under_list fun w3 hw3 => ?_
  have M3 := hide (show w3.heap[n]? = some (.cells (rowF q' 514) 53 (0, 0)) by rw [hw3]; exact setRow_heap _ _ _ _ _ _ M1.out)
  have H3 := hide (show HasF 70 w3 b 9263 (segs L) by rw [hw3]; exact H1.out.row _ NB.out)
  have B3 := hide (show But b w w3 by rw [hw3]; exact But.fresh B1.out N1.out _)
  clear hw3
  go_wp2_with (first
    | (refine wpList_load_row rfl 53 (.tmp 6) rfl n rfl _ _ _ _ M3.out Tryz.underlying53 rfl ZI.out ?_)
    | (refine wpList_store_part rfl 53 (.tmp 20) (.tmp 18) rfl b 8483 514 q' rfl rfl H3.out (by decide) (by kernel_rfl) G1.out ?_
       refine under_list fun w4 hw4 => ?_
       have H4 : Hid (HasF 70 w4 b 9263 (segs (L.set 10 (514, q')))) := hide (by rw [hw4]; exact H3.out.lay 10 E10.out q' (HB.out.off 10 rfl))
       have B4 : Hid (But b w w4) := hide (by rw [hw4]; exact But.cells _ _ _ B3.out)
       clear hw4 H3 M3))
  go_ret
  exact ⟨rfl, HE.out.lay B4.out 10 E10.out H4.out (by decide) (by decide), ex_but B4.out⟩
set_option maxHeartbeats 1000000 in
theorem readTimer_is {w : World} {b v c d : Nat} {L : List (Nat × (Nat → Value))} {bs : List Int} {f : Nat → Int} {wr rd st lo bu : Int} (h : HasX w b v c d L bs f wr rd st lo bu) (k g a : Int) {L2 : List (Nat × (Nat → Value))} (KS : ∀ w, HasX w b v c d L bs f wr rd st lo bu → Calls Tryz.prog 57 #[.pointer (some ⟨b, 0, none⟩)] w fun e w' => e = Ending.returned (.tuple #[]) ∧ HasX w' b v c d L2 bs f wr rd st lo bu ∧ OnlyE (EX b v) w w') {x hd u y : Int} {t : Nat → Value} (h16 : L2[16]? = some (1, fun _ => Value.int .i64 hd)) (h12 : L2[12]? = some (4, t)) (hu : bits .and .i64 hd 128 = u) (hx : bits .or .i64 u y = x)
    (KT : ∀ w, Calls Tryz.prog 150 #[.agg (rowF t 4)] w fun e w' => e = Ending.returned (.int .i64 y) ∧ Below w.heap.size w w') : Calls Tryz.prog 102 #[.pointer (some ⟨b, 0, none⟩), .agg #[.int .i64 k, .int .i64 g, .int .i64 a]] w fun e w' => e = Ending.returned (.int .i64 x) ∧ HasX w' b v c d (L2.set 16 (1, fun _ => Value.int .i64 x)) bs f wr rd st lo bu ∧ OnlyE (EX b v) w w' := by
  have T0 := hide KT
  have E12 := hide h12
  have hv := h.2.1.lt
  have IT : Hid ((Tryz.prog.info? 61).map (·.size) = some (rowF t 4).size) := hide (by rw [rowF_size]; kernel_rfl)
  clear KT h12
  have b0 := (Below.refl _ w).alloc (Nat.le_refl _) (.cells #[.int .i64 k, .int .i64 g, .int .i64 a] 211)
  have X0 := hide (h.next b0)
  have B0 := hide (ex_below (b := b) (v := v) b0)
  have S0 := hide (KS _ X0.out)
  have E16 := hide h16
  have HL := hide h.1.lt
  clear h b0 KS h16
  go_enter Tryz.func102, Tryz.ntmps102
  go_wp2_with fail
  refine S0.out.mono ?_
  rintro e w2 ⟨rfl, x2, o2⟩
  have X2 := hide x2
  have O2 := hide (B0.out.trans o2)
  have sz : w.heap.size < (w.alloc (.cells #[.int .i64 k, .int .i64 g, .int .i64 a] 211)).heap.size := by simp
  have LZ := hide (Nat.lt_of_lt_of_le sz o2.size)
  have P2 := hide (show w2.cell? ⟨w.heap.size, 2, none⟩ = some (.int .i64 a) from (cell_same (o2.block w.heap.size sz (fun e => by have hl := HL.out; rcases e with e | e <;> omega)) 2).trans ((cell_of_row _ _ 2 _ _ _ (heap_alloc_new _ _)).trans rfl))
  clear sz hv
  clear x2 o2 S0 X0 B0
  go_wp2_with fail
  have R12 := hide (X2.out.1.range 9241 4 (by decide))
  rw [rowF_ext (X2.out.1.seg 12 E12.out (a := 9241) (X2.out.isB.off 12 rfl))] at R12
  have i16 := kept_cell (X2.out.1.get1 16 E16.out (a := 9261) (X2.out.isB.off 16 rfl) (by decide)) X2.out.1.lt
  have HL2 := hide X2.out.1.lt
  generalize rowF t 4 = A at *
  haveI := kept_some w2
  refine wp_region_kept_shut _ _ (show _ = [_, _, _, _, _, _, _, _, _, _, _, _, _, _] ++ [_] from rfl) (by kernel_rfl) (by kernel_rfl) (by kernel_rfl) ?_
  repeat (first
    | (refine wpQuiet_mid rfl 61 (.tmp 15) rfl b 9241 rfl A _ (fun w' ⟨x, hx⟩ => by rw [hx]; intro j y hy; rw [x.cell b _ HL2.out]; exact R12.out j y hy) Tryz.underlying61 rfl IT.out ?_; simp only [Act.put, List.setIfInBounds_toArray, List.set_cons_succ, List.set_cons_zero])
    | go_big_quiet_step ((go_at_call 150; exact kept_call (T0.out _))))
  refine wpQuiet_nil ?_
  rintro _ ⟨wk, rfl⟩
  have X3 := hide (X2.out.next wk.below)
  have c16 := X3.out.1.get1 16 E16.out (a := 9261) (X3.out.isB.off 16 rfl) (by decide)
  have z16 := X3.out.1.frozen 9261
  have O3 := hide (O2.out.trans (ex_below wk.below))
  have H4 := hide (X3.out.1.put1 16 E16.out (a := 9261) (X3.out.isB.off 16 rfl) (.int .i64 x))
  generalize wk.val = w3 at *
  clear i16 X2 O2
  go_wp2
  go_ret
  have B4 := (But.refl b w3).set 9261 (.int .i64 x)
  exact ⟨rfl, X3.out.lay B4 16 E16.out H4.out (by decide) (by decide), O3.out.trans (ex_but B4)⟩
set_option maxHeartbeats 1000000 in
theorem readIrq_is {w : World} {b v c d : Nat} {L : List (Nat × (Nat → Value))} {bs : List Int} {f : Nat → Int} {wr rd st lo bu : Int} (h : HasX w b v c d L bs f wr rd st lo bu) (k g a : Int) (ha : a = 2 ∨ a = 3) {L2 : List (Nat × (Nat → Value))} (KS : ∀ w, HasX w b v c d L bs f wr rd st lo bu → Calls Tryz.prog 57 #[.pointer (some ⟨b, 0, none⟩)] w fun e w' => e = Ending.returned (.tuple #[]) ∧ HasX w' b v c d L2 bs f wr rd st lo bu ∧ OnlyE (EX b v) w w') {x hd u y : Int} {s : Nat → Value} (h16 : L2[16]? = some (1, fun _ => Value.int .i64 hd)) (h13 : L2[13]? = some (2, s)) (hu : bits .and .i64 hd 248 = u) (hx : bits .or .i64 u y = x)
    (KI : ∀ w, Calls Tryz.prog 152 #[.agg (rowF s 2), .int .i64 a] w fun e w' => e = Ending.returned (.int .i64 y) ∧ Below w.heap.size w w') : Calls Tryz.prog 104 #[.pointer (some ⟨b, 0, none⟩), .agg #[.int .i64 k, .int .i64 g, .int .i64 a]] w fun e w' => e = Ending.returned (.int .i64 x) ∧ HasX w' b v c d (L2.set 16 (1, fun _ => Value.int .i64 x)) bs f wr rd st lo bu ∧ OnlyE (EX b v) w w' := by
  have T0 := hide KI
  have E13 := hide h13
  have hv := h.2.1.lt
  have IT : Hid ((Tryz.prog.info? 63).map (·.size) = some (rowF s 2).size) := hide (by rw [rowF_size]; kernel_rfl)
  clear KI h13
  rcases ha with ha | ha
  · have e2 : (a == 2) = true := by simp [ha]
    clear ha
    have b0 := (Below.refl _ w).alloc (Nat.le_refl _) (.cells #[.int .i64 k, .int .i64 g, .int .i64 a] 211)
    have X0 := hide (h.next b0)
    have B0 := hide (ex_below (b := b) (v := v) b0)
    have S0 := hide (KS _ X0.out)
    have E16 := hide h16
    have HL := hide h.1.lt
    clear h b0 KS h16
    go_enter Tryz.func104, Tryz.ntmps104
    go_wp2_with fail
    refine S0.out.mono ?_
    rintro e w2 ⟨rfl, x2, o2⟩
    have X2 := hide x2
    have O2 := hide (B0.out.trans o2)
    have sz : w.heap.size < (w.alloc (.cells #[.int .i64 k, .int .i64 g, .int .i64 a] 211)).heap.size := by simp
    have LZ := hide (Nat.lt_of_lt_of_le sz o2.size)
    have P2 := hide (show w2.cell? ⟨w.heap.size, 2, none⟩ = some (.int .i64 a) from (cell_same (o2.block w.heap.size sz (fun e => by have hl := HL.out; rcases e with e | e <;> omega)) 2).trans ((cell_of_row _ _ 2 _ _ _ (heap_alloc_new _ _)).trans rfl))
    clear sz hv
    clear x2 o2 S0 X0 B0
    go_wp2_with fail
    have R13 := hide (X2.out.1.range 9245 2 (by decide))
    rw [rowF_ext (X2.out.1.seg 13 E13.out (a := 9245) (X2.out.isB.off 13 rfl))] at R13
    have i16 := kept_cell (X2.out.1.get1 16 E16.out (a := 9261) (X2.out.isB.off 16 rfl) (by decide)) X2.out.1.lt
    have HL2 := hide X2.out.1.lt
    have i2 := kept_cell P2.out LZ.out
    generalize w.heap.size = z at *
    generalize rowF s 2 = A at *
    haveI := kept_some w2
    refine wp_region_kept_shut _ _ (show _ = [_, _, _, _, _, _, _, _, _, _, _, _, _, _, _, _] ++ [_] from rfl) (by kernel_rfl) (by kernel_rfl) (by kernel_rfl) ?_
    repeat (first
      | (refine wpQuiet_mid rfl 63 (.tmp 23) rfl b 9245 rfl A _ (fun w' ⟨x, hx⟩ => by rw [hx]; intro j y hy; rw [x.cell b _ HL2.out]; exact R13.out j y hy) Tryz.underlying63 rfl IT.out ?_; simp only [Act.put, List.setIfInBounds_toArray, List.set_cons_succ, List.set_cons_zero])
      | go_big_quiet_step ((go_at_call 152; exact kept_call (T0.out _))))
    refine wpQuiet_nil ?_
    rintro _ ⟨wk, rfl⟩
    have X3 := hide (X2.out.next wk.below)
    have c16 := X3.out.1.get1 16 E16.out (a := 9261) (X3.out.isB.off 16 rfl) (by decide)
    have z16 := X3.out.1.frozen 9261
    have O3 := hide (O2.out.trans (ex_below wk.below))
    have H4 := hide (X3.out.1.put1 16 E16.out (a := 9261) (X3.out.isB.off 16 rfl) (.int .i64 x))
    generalize wk.val = w3 at *
    clear i16 X2 O2
    go_wp2
    go_ret
    have B4 := (But.refl b w3).set 9261 (.int .i64 x)
    exact ⟨rfl, X3.out.lay B4 16 E16.out H4.out (by decide) (by decide), O3.out.trans (ex_but B4)⟩
  · have e2 : (a == 2) = false := by simp [ha]
    have e3 : (a == 3) = true := by simp [ha]
    clear ha
    have b0 := (Below.refl _ w).alloc (Nat.le_refl _) (.cells #[.int .i64 k, .int .i64 g, .int .i64 a] 211)
    have X0 := hide (h.next b0)
    have B0 := hide (ex_below (b := b) (v := v) b0)
    have S0 := hide (KS _ X0.out)
    have E16 := hide h16
    have HL := hide h.1.lt
    clear h b0 KS h16
    go_enter Tryz.func104, Tryz.ntmps104
    go_wp2_with fail
    refine S0.out.mono ?_
    rintro e w2 ⟨rfl, x2, o2⟩
    have X2 := hide x2
    have O2 := hide (B0.out.trans o2)
    have sz : w.heap.size < (w.alloc (.cells #[.int .i64 k, .int .i64 g, .int .i64 a] 211)).heap.size := by simp
    have LZ := hide (Nat.lt_of_lt_of_le sz o2.size)
    have P2 := hide (show w2.cell? ⟨w.heap.size, 2, none⟩ = some (.int .i64 a) from (cell_same (o2.block w.heap.size sz (fun e => by have hl := HL.out; rcases e with e | e <;> omega)) 2).trans ((cell_of_row _ _ 2 _ _ _ (heap_alloc_new _ _)).trans rfl))
    clear sz hv
    clear x2 o2 S0 X0 B0
    go_wp2_with fail
    have R13 := hide (X2.out.1.range 9245 2 (by decide))
    rw [rowF_ext (X2.out.1.seg 13 E13.out (a := 9245) (X2.out.isB.off 13 rfl))] at R13
    have i16 := kept_cell (X2.out.1.get1 16 E16.out (a := 9261) (X2.out.isB.off 16 rfl) (by decide)) X2.out.1.lt
    have HL2 := hide X2.out.1.lt
    have i2 := kept_cell P2.out LZ.out
    generalize w.heap.size = z at *
    generalize rowF s 2 = A at *
    haveI := kept_some w2
    refine wp_region_kept_shut _ _ (show _ = [_, _, _, _, _, _, _, _, _, _, _, _, _, _, _, _] ++ [_] from rfl) (by kernel_rfl) (by kernel_rfl) (by kernel_rfl) ?_
    repeat (first
      | (refine wpQuiet_mid rfl 63 (.tmp 23) rfl b 9245 rfl A _ (fun w' ⟨x, hx⟩ => by rw [hx]; intro j y hy; rw [x.cell b _ HL2.out]; exact R13.out j y hy) Tryz.underlying63 rfl IT.out ?_; simp only [Act.put, List.setIfInBounds_toArray, List.set_cons_succ, List.set_cons_zero])
      | go_big_quiet_step ((go_at_call 152; exact kept_call (T0.out _))))
    refine wpQuiet_nil ?_
    rintro _ ⟨wk, rfl⟩
    have X3 := hide (X2.out.next wk.below)
    have c16 := X3.out.1.get1 16 E16.out (a := 9261) (X3.out.isB.off 16 rfl) (by decide)
    have z16 := X3.out.1.frozen 9261
    have O3 := hide (O2.out.trans (ex_below wk.below))
    have H4 := hide (X3.out.1.put1 16 E16.out (a := 9261) (X3.out.isB.off 16 rfl) (.int .i64 x))
    generalize wk.val = w3 at *
    clear i16 X2 O2
    go_wp2
    go_ret
    have B4 := (But.refl b w3).set 9261 (.int .i64 x)
    exact ⟨rfl, X3.out.lay B4 16 E16.out H4.out (by decide) (by decide), O3.out.trans (ex_but B4)⟩
theorem readIrq_no {w : World} {b v c d : Nat} {L : List (Nat × (Nat → Value))} {bs : List Int} {f : Nat → Int} {wr rd st lo bu : Int} (h : HasX w b v c d L bs f wr rd st lo bu) (k g a : Int) (a2 : ¬ a = 2) (a3 : ¬ a = 3) {x : Int} (h16 : L[16]? = some (1, fun _ => Value.int .i64 x)) : Calls Tryz.prog 104 #[.pointer (some ⟨b, 0, none⟩), .agg #[.int .i64 k, .int .i64 g, .int .i64 a]] w fun e w' => e = Ending.returned (.int .i64 x) ∧ HasX w' b v c d L bs f wr rd st lo bu ∧ OnlyE (EX b v) w w' := by
  have c16 := h.1.get1 16 h16 (a := 9261) (h.isB.off 16 rfl) (by decide)
  have HL := h.1.lt
  have HE := hide h
  have e2 : (a == 2) = false := by simp [a2]
  have e3 : (a == 3) = false := by simp [a3]
  clear h h16
  go_enter Tryz.func104, Tryz.ntmps104
  go_wp2
  go_ret
  have B := (Below.refl _ w).alloc (Nat.le_refl _) (.cells #[.int .i64 k, .int .i64 g, .int .i64 a] 211)
  exact ⟨rfl, HE.out.next B, ex_below B⟩
set_option maxHeartbeats 1000000 in
theorem readPad_is {w : World} {b v c d : Nat} {L : List (Nat × (Nat → Value))} {bs : List Int} {f : Nat → Int} {wr rd st lo bu : Int} (h : HasX w b v c d L bs f wr rd st lo bu) (k g a : Int) {x hd : Int} {po pa : Nat → Value} (h16 : L[16]? = some (1, fun _ => Value.int .i64 hd)) (h14 : L[14]? = some (4, po)) (h15 : L[15]? = some (10, pa))
    (KP : ∀ w, Calls Tryz.prog 151 #[.agg (rowF po 4), .agg (rowF pa 10), .bool false] w fun e w' => e = Ending.returned (.int .i64 x) ∧ Below w.heap.size w w') : Calls Tryz.prog 103 #[.pointer (some ⟨b, 0, none⟩), .agg #[.int .i64 k, .int .i64 g, .int .i64 a]] w fun e w' => e = Ending.returned (.int .i64 x) ∧ HasX w' b v c d (L.set 16 (1, fun _ => Value.int .i64 x)) bs f wr rd st lo bu ∧ OnlyE (EX b v) w w' := by
  have T0 := hide KP
  have I14 : Hid ((Tryz.prog.info? 65).map (·.size) = some (rowF po 4).size) := hide (by rw [rowF_size]; kernel_rfl)
  have I15 : Hid ((Tryz.prog.info? 68).map (·.size) = some (rowF pa 10).size) := hide (by rw [rowF_size]; kernel_rfl)
  have b0 := (Below.refl _ w).alloc (Nat.le_refl _) (.cells #[.int .i64 k, .int .i64 g, .int .i64 a] 211)
  have X2 := hide (h.next b0)
  have O2 := hide (ex_below (b := b) (v := v) b0)
  have R14 := hide (X2.out.1.range 9247 4 (by decide))
  rw [rowF_ext (X2.out.1.seg 14 h14 (a := 9247) (h.isB.off 14 rfl))] at R14
  have R15 := hide (X2.out.1.range 9251 10 (by decide))
  rw [rowF_ext (X2.out.1.seg 15 h15 (a := 9251) (h.isB.off 15 rfl))] at R15
  have HL := hide X2.out.1.lt
  have E16 := hide h16
  clear h b0 KP h16 h14 h15
  go_enter Tryz.func103, Tryz.ntmps103
  go_wp2_with fail
  generalize (w.alloc (.cells #[.int .i64 k, .int .i64 g, .int .i64 a] 211)) = w2 at *
  generalize rowF po 4 = A at *
  generalize rowF pa 10 = B at *
  haveI := kept_some w2
  refine wp_region_kept_shut _ _ (show _ = [_, _, _, _, _, _, _, _, _, _, _, _] ++ [_] from rfl) (by kernel_rfl) (by kernel_rfl) (by kernel_rfl) ?_
  repeat (first
    | (refine wpQuiet_mid rfl 65 (.tmp 8) rfl b 9247 rfl A _ (fun w' ⟨x, hx⟩ => by rw [hx]; intro j y hy; rw [x.cell b _ HL.out]; exact R14.out j y hy) Tryz.underlying65 rfl I14.out ?_; simp only [Act.put, List.setIfInBounds_toArray, List.set_cons_succ, List.set_cons_zero])
    | (refine wpQuiet_mid rfl 68 (.tmp 12) rfl b 9251 rfl B _ (fun w' ⟨x, hx⟩ => by rw [hx]; intro j y hy; rw [x.cell b _ HL.out]; exact R15.out j y hy) Tryz.underlying68 rfl I15.out ?_; simp only [Act.put, List.setIfInBounds_toArray, List.set_cons_succ, List.set_cons_zero])
    | go_big_quiet_step ((go_at_call 151; exact kept_call (T0.out _))))
  refine wpQuiet_nil ?_
  rintro _ ⟨wk, rfl⟩
  have X3 := hide (X2.out.next wk.below)
  have c16 := X3.out.1.get1 16 E16.out (a := 9261) (X3.out.isB.off 16 rfl) (by decide)
  have z16 := X3.out.1.frozen 9261
  have O3 := hide (O2.out.trans (ex_below wk.below))
  have H4 := hide (X3.out.1.put1 16 E16.out (a := 9261) (X3.out.isB.off 16 rfl) (.int .i64 x))
  generalize wk.val = w3 at *
  clear T0 X2 O2
  go_wp2
  go_ret
  have B4 := (But.refl b w3).set 9261 (.int .i64 x)
  exact ⟨rfl, X3.out.lay B4 16 E16.out H4.out (by decide) (by decide), O3.out.trans (ex_but B4)⟩
set_option maxHeartbeats 1000000 in
theorem read_rom {w : World} {b v c d : Nat} {L : List (Nat × (Nat → Value))} {bs : List Int} {f : Nat → Int} {wr rd st lo bu : Int} (h : HasX w b v c d L bs f wr rd st lo bu) (p g a : Int) (KW : ∀ w, HasPorts w → Calls Tryz.prog 95 #[.int .i64 p] w fun e w' => e = Ending.returned (.agg #[.int .i64 0, .int .i64 g, .int .i64 a]) ∧ Below w.heap.size w w') {x : Int} {R : World → Prop} (KR : ∀ w1, Below w.heap.size w w1 → Calls Tryz.prog 97 #[.pointer (some ⟨b, 0, none⟩), .agg #[.int .i64 0, .int .i64 g, .int .i64 a]] w1 fun e w' => e = Ending.returned (.int .i64 x) ∧ R w') :
    Calls Tryz.prog 58 #[.pointer (some ⟨b, 0, none⟩), .int .i64 p] w fun e w' => e = Ending.returned (.int .i64 x) ∧ R w' := by
  have MI := hide (missing_no h)
  have HT := hide h.tabs
  have W0 := hide KW
  have R0 := hide KR
  clear h KW KR
  go_enter Tryz.func58, Tryz.ntmps58
  go_wp2_with (first
    | (go_at_call 92; refine MI.out.mono ?_; rintro e w1 ⟨rfl, b1⟩; have B1 := hide b1; have W1 := hide (W0.out w1 (HT.out.next b1).2.1); clear b1 MI W0)
    | (go_at_call 95; refine W1.out.mono ?_; rintro e w2 ⟨rfl, b2⟩; have B2 := hide (bnext B1.out b2); clear b2 W1 B1)
    | (refine wpList_store_row rfl 211 (.tmp 5) (.tmp 10) rfl w2.heap.size _ rfl rfl 211 _ (heap_alloc_new _ _) (by kernel_rfl) rfl (by kernel_rfl) ?_
       refine under_list fun w3 hw3 => ?_
       have M3 : Hid (w3.heap[w2.heap.size]? = some (.cells #[.int .i64 0, .int .i64 g, .int .i64 a] 211 (0, 0))) := hide (by rw [hw3]; exact setRow_heap _ _ _ _ _ _ (heap_alloc_new _ _))
       have B3 := hide (show Below w.heap.size w w3 by rw [hw3]; exact bnext B2.out (below_setRow ((Below.refl _ _).alloc (Nat.le_refl _) _) (Nat.le_refl _) _))
       have c0 := (cell_of_row w3 w2.heap.size 0 _ _ _ M3.out).trans rfl
       clear hw3 B2)
    | (refine wpList_load_row rfl 211 (.tmp 5) rfl w2.heap.size rfl _ _ _ _ M3.out Tryz.underlying211 rfl (by kernel_rfl) ?_))
  refine (R0.out _ B3.out).mono ?_
  rintro e w4 ⟨rfl, h4⟩
  have H4 := hide h4
  clear h4 R0
  go_wp2
  go_ret
  exact ⟨rfl, H4.out⟩
set_option maxHeartbeats 1000000 in
theorem read_ram {w : World} {b v c d : Nat} {L : List (Nat × (Nat → Value))} {bs : List Int} {f : Nat → Int} {wr rd st lo bu : Int} (h : HasX w b v c d L bs f wr rd st lo bu) (p g a : Int) (KW : ∀ w, HasPorts w → Calls Tryz.prog 95 #[.int .i64 p] w fun e w' => e = Ending.returned (.agg #[.int .i64 1, .int .i64 g, .int .i64 a]) ∧ Below w.heap.size w w') {x : Int} {R : World → Prop} (KR : ∀ w1, Below w.heap.size w w1 → Calls Tryz.prog 98 #[.pointer (some ⟨b, 0, none⟩), .agg #[.int .i64 1, .int .i64 g, .int .i64 a]] w1 fun e w' => e = Ending.returned (.int .i64 x) ∧ R w') :
    Calls Tryz.prog 58 #[.pointer (some ⟨b, 0, none⟩), .int .i64 p] w fun e w' => e = Ending.returned (.int .i64 x) ∧ R w' := by
  have MI := hide (missing_no h)
  have HT := hide h.tabs
  have W0 := hide KW
  have R0 := hide KR
  clear h KW KR
  go_enter Tryz.func58, Tryz.ntmps58
  go_wp2_with (first
    | (go_at_call 92; refine MI.out.mono ?_; rintro e w1 ⟨rfl, b1⟩; have B1 := hide b1; have W1 := hide (W0.out w1 (HT.out.next b1).2.1); clear b1 MI W0)
    | (go_at_call 95; refine W1.out.mono ?_; rintro e w2 ⟨rfl, b2⟩; have B2 := hide (bnext B1.out b2); clear b2 W1 B1)
    | (refine wpList_store_row rfl 211 (.tmp 5) (.tmp 10) rfl w2.heap.size _ rfl rfl 211 _ (heap_alloc_new _ _) (by kernel_rfl) rfl (by kernel_rfl) ?_
       refine under_list fun w3 hw3 => ?_
       have M3 : Hid (w3.heap[w2.heap.size]? = some (.cells #[.int .i64 1, .int .i64 g, .int .i64 a] 211 (0, 0))) := hide (by rw [hw3]; exact setRow_heap _ _ _ _ _ _ (heap_alloc_new _ _))
       have B3 := hide (show Below w.heap.size w w3 by rw [hw3]; exact bnext B2.out (below_setRow ((Below.refl _ _).alloc (Nat.le_refl _) _) (Nat.le_refl _) _))
       have c0 := (cell_of_row w3 w2.heap.size 0 _ _ _ M3.out).trans rfl
       clear hw3 B2)
    | (refine wpList_load_row rfl 211 (.tmp 5) rfl w2.heap.size rfl _ _ _ _ M3.out Tryz.underlying211 rfl (by kernel_rfl) ?_))
  refine (R0.out _ B3.out).mono ?_
  rintro e w4 ⟨rfl, h4⟩
  have H4 := hide h4
  clear h4 R0
  go_wp2
  go_ret
  exact ⟨rfl, H4.out⟩
set_option maxHeartbeats 1000000 in
theorem read_vdc {w : World} {b v c d : Nat} {L : List (Nat × (Nat → Value))} {bs : List Int} {f : Nat → Int} {wr rd st lo bu : Int} (h : HasX w b v c d L bs f wr rd st lo bu) (p g a : Int) (KW : ∀ w, HasPorts w → Calls Tryz.prog 95 #[.int .i64 p] w fun e w' => e = Ending.returned (.agg #[.int .i64 2, .int .i64 g, .int .i64 a]) ∧ Below w.heap.size w w') {x : Int} {R : World → Prop} (KR : ∀ w1, Below w.heap.size w w1 → Calls Tryz.prog 99 #[.pointer (some ⟨b, 0, none⟩), .agg #[.int .i64 2, .int .i64 g, .int .i64 a]] w1 fun e w' => e = Ending.returned (.int .i64 x) ∧ R w') :
    Calls Tryz.prog 58 #[.pointer (some ⟨b, 0, none⟩), .int .i64 p] w fun e w' => e = Ending.returned (.int .i64 x) ∧ R w' := by
  have MI := hide (missing_no h)
  have HT := hide h.tabs
  have W0 := hide KW
  have R0 := hide KR
  clear h KW KR
  go_enter Tryz.func58, Tryz.ntmps58
  go_wp2_with (first
    | (go_at_call 92; refine MI.out.mono ?_; rintro e w1 ⟨rfl, b1⟩; have B1 := hide b1; have W1 := hide (W0.out w1 (HT.out.next b1).2.1); clear b1 MI W0)
    | (go_at_call 95; refine W1.out.mono ?_; rintro e w2 ⟨rfl, b2⟩; have B2 := hide (bnext B1.out b2); clear b2 W1 B1)
    | (refine wpList_store_row rfl 211 (.tmp 5) (.tmp 10) rfl w2.heap.size _ rfl rfl 211 _ (heap_alloc_new _ _) (by kernel_rfl) rfl (by kernel_rfl) ?_
       refine under_list fun w3 hw3 => ?_
       have M3 : Hid (w3.heap[w2.heap.size]? = some (.cells #[.int .i64 2, .int .i64 g, .int .i64 a] 211 (0, 0))) := hide (by rw [hw3]; exact setRow_heap _ _ _ _ _ _ (heap_alloc_new _ _))
       have B3 := hide (show Below w.heap.size w w3 by rw [hw3]; exact bnext B2.out (below_setRow ((Below.refl _ _).alloc (Nat.le_refl _) _) (Nat.le_refl _) _))
       have c0 := (cell_of_row w3 w2.heap.size 0 _ _ _ M3.out).trans rfl
       clear hw3 B2)
    | (refine wpList_load_row rfl 211 (.tmp 5) rfl w2.heap.size rfl _ _ _ _ M3.out Tryz.underlying211 rfl (by kernel_rfl) ?_))
  refine (R0.out _ B3.out).mono ?_
  rintro e w4 ⟨rfl, h4⟩
  have H4 := hide h4
  clear h4 R0
  go_wp2
  go_ret
  exact ⟨rfl, H4.out⟩
set_option maxHeartbeats 1000000 in
theorem read_vce {w : World} {b v c d : Nat} {L : List (Nat × (Nat → Value))} {bs : List Int} {f : Nat → Int} {wr rd st lo bu : Int} (h : HasX w b v c d L bs f wr rd st lo bu) (p g a : Int) (KW : ∀ w, HasPorts w → Calls Tryz.prog 95 #[.int .i64 p] w fun e w' => e = Ending.returned (.agg #[.int .i64 3, .int .i64 g, .int .i64 a]) ∧ Below w.heap.size w w') {x : Int} {R : World → Prop} (KR : ∀ w1, Below w.heap.size w w1 → Calls Tryz.prog 100 #[.pointer (some ⟨b, 0, none⟩), .agg #[.int .i64 3, .int .i64 g, .int .i64 a]] w1 fun e w' => e = Ending.returned (.int .i64 x) ∧ R w') :
    Calls Tryz.prog 58 #[.pointer (some ⟨b, 0, none⟩), .int .i64 p] w fun e w' => e = Ending.returned (.int .i64 x) ∧ R w' := by
  have MI := hide (missing_no h)
  have HT := hide h.tabs
  have W0 := hide KW
  have R0 := hide KR
  clear h KW KR
  go_enter Tryz.func58, Tryz.ntmps58
  go_wp2_with (first
    | (go_at_call 92; refine MI.out.mono ?_; rintro e w1 ⟨rfl, b1⟩; have B1 := hide b1; have W1 := hide (W0.out w1 (HT.out.next b1).2.1); clear b1 MI W0)
    | (go_at_call 95; refine W1.out.mono ?_; rintro e w2 ⟨rfl, b2⟩; have B2 := hide (bnext B1.out b2); clear b2 W1 B1)
    | (refine wpList_store_row rfl 211 (.tmp 5) (.tmp 10) rfl w2.heap.size _ rfl rfl 211 _ (heap_alloc_new _ _) (by kernel_rfl) rfl (by kernel_rfl) ?_
       refine under_list fun w3 hw3 => ?_
       have M3 : Hid (w3.heap[w2.heap.size]? = some (.cells #[.int .i64 3, .int .i64 g, .int .i64 a] 211 (0, 0))) := hide (by rw [hw3]; exact setRow_heap _ _ _ _ _ _ (heap_alloc_new _ _))
       have B3 := hide (show Below w.heap.size w w3 by rw [hw3]; exact bnext B2.out (below_setRow ((Below.refl _ _).alloc (Nat.le_refl _) _) (Nat.le_refl _) _))
       have c0 := (cell_of_row w3 w2.heap.size 0 _ _ _ M3.out).trans rfl
       clear hw3 B2)
    | (refine wpList_load_row rfl 211 (.tmp 5) rfl w2.heap.size rfl _ _ _ _ M3.out Tryz.underlying211 rfl (by kernel_rfl) ?_))
  refine (R0.out _ B3.out).mono ?_
  rintro e w4 ⟨rfl, h4⟩
  have H4 := hide h4
  clear h4 R0
  go_wp2
  go_ret
  exact ⟨rfl, H4.out⟩
set_option maxHeartbeats 1000000 in
theorem read_psg {w : World} {b v c d : Nat} {L : List (Nat × (Nat → Value))} {bs : List Int} {f : Nat → Int} {wr rd st lo bu : Int} (h : HasX w b v c d L bs f wr rd st lo bu) (p g a : Int) (KW : ∀ w, HasPorts w → Calls Tryz.prog 95 #[.int .i64 p] w fun e w' => e = Ending.returned (.agg #[.int .i64 4, .int .i64 g, .int .i64 a]) ∧ Below w.heap.size w w') {x : Int} {R : World → Prop} (KR : ∀ w1, Below w.heap.size w w1 → Calls Tryz.prog 101 #[.pointer (some ⟨b, 0, none⟩), .agg #[.int .i64 4, .int .i64 g, .int .i64 a]] w1 fun e w' => e = Ending.returned (.int .i64 x) ∧ R w') :
    Calls Tryz.prog 58 #[.pointer (some ⟨b, 0, none⟩), .int .i64 p] w fun e w' => e = Ending.returned (.int .i64 x) ∧ R w' := by
  have MI := hide (missing_no h)
  have HT := hide h.tabs
  have W0 := hide KW
  have R0 := hide KR
  clear h KW KR
  go_enter Tryz.func58, Tryz.ntmps58
  go_wp2_with (first
    | (go_at_call 92; refine MI.out.mono ?_; rintro e w1 ⟨rfl, b1⟩; have B1 := hide b1; have W1 := hide (W0.out w1 (HT.out.next b1).2.1); clear b1 MI W0)
    | (go_at_call 95; refine W1.out.mono ?_; rintro e w2 ⟨rfl, b2⟩; have B2 := hide (bnext B1.out b2); clear b2 W1 B1)
    | (refine wpList_store_row rfl 211 (.tmp 5) (.tmp 10) rfl w2.heap.size _ rfl rfl 211 _ (heap_alloc_new _ _) (by kernel_rfl) rfl (by kernel_rfl) ?_
       refine under_list fun w3 hw3 => ?_
       have M3 : Hid (w3.heap[w2.heap.size]? = some (.cells #[.int .i64 4, .int .i64 g, .int .i64 a] 211 (0, 0))) := hide (by rw [hw3]; exact setRow_heap _ _ _ _ _ _ (heap_alloc_new _ _))
       have B3 := hide (show Below w.heap.size w w3 by rw [hw3]; exact bnext B2.out (below_setRow ((Below.refl _ _).alloc (Nat.le_refl _) _) (Nat.le_refl _) _))
       have c0 := (cell_of_row w3 w2.heap.size 0 _ _ _ M3.out).trans rfl
       clear hw3 B2)
    | (refine wpList_load_row rfl 211 (.tmp 5) rfl w2.heap.size rfl _ _ _ _ M3.out Tryz.underlying211 rfl (by kernel_rfl) ?_))
  refine (R0.out _ B3.out).mono ?_
  rintro e w4 ⟨rfl, h4⟩
  have H4 := hide h4
  clear h4 R0
  go_wp2
  go_ret
  exact ⟨rfl, H4.out⟩
set_option maxHeartbeats 1000000 in
theorem read_timer {w : World} {b v c d : Nat} {L : List (Nat × (Nat → Value))} {bs : List Int} {f : Nat → Int} {wr rd st lo bu : Int} (h : HasX w b v c d L bs f wr rd st lo bu) (p g a : Int) (KW : ∀ w, HasPorts w → Calls Tryz.prog 95 #[.int .i64 p] w fun e w' => e = Ending.returned (.agg #[.int .i64 5, .int .i64 g, .int .i64 a]) ∧ Below w.heap.size w w') {x : Int} {R : World → Prop} (KR : ∀ w1, Below w.heap.size w w1 → Calls Tryz.prog 102 #[.pointer (some ⟨b, 0, none⟩), .agg #[.int .i64 5, .int .i64 g, .int .i64 a]] w1 fun e w' => e = Ending.returned (.int .i64 x) ∧ R w') :
    Calls Tryz.prog 58 #[.pointer (some ⟨b, 0, none⟩), .int .i64 p] w fun e w' => e = Ending.returned (.int .i64 x) ∧ R w' := by
  have MI := hide (missing_no h)
  have HT := hide h.tabs
  have W0 := hide KW
  have R0 := hide KR
  clear h KW KR
  go_enter Tryz.func58, Tryz.ntmps58
  go_wp2_with (first
    | (go_at_call 92; refine MI.out.mono ?_; rintro e w1 ⟨rfl, b1⟩; have B1 := hide b1; have W1 := hide (W0.out w1 (HT.out.next b1).2.1); clear b1 MI W0)
    | (go_at_call 95; refine W1.out.mono ?_; rintro e w2 ⟨rfl, b2⟩; have B2 := hide (bnext B1.out b2); clear b2 W1 B1)
    | (refine wpList_store_row rfl 211 (.tmp 5) (.tmp 10) rfl w2.heap.size _ rfl rfl 211 _ (heap_alloc_new _ _) (by kernel_rfl) rfl (by kernel_rfl) ?_
       refine under_list fun w3 hw3 => ?_
       have M3 : Hid (w3.heap[w2.heap.size]? = some (.cells #[.int .i64 5, .int .i64 g, .int .i64 a] 211 (0, 0))) := hide (by rw [hw3]; exact setRow_heap _ _ _ _ _ _ (heap_alloc_new _ _))
       have B3 := hide (show Below w.heap.size w w3 by rw [hw3]; exact bnext B2.out (below_setRow ((Below.refl _ _).alloc (Nat.le_refl _) _) (Nat.le_refl _) _))
       have c0 := (cell_of_row w3 w2.heap.size 0 _ _ _ M3.out).trans rfl
       clear hw3 B2)
    | (refine wpList_load_row rfl 211 (.tmp 5) rfl w2.heap.size rfl _ _ _ _ M3.out Tryz.underlying211 rfl (by kernel_rfl) ?_))
  refine (R0.out _ B3.out).mono ?_
  rintro e w4 ⟨rfl, h4⟩
  have H4 := hide h4
  clear h4 R0
  go_wp2
  go_ret
  exact ⟨rfl, H4.out⟩
set_option maxHeartbeats 1000000 in
theorem read_pad {w : World} {b v c d : Nat} {L : List (Nat × (Nat → Value))} {bs : List Int} {f : Nat → Int} {wr rd st lo bu : Int} (h : HasX w b v c d L bs f wr rd st lo bu) (p g a : Int) (KW : ∀ w, HasPorts w → Calls Tryz.prog 95 #[.int .i64 p] w fun e w' => e = Ending.returned (.agg #[.int .i64 6, .int .i64 g, .int .i64 a]) ∧ Below w.heap.size w w') {x : Int} {R : World → Prop} (KR : ∀ w1, Below w.heap.size w w1 → Calls Tryz.prog 103 #[.pointer (some ⟨b, 0, none⟩), .agg #[.int .i64 6, .int .i64 g, .int .i64 a]] w1 fun e w' => e = Ending.returned (.int .i64 x) ∧ R w') :
    Calls Tryz.prog 58 #[.pointer (some ⟨b, 0, none⟩), .int .i64 p] w fun e w' => e = Ending.returned (.int .i64 x) ∧ R w' := by
  have MI := hide (missing_no h)
  have HT := hide h.tabs
  have W0 := hide KW
  have R0 := hide KR
  clear h KW KR
  go_enter Tryz.func58, Tryz.ntmps58
  go_wp2_with (first
    | (go_at_call 92; refine MI.out.mono ?_; rintro e w1 ⟨rfl, b1⟩; have B1 := hide b1; have W1 := hide (W0.out w1 (HT.out.next b1).2.1); clear b1 MI W0)
    | (go_at_call 95; refine W1.out.mono ?_; rintro e w2 ⟨rfl, b2⟩; have B2 := hide (bnext B1.out b2); clear b2 W1 B1)
    | (refine wpList_store_row rfl 211 (.tmp 5) (.tmp 10) rfl w2.heap.size _ rfl rfl 211 _ (heap_alloc_new _ _) (by kernel_rfl) rfl (by kernel_rfl) ?_
       refine under_list fun w3 hw3 => ?_
       have M3 : Hid (w3.heap[w2.heap.size]? = some (.cells #[.int .i64 6, .int .i64 g, .int .i64 a] 211 (0, 0))) := hide (by rw [hw3]; exact setRow_heap _ _ _ _ _ _ (heap_alloc_new _ _))
       have B3 := hide (show Below w.heap.size w w3 by rw [hw3]; exact bnext B2.out (below_setRow ((Below.refl _ _).alloc (Nat.le_refl _) _) (Nat.le_refl _) _))
       have c0 := (cell_of_row w3 w2.heap.size 0 _ _ _ M3.out).trans rfl
       clear hw3 B2)
    | (refine wpList_load_row rfl 211 (.tmp 5) rfl w2.heap.size rfl _ _ _ _ M3.out Tryz.underlying211 rfl (by kernel_rfl) ?_))
  refine (R0.out _ B3.out).mono ?_
  rintro e w4 ⟨rfl, h4⟩
  have H4 := hide h4
  clear h4 R0
  go_wp2
  go_ret
  exact ⟨rfl, H4.out⟩
set_option maxHeartbeats 1000000 in
theorem read_irq {w : World} {b v c d : Nat} {L : List (Nat × (Nat → Value))} {bs : List Int} {f : Nat → Int} {wr rd st lo bu : Int} (h : HasX w b v c d L bs f wr rd st lo bu) (p g a : Int) (KW : ∀ w, HasPorts w → Calls Tryz.prog 95 #[.int .i64 p] w fun e w' => e = Ending.returned (.agg #[.int .i64 7, .int .i64 g, .int .i64 a]) ∧ Below w.heap.size w w') {x : Int} {R : World → Prop} (KR : ∀ w1, Below w.heap.size w w1 → Calls Tryz.prog 104 #[.pointer (some ⟨b, 0, none⟩), .agg #[.int .i64 7, .int .i64 g, .int .i64 a]] w1 fun e w' => e = Ending.returned (.int .i64 x) ∧ R w') :
    Calls Tryz.prog 58 #[.pointer (some ⟨b, 0, none⟩), .int .i64 p] w fun e w' => e = Ending.returned (.int .i64 x) ∧ R w' := by
  have MI := hide (missing_no h)
  have HT := hide h.tabs
  have W0 := hide KW
  have R0 := hide KR
  clear h KW KR
  go_enter Tryz.func58, Tryz.ntmps58
  go_wp2_with (first
    | (go_at_call 92; refine MI.out.mono ?_; rintro e w1 ⟨rfl, b1⟩; have B1 := hide b1; have W1 := hide (W0.out w1 (HT.out.next b1).2.1); clear b1 MI W0)
    | (go_at_call 95; refine W1.out.mono ?_; rintro e w2 ⟨rfl, b2⟩; have B2 := hide (bnext B1.out b2); clear b2 W1 B1)
    | (refine wpList_store_row rfl 211 (.tmp 5) (.tmp 10) rfl w2.heap.size _ rfl rfl 211 _ (heap_alloc_new _ _) (by kernel_rfl) rfl (by kernel_rfl) ?_
       refine under_list fun w3 hw3 => ?_
       have M3 : Hid (w3.heap[w2.heap.size]? = some (.cells #[.int .i64 7, .int .i64 g, .int .i64 a] 211 (0, 0))) := hide (by rw [hw3]; exact setRow_heap _ _ _ _ _ _ (heap_alloc_new _ _))
       have B3 := hide (show Below w.heap.size w w3 by rw [hw3]; exact bnext B2.out (below_setRow ((Below.refl _ _).alloc (Nat.le_refl _) _) (Nat.le_refl _) _))
       have c0 := (cell_of_row w3 w2.heap.size 0 _ _ _ M3.out).trans rfl
       clear hw3 B2)
    | (refine wpList_load_row rfl 211 (.tmp 5) rfl w2.heap.size rfl _ _ _ _ M3.out Tryz.underlying211 rfl (by kernel_rfl) ?_))
  refine (R0.out _ B3.out).mono ?_
  rintro e w4 ⟨rfl, h4⟩
  have H4 := hide h4
  clear h4 R0
  go_wp2
  go_ret
  exact ⟨rfl, H4.out⟩
set_option maxHeartbeats 1000000 in
theorem read_open {w : World} {b v c d : Nat} {L : List (Nat × (Nat → Value))} {bs : List Int} {f : Nat → Int} {wr rd st lo bu : Int} (h : HasX w b v c d L bs f wr rd st lo bu) (p g a : Int) (KW : ∀ w, HasPorts w → Calls Tryz.prog 95 #[.int .i64 p] w fun e w' => e = Ending.returned (.agg #[.int .i64 8, .int .i64 g, .int .i64 a]) ∧ Below w.heap.size w w') {x : Int} {R : World → Prop} (KR : ∀ w1, Below w.heap.size w w1 → Calls Tryz.prog 96 #[.pointer (some ⟨b, 0, none⟩), .agg #[.int .i64 8, .int .i64 g, .int .i64 a]] w1 fun e w' => e = Ending.returned (.int .i64 x) ∧ R w') :
    Calls Tryz.prog 58 #[.pointer (some ⟨b, 0, none⟩), .int .i64 p] w fun e w' => e = Ending.returned (.int .i64 x) ∧ R w' := by
  have MI := hide (missing_no h)
  have HT := hide h.tabs
  have W0 := hide KW
  have R0 := hide KR
  clear h KW KR
  go_enter Tryz.func58, Tryz.ntmps58
  go_wp2_with (first
    | (go_at_call 92; refine MI.out.mono ?_; rintro e w1 ⟨rfl, b1⟩; have B1 := hide b1; have W1 := hide (W0.out w1 (HT.out.next b1).2.1); clear b1 MI W0)
    | (go_at_call 95; refine W1.out.mono ?_; rintro e w2 ⟨rfl, b2⟩; have B2 := hide (bnext B1.out b2); clear b2 W1 B1)
    | (refine wpList_store_row rfl 211 (.tmp 5) (.tmp 10) rfl w2.heap.size _ rfl rfl 211 _ (heap_alloc_new _ _) (by kernel_rfl) rfl (by kernel_rfl) ?_
       refine under_list fun w3 hw3 => ?_
       have M3 : Hid (w3.heap[w2.heap.size]? = some (.cells #[.int .i64 8, .int .i64 g, .int .i64 a] 211 (0, 0))) := hide (by rw [hw3]; exact setRow_heap _ _ _ _ _ _ (heap_alloc_new _ _))
       have B3 := hide (show Below w.heap.size w w3 by rw [hw3]; exact bnext B2.out (below_setRow ((Below.refl _ _).alloc (Nat.le_refl _) _) (Nat.le_refl _) _))
       have c0 := (cell_of_row w3 w2.heap.size 0 _ _ _ M3.out).trans rfl
       clear hw3 B2)
    | (refine wpList_load_row rfl 211 (.tmp 5) rfl w2.heap.size rfl _ _ _ _ M3.out Tryz.underlying211 rfl (by kernel_rfl) ?_))
  refine (R0.out _ B3.out).mono ?_
  rintro e w4 ⟨rfl, h4⟩
  have H4 := hide h4
  clear h4 R0
  go_wp2
  go_ret
  exact ⟨rfl, H4.out⟩
end Go.Proofs.YtnoggfnidaifkaaGreatDoor.L24
