/- DmaTable, at the landed commit: whatever slice of integers and two integers come in, the call returns true: the sprites' table is 256 words from its place on, and nothing of video memory that no call made. No condition. -/
import Derived.Test.YtndphclogkmonaaTable16
import Derived.Test.YtndphclogkmonaaBack16
import Derived.Test.YtndphclogkmonaaRowkit
import Derived.Test.YtndphclogkmonaaArrays
namespace Go.Proofs.Ytndphclogkmonaa
open Go.ChangeShapes Go.WideShapes Go.ChangeAt Go.RowKit
set_option linter.unusedVariables false

theorem wpList_built_want {P : Program} {ops : Array Oper} {rest : List Oper} {o : Oper} {a : Act} {w : World} {Q : Exit → Act → World → Prop} (hw : Region.wanted o (yielded ops a.tmps) = true) (t : TypeId) (parts : Array (Nat × Operand)) (ho : o.op = .build t parts)
    (vals : Array (Nat × Value)) (hp : (parts.map fun (i, x) => (i, a.eval x)) = vals) (R : Array Value) (h : ∀ w, (Instr.build t vals).run P w = .ok (.agg R) w) (hK : wpList P ops Q rest (a.put o.dst (.agg R)) w) : wpList P ops Q (o :: rest) a w :=
  BigFrame.wpList_want hw fun K hK' => by
    unfold Oper.wp execOp
    simp only [ho, hp, Sem.run_bind, h, Result.andThen_ok]
    exact hK' _ _ hK
theorem zeros_ints : (zerosL 256).toArray = ((List.replicate 256 (0 : Int)).map (Value.int .i64)).toArray := by
  unfold zerosL
  rw [List.map_replicate]
theorem eq_zeros (w : World) : (binOp .eql 35 (.agg (zerosL 256).toArray) (.agg (zerosL 256).toArray)).run Try.prog w = .ok (.bool true) w := by
  rw [zeros_ints, run_eql_ints w 35 3 256 Try.underlying35 Try.underlying3 Try.sizeOf3 _ _ (List.length_replicate ..) (List.length_replicate ..), beq_self_eq_true]
theorem run_tab (w : World) : (Instr.build 35 #[]).run Try.prog w = .ok (.agg (zerosL 256).toArray) w := by
  refine run_build w _ _ _ ?_
  kernel_rfl
/-- Block b holds a table. -/
def HasTab (w : World) (b : Nat) (l : List Value) : Prop := w.heap[b]? = some (.cells l.toArray 35 (0, 0))
theorem HasTab.next {w w' : World} {b : Nat} {l : List Value} (h : HasTab w b l) (k : Below w.heap.size w w') : HasTab w' b l := (k.block b (lt_of_block h)).trans h
theorem HasTab.at {w : World} {b : Nat} {f : Nat → Int} {p : Int} (h : HasTab w b (toldL f p 256)) (j : Nat) (hj : j < 256) : w.cell? ⟨b, j, none⟩ = some (.int .i64 (wordAt f (p + j))) := by
  rw [cell_of_row w b j _ _ _ h, List.getElem?_toArray]
  exact toldL_at f p 256 j hj
set_option maxHeartbeats 1000000 in
theorem table_short (a1 a2 A q : Int) (s : Option Addr) (len cap : Nat) (zs : List Int) (w : World) (hr : IsRow .i64 w s len cap zs) (e1 : bits .and .i64 a1 65535 = A) (e2 : bits .and .i64 a2 255 = q) (hA0 : 0 ≤ A) (hA1 : A < 65536) (hq0 : 0 ≤ q) (hq1 : q < 256) (hM : len ≤ 300) : Calls Try.prog 4 #[.slice s len cap, .int .i64 a1, .int .i64 a2] w fun e w' => e = .returned (.bool true) ∧ Below w.heap.size w w' := by
  have HR := hide hr
  clear hr
  go_enter Try.func4, Try.ntmps4
  go_wp2_with fail
  refine (new_any _).mono ?_
  rintro e w1 ⟨rfl, h1, b1⟩
  have H1 := hide h1
  have B1 := hide b1
  clear h1 b1
  obtain ⟨g, hg⟩ : ∃ g, w.heap.size = g := ⟨_, rfl⟩
  have HG := hide (show w.heap.size ≤ g by omega)
  rw [hg] at H1 ⊢
  clear hg
  go_wp2_with fail
  go_loopw [8] (fun si wr => ∃ (k : Nat), k ≤ len ∧ si = .int .i64 (k : Int) ∧ HasM wr g true (pkTo A zs k) 0 0 1 0 0 ∧ Below w.heap.size w wr) (fun si _ => len - (intOf si).toNat)
  case atStart => exact ⟨0, Nat.zero_le _, rfl, H1.out, B1.out⟩
  case round =>
    obtain ⟨k, hk, rfl, hv, hb⟩ := hrel
    have VK := hide hv
    have BK := hide hb
    clear hv hb H1 B1
    by_cases hlt : k < len
    · obtain ⟨bb, off, rfl, hbb, _, _, hc⟩ := HR.out.cells (by omega)
      obtain ⟨z, hz⟩ : ∃ z, z = zs.getD k 0 := ⟨_, rfl⟩
      have hcell := (BK.out.cell (p := ⟨bb, off + k, none⟩) hbb).trans (hc k (by omega)).1
      rw [← hz] at hcell
      have HF := hide (show pokeAt (pkTo A zs k) (A + k) z = pkTo A zs (k + 1) by rw [hz]; rfl)
      have l1 : k < len := by omega
      have l2 : k < 300 := by omega
      clear hz hc
      set_option maxRecDepth 20000 in
      go_wp2_with fail
      refine (poke_is g _ _ _ _ _ _ _ VK.out (A + k) z _ HF.out).mono ?_
      rintro e w4 ⟨rfl, h4, o4⟩
      have H4 := hide h4
      have B4 := hide (bonly BK.out o4 HG.out (Nat.le_refl _))
      clear h4 o4 VK BK hcell
      go_wp2_with fail
      go_roundw
      case rel => exact ⟨k + 1, by omega, by go_num, H4.out, B4.out⟩
      case measure => simp [intOf]; omega
    · obtain rfl : k = len := by omega
      clear hlt hk
      obtain ⟨f0, hf0⟩ : ∃ f0, f0 = pkTo A zs k := ⟨_, rfl⟩
      rw [← hf0] at VK
      clear hf0
      obtain ⟨F, hF⟩ : ∃ F, pokeAt f0 (A + q) 4660 = F := ⟨_, rfl⟩
      have HT := hide (show wordAt F (A + q) = if (A + q) % 65536 < 32768 then 4660 else 0 by rw [← hF, wordAt_same]; rfl)
      have HF := hide hF
      clear hF
      go_wp2_with fail
      refine (poke_is g _ _ _ _ _ _ _ VK.out (A + q) 4660 _ HF.out).mono ?_
      rintro e w3 ⟨rfl, h3, o3⟩
      have H3 := hide h3
      have B3 := hide (bonly BK.out o3 HG.out (Nat.le_refl _))
      clear h3 o3 VK BK HF
      go_wp2_with fail
      refine (table_is g _ _ _ _ _ _ _ H3.out A A (by omega)).mono ?_
      rintro e w4 ⟨rfl, b4⟩
      have H4 := hide (H3.out.next b4)
      have B4 := hide (bnext B3.out b4)
      have G4 := hide (show g < w4.heap.size from Nat.lt_of_lt_of_le H3.out.lt b4.size)
      clear b4 H3 B3
      have I4 := hide (info_tab (toldL F A 256) (toldL_length F A 256))
      have T4 := hide (show (toldL F A 256).toArray.all (·.oneCell') = true by rw [← Array.all_toList, List.all_eq_true]; exact toldL_one F A 256)
      have S4 := hide (show (zerosL 256).toArray.size = (toldL F A 256).toArray.size by rw [List.size_toArray, List.size_toArray, zerosL_length, toldL_length])
      obtain ⟨L, hL⟩ : ∃ L, toldL F A 256 = L := ⟨_, rfl⟩
      rw [hL] at I4 T4 S4 ⊢
      have HL := hide hL
      clear hL
      go_wp2_with (first
        | (refine wpList_alloced rfl 35 rfl _ zero_tab ?_
           refine under_list fun w5 hw5 => ?_
           have n5 : Below w4.heap.size w4 w5 := by rw [hw5]; exact (Below.refl _ w4).alloc (Nat.le_refl _) _
           have R5 := hide (show w5.heap[w4.heap.size]? = some (.cells (zerosL 256).toArray 35 (0, 0)) by rw [hw5]; exact heap_alloc_new _ _)
           clear hw5)
        | (refine wpList_store_row rfl 35 (.tmp 9) (.tmp 44) rfl w4.heap.size _ rfl rfl 35 _ R5.out I4.out S4.out T4.out ?_
           refine under_list fun w6 hw6 => ?_
           have R6 := hide (show HasTab w6 w4.heap.size L by rw [hw6]; exact setRow_heap _ _ _ _ _ _ R5.out)
           have H6 := hide (show HasM w6 g true F 0 0 1 0 0 by rw [hw6]; exact (setRow_other _ _ _ _ (Nat.ne_of_lt G4.out)).trans (H4.out.next n5))
           have B6 := hide (show Below w.heap.size w w6 by rw [hw6]; exact below_setRow (bnext B4.out n5) B4.out.size _)
           clear hw6 n5 R5))
      clear H4 B4 I4 T4 S4
      obtain ⟨g2, hg2⟩ : ∃ g2, w4.heap.size = g2 := ⟨_, rfl⟩
      rw [hg2] at R6 ⊢
      clear hg2 G4
      rw [← HL.out] at R6
      clear HL
      go_loopw [10] (fun si wr => ∃ (i : Nat), i ≤ 256 ∧ si = .int .i64 (i : Int) ∧ HasM wr g true F 0 0 1 0 0 ∧ HasTab wr g2 (toldL F A 256) ∧ Below w.heap.size w wr) (fun si _ => 256 - (intOf si).toNat)
      case atStart => exact ⟨0, Nat.zero_le _, rfl, H6.out, R6.out, B6.out⟩
      case round =>
        obtain ⟨i, hi, rfl, hv, ht, hb⟩ := hrel
        have VI := hide hv
        have TI := hide ht
        have BI := hide hb
        clear hv ht hb H6 R6 B6
        by_cases hit : i < 256
        · obtain ⟨x, hx⟩ : ∃ x, wordAt F (A + i) = x := ⟨_, rfl⟩
          have hcell := TI.out.at i hit
          rw [hx] at hcell
          have HX := hide hx
          clear hx
          set_option maxRecDepth 20000 in
          go_wp2_with fail
          have k0 := kept_cell hcell (lt_of_block TI.out)
          clear hcell
          haveI := kept_some wr
          refine wp_region_kept (by kernel_rfl) (by kernel_rfl) ?_
          repeat (go_big_quiet_step ((first | (go_at_call 13; exact kept_same (word_is g _ _ _ _ _ _ _ (VI.out.next (Kept.below _)) _ x HX.out)))))
          refine wpQuiet_nil ?_
          rintro _ ⟨wk, rfl⟩
          clear k0
          have V7 := hide (VI.out.next wk.below)
          have T7 := hide (TI.out.next wk.below)
          have B7 := hide (bnext BI.out wk.below)
          clear VI TI BI
          set_option maxRecDepth 20000 in
          go_wp2_with fail
          set_option maxRecDepth 20000 in
          go_roundw
          case rel => exact ⟨i + 1, by omega, by go_num, V7.out, T7.out, B7.out⟩
          case measure => simp [intOf]; omega
        · obtain rfl : i = 256 := by omega
          obtain ⟨Q, rfl⟩ : ∃ Q : Nat, q = (Q : Int) := ⟨q.toNat, by omega⟩
          have hcell := TI.out.at Q (by omega)
          rw [HT.out] at hcell
          have er := and_65535 (A + Q)
          obtain ⟨r, hr⟩ : ∃ r, (A + (Q : Int)) % 65536 = r := ⟨_, rfl⟩
          rw [hr] at er hcell
          have hr0 : 0 ≤ r := by omega
          have hr1 : r < 65536 := by omega
          clear hr HT
          have HZ := eq_zeros
          by_cases hrl : r < 32768
          · rw [if_pos hrl] at hcell
            go_wp2_with fail
            refine (table_nil _ _).mono ?_
            rintro e w7 ⟨rfl, b7⟩
            have B7 := hide (bnext BI.out b7)
            clear b7
            obtain ⟨Z, hZ⟩ : ∃ Z, zerosL 256 = Z := ⟨_, rfl⟩
            rw [hZ] at HZ ⊢
            have RT := hide (show ∀ w, (Instr.build 35 #[]).run Try.prog w = .ok (.agg Z.toArray) w by rw [← hZ]; exact run_tab)
            clear hZ
            go_wp2_with (first | (refine wpList_built_want rfl 35 _ rfl #[] (by simp) _ RT.out ?_))
            go_ret
            exact ⟨rfl, B7.out⟩
          · rw [if_neg hrl] at hcell
            go_wp2_with fail
            refine (table_nil _ _).mono ?_
            rintro e w7 ⟨rfl, b7⟩
            have B7 := hide (bnext BI.out b7)
            clear b7
            obtain ⟨Z, hZ⟩ : ∃ Z, zerosL 256 = Z := ⟨_, rfl⟩
            rw [hZ] at HZ ⊢
            have RT := hide (show ∀ w, (Instr.build 35 #[]).run Try.prog w = .ok (.agg Z.toArray) w by rw [← hZ]; exact run_tab)
            clear hZ
            go_wp2_with (first | (refine wpList_built_want rfl 35 _ rfl #[] (by simp) _ RT.out ?_))
            go_ret
            exact ⟨rfl, B7.out⟩
set_option maxHeartbeats 1000000 in
theorem table_long (a1 a2 A q : Int) (s : Option Addr) (len cap : Nat) (zs : List Int) (w : World) (hr : IsRow .i64 w s len cap zs) (e1 : bits .and .i64 a1 65535 = A) (e2 : bits .and .i64 a2 255 = q) (hA0 : 0 ≤ A) (hA1 : A < 65536) (hq0 : 0 ≤ q) (hq1 : q < 256) (hM : 300 < len) : Calls Try.prog 4 #[.slice s len cap, .int .i64 a1, .int .i64 a2] w fun e w' => e = .returned (.bool true) ∧ Below w.heap.size w w' := by
  have HR := hide hr
  clear hr
  go_enter Try.func4, Try.ntmps4
  go_wp2_with fail
  refine (new_any _).mono ?_
  rintro e w1 ⟨rfl, h1, b1⟩
  have H1 := hide h1
  have B1 := hide b1
  clear h1 b1
  obtain ⟨g, hg⟩ : ∃ g, w.heap.size = g := ⟨_, rfl⟩
  have HG := hide (show w.heap.size ≤ g by omega)
  rw [hg] at H1 ⊢
  clear hg
  go_wp2_with fail
  go_loopw [8] (fun si wr => ∃ (k : Nat), k ≤ 300 ∧ si = .int .i64 (k : Int) ∧ HasM wr g true (pkTo A zs k) 0 0 1 0 0 ∧ Below w.heap.size w wr) (fun si _ => 300 - (intOf si).toNat)
  case atStart => exact ⟨0, Nat.zero_le _, rfl, H1.out, B1.out⟩
  case round =>
    obtain ⟨k, hk, rfl, hv, hb⟩ := hrel
    have VK := hide hv
    have BK := hide hb
    clear hv hb H1 B1
    by_cases hlt : k < 300
    · obtain ⟨bb, off, rfl, hbb, _, _, hc⟩ := HR.out.cells (by omega)
      obtain ⟨z, hz⟩ : ∃ z, z = zs.getD k 0 := ⟨_, rfl⟩
      have hcell := (BK.out.cell (p := ⟨bb, off + k, none⟩) hbb).trans (hc k (by omega)).1
      rw [← hz] at hcell
      have HF := hide (show pokeAt (pkTo A zs k) (A + k) z = pkTo A zs (k + 1) by rw [hz]; rfl)
      have l1 : k < len := by omega
      have l2 : k < 300 := by omega
      clear hz hc
      set_option maxRecDepth 20000 in
      go_wp2_with fail
      refine (poke_is g _ _ _ _ _ _ _ VK.out (A + k) z _ HF.out).mono ?_
      rintro e w4 ⟨rfl, h4, o4⟩
      have H4 := hide h4
      have B4 := hide (bonly BK.out o4 HG.out (Nat.le_refl _))
      clear h4 o4 VK BK hcell
      go_wp2_with fail
      go_roundw
      case rel => exact ⟨k + 1, by omega, by go_num, H4.out, B4.out⟩
      case measure => simp [intOf]; omega
    · obtain rfl : k = 300 := by omega
      clear hlt hk
      obtain ⟨f0, hf0⟩ : ∃ f0, f0 = pkTo A zs 300 := ⟨_, rfl⟩
      rw [← hf0] at VK
      clear hf0
      obtain ⟨F, hF⟩ : ∃ F, pokeAt f0 (A + q) 4660 = F := ⟨_, rfl⟩
      have HT := hide (show wordAt F (A + q) = if (A + q) % 65536 < 32768 then 4660 else 0 by rw [← hF, wordAt_same]; rfl)
      have HF := hide hF
      clear hF
      go_wp2_with fail
      refine (poke_is g _ _ _ _ _ _ _ VK.out (A + q) 4660 _ HF.out).mono ?_
      rintro e w3 ⟨rfl, h3, o3⟩
      have H3 := hide h3
      have B3 := hide (bonly BK.out o3 HG.out (Nat.le_refl _))
      clear h3 o3 VK BK HF
      go_wp2_with fail
      refine (table_is g _ _ _ _ _ _ _ H3.out A A (by omega)).mono ?_
      rintro e w4 ⟨rfl, b4⟩
      have H4 := hide (H3.out.next b4)
      have B4 := hide (bnext B3.out b4)
      have G4 := hide (show g < w4.heap.size from Nat.lt_of_lt_of_le H3.out.lt b4.size)
      clear b4 H3 B3
      have I4 := hide (info_tab (toldL F A 256) (toldL_length F A 256))
      have T4 := hide (show (toldL F A 256).toArray.all (·.oneCell') = true by rw [← Array.all_toList, List.all_eq_true]; exact toldL_one F A 256)
      have S4 := hide (show (zerosL 256).toArray.size = (toldL F A 256).toArray.size by rw [List.size_toArray, List.size_toArray, zerosL_length, toldL_length])
      obtain ⟨L, hL⟩ : ∃ L, toldL F A 256 = L := ⟨_, rfl⟩
      rw [hL] at I4 T4 S4 ⊢
      have HL := hide hL
      clear hL
      go_wp2_with (first
        | (refine wpList_alloced rfl 35 rfl _ zero_tab ?_
           refine under_list fun w5 hw5 => ?_
           have n5 : Below w4.heap.size w4 w5 := by rw [hw5]; exact (Below.refl _ w4).alloc (Nat.le_refl _) _
           have R5 := hide (show w5.heap[w4.heap.size]? = some (.cells (zerosL 256).toArray 35 (0, 0)) by rw [hw5]; exact heap_alloc_new _ _)
           clear hw5)
        | (refine wpList_store_row rfl 35 (.tmp 9) (.tmp 44) rfl w4.heap.size _ rfl rfl 35 _ R5.out I4.out S4.out T4.out ?_
           refine under_list fun w6 hw6 => ?_
           have R6 := hide (show HasTab w6 w4.heap.size L by rw [hw6]; exact setRow_heap _ _ _ _ _ _ R5.out)
           have H6 := hide (show HasM w6 g true F 0 0 1 0 0 by rw [hw6]; exact (setRow_other _ _ _ _ (Nat.ne_of_lt G4.out)).trans (H4.out.next n5))
           have B6 := hide (show Below w.heap.size w w6 by rw [hw6]; exact below_setRow (bnext B4.out n5) B4.out.size _)
           clear hw6 n5 R5))
      clear H4 B4 I4 T4 S4
      obtain ⟨g2, hg2⟩ : ∃ g2, w4.heap.size = g2 := ⟨_, rfl⟩
      rw [hg2] at R6 ⊢
      clear hg2 G4
      rw [← HL.out] at R6
      clear HL
      go_loopw [10] (fun si wr => ∃ (i : Nat), i ≤ 256 ∧ si = .int .i64 (i : Int) ∧ HasM wr g true F 0 0 1 0 0 ∧ HasTab wr g2 (toldL F A 256) ∧ Below w.heap.size w wr) (fun si _ => 256 - (intOf si).toNat)
      case atStart => exact ⟨0, Nat.zero_le _, rfl, H6.out, R6.out, B6.out⟩
      case round =>
        obtain ⟨i, hi, rfl, hv, ht, hb⟩ := hrel
        have VI := hide hv
        have TI := hide ht
        have BI := hide hb
        clear hv ht hb H6 R6 B6
        by_cases hit : i < 256
        · obtain ⟨x, hx⟩ : ∃ x, wordAt F (A + i) = x := ⟨_, rfl⟩
          have hcell := TI.out.at i hit
          rw [hx] at hcell
          have HX := hide hx
          clear hx
          set_option maxRecDepth 20000 in
          go_wp2_with fail
          have k0 := kept_cell hcell (lt_of_block TI.out)
          clear hcell
          haveI := kept_some wr
          refine wp_region_kept (by kernel_rfl) (by kernel_rfl) ?_
          repeat (go_big_quiet_step ((first | (go_at_call 13; exact kept_same (word_is g _ _ _ _ _ _ _ (VI.out.next (Kept.below _)) _ x HX.out)))))
          refine wpQuiet_nil ?_
          rintro _ ⟨wk, rfl⟩
          clear k0
          have V7 := hide (VI.out.next wk.below)
          have T7 := hide (TI.out.next wk.below)
          have B7 := hide (bnext BI.out wk.below)
          clear VI TI BI
          set_option maxRecDepth 20000 in
          go_wp2_with fail
          set_option maxRecDepth 20000 in
          go_roundw
          case rel => exact ⟨i + 1, by omega, by go_num, V7.out, T7.out, B7.out⟩
          case measure => simp [intOf]; omega
        · obtain rfl : i = 256 := by omega
          obtain ⟨Q, rfl⟩ : ∃ Q : Nat, q = (Q : Int) := ⟨q.toNat, by omega⟩
          have hcell := TI.out.at Q (by omega)
          rw [HT.out] at hcell
          have er := and_65535 (A + Q)
          obtain ⟨r, hr⟩ : ∃ r, (A + (Q : Int)) % 65536 = r := ⟨_, rfl⟩
          rw [hr] at er hcell
          have hr0 : 0 ≤ r := by omega
          have hr1 : r < 65536 := by omega
          clear hr HT
          have HZ := eq_zeros
          by_cases hrl : r < 32768
          · rw [if_pos hrl] at hcell
            go_wp2_with fail
            refine (table_nil _ _).mono ?_
            rintro e w7 ⟨rfl, b7⟩
            have B7 := hide (bnext BI.out b7)
            clear b7
            obtain ⟨Z, hZ⟩ : ∃ Z, zerosL 256 = Z := ⟨_, rfl⟩
            rw [hZ] at HZ ⊢
            have RT := hide (show ∀ w, (Instr.build 35 #[]).run Try.prog w = .ok (.agg Z.toArray) w by rw [← hZ]; exact run_tab)
            clear hZ
            go_wp2_with (first | (refine wpList_built_want rfl 35 _ rfl #[] (by simp) _ RT.out ?_))
            go_ret
            exact ⟨rfl, B7.out⟩
          · rw [if_neg hrl] at hcell
            go_wp2_with fail
            refine (table_nil _ _).mono ?_
            rintro e w7 ⟨rfl, b7⟩
            have B7 := hide (bnext BI.out b7)
            clear b7
            obtain ⟨Z, hZ⟩ : ∃ Z, zerosL 256 = Z := ⟨_, rfl⟩
            rw [hZ] at HZ ⊢
            have RT := hide (show ∀ w, (Instr.build 35 #[]).run Try.prog w = .ok (.agg Z.toArray) w by rw [← hZ]; exact run_tab)
            clear hZ
            go_wp2_with (first | (refine wpList_built_want rfl 35 _ rfl #[] (by simp) _ RT.out ?_))
            go_ret
            exact ⟨rfl, B7.out⟩
theorem dmaTable_walk (a0 : Option Addr) (len0 cap0 : Nat) (z0 : List Int) (a1 a2 : Int) (w : World) (w0 : IsRow .i64 w a0 len0 cap0 z0) (w1 : (Lit.int .i64 a1).wf = true) (w2 : (Lit.int .i64 a2).wf = true) : Calls Try.prog 4 #[.slice a0 len0 cap0, .int .i64 a1, .int .i64 a2] w fun e w' => e = .returned (.bool true) ∧ Below w.heap.size w w' := by
  by_cases hm : len0 ≤ 300
  · exact table_short a1 a2 (a1 % 65536) (a2 % 256) a0 len0 cap0 z0 w w0 (and_65535 a1) (and_255 a2) (by omega) (by omega) (by omega) (by omega) hm
  · exact table_long a1 a2 (a1 % 65536) (a2 % 256) a0 len0 cap0 z0 w w0 (and_65535 a1) (and_255 a2) (by omega) (by omega) (by omega) (by omega) (by omega)

set_option maxRecDepth 100000 in
theorem dmaTable_lifted (os : Os) (started : os.Started) (H : Type) (enc : TypeId × Value → H) :
    ReturnsInHanded {} Try.checked os 4 .any (Rows.dmaTableSpec.pre6 enc Try.prog Try.f4 Rows.dmaTableRow.domain false) (Rows.dmaTableSpec.post enc Try.prog Try.f4 false true false false) := by
  refine returnsInHanded_of_change (C := Try.checked) own started (by kernel_rfl) Try.func4
    (ChangeSpec.witness6 (enc := enc) (C := Try.checked) false ⟨#[], #[.slice none 0 0, .int .i64 0, .int .i64 0], []⟩ 8 (by kernel_rfl) (by kernel_rfl) (by kernel_rfl) (by kernel_rfl)) ?_
  intro W base args ds gs before hval0 hW hcnd _
  have hval : ∀ (j : Nat) t v, Try.f4.params[j]? = some t → args[j]? = some v → Value.okWide Try.prog W .any base t v := hval0
  have hW' := hW
  obtain ⟨p, q, hA0, hV, rfl, hfz, hnd⟩ := hW
  have hA : DataW.TrodAll enc Try.prog W 0 (fun _ => true) true Try.f4.params.toList args.toList ds p := hA0
  rw [Try.params4] at hA hval
  obtain ⟨v0, vs0, d0, ds0, p0, q0, hargs, rfl, rfl, h0, r0⟩ := trodAll_cons hA
  obtain ⟨v1, vs1, d1, ds1, p1, q1, rfl, rfl, rfl, h1, r1⟩ := trodAll_cons r0
  obtain ⟨v2, vs2, d2, ds2, p2, q2, rfl, rfl, rfl, h2, r2⟩ := trodAll_cons r1
  obtain ⟨rfl, rfl, rfl⟩ := trodAll_nil r2
  obtain rfl : args = #[v0, v1, v2] := by cases args; simp_all
  obtain ⟨rfl, rfl⟩ := trodVars_none hV
  obtain ⟨a0, len0, cap0, rfl⟩ := okWide_slice Try.underlying22 (hval 0 22 v0 rfl rfl)
  have k0 := h0
  have lt0 : ∀ x ∈ p0, x.block < W.heap.size := by obtain ⟨m, hm⟩ := k0; exact DataW.trod_lt m _ _ _ hm
  obtain ⟨z0, w0⟩ : ∃ zs, IsRow .i64 W a0 len0 cap0 zs := by
    obtain ⟨fuel, hf⟩ := h0
    rcases open_ints Try.underlying22 Try.underlying3 (by kernel_rfl) hf with ⟨hcs, _⟩ | ⟨x, l, c, zs, hcs, _, hl, hm, hz, _, hcell, hwz⟩
    · simp [Value.cells] at hcs
      obtain ⟨rfl, rfl, rfl⟩ := hcs
      exact ⟨[], .inl ⟨rfl, rfl, rfl, rfl⟩⟩
    · simp [Value.cells] at hcs
      obtain ⟨rfl, rfl, rfl⟩ := hcs
      exact ⟨zs, .inr ⟨_, rfl, hl, hm, by simpa using hz, hcell, hwz⟩⟩
  obtain ⟨a1, rfl, rfl, rfl, w1⟩ := open_int Try.underlying3 (hval 1 3 v1 rfl rfl) h1
  obtain ⟨a2, rfl, rfl, rfl, w2⟩ := open_int Try.underlying3 (hval 2 3 v2 rfl rfl) h2
  clear hA0 hval0
  refine (dmaTable_walk a0 len0 cap0 z0 a1 a2 W w0 w1 w2).mono fun e W' ⟨he, bel⟩ => ?_
  subst he
  exact ⟨_, rfl, _, _, _, [], _, [], hW', trodAll_mk1 (shut_bool Try.underlying4 _), (trodAll_cons_mk (Below.trod laidOut (by kernel_rfl) (of_decide_eq_true (by kernel_rfl)) k0 bel lt0) (trodAll_cons_mk (shut_int Try.underlying3 w1) (trodAll_cons_mk (shut_int Try.underlying3 w2) trodAll_mk0))), rfl, bel.frame _, fun h => by cases h⟩

theorem dmaTable_over : Rows.dmaTableRow.holds Try.pinned (OpenSpec.ofChange Rows.dmaTableSpec) :=
  OpenClaim.holds_of_wide 4 Try.f4 rfl rfl rfl rfl rfl rfl rfl ⟨rfl, rfl, rfl, rfl, rfl⟩ rfl rfl rfl rfl rfl (by kernel_rfl) Try.func4 (by kernel_rfl)
    (of_decide_eq_true (by kernel_rfl)) (by unfold Func.isWrapper; first | (rw [if_pos (by decide +kernel)]; kernel_rfl) | (rw [if_neg (by decide +kernel)]; exact ⟨rfl, rfl⟩))
    (fun os started H enc _ => dmaTable_lifted os started H enc)

theorem dmaTable_holds : Rows.DmaTableSaid := dmaTable_over
#print axioms dmaTable_holds

end Go.Proofs.Ytndphclogkmonaa
