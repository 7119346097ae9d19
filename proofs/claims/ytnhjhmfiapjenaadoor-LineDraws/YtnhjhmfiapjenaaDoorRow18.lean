/- Package sprites: the contract of row, over words that are told. -/
import Derived.Test.YtnhjhmfiapjenaaDoorSpr18
import Derived.Test.YtnhjhmfiapjenaaDoorRev18
import Derived.Test.YtnhjhmfiapjenaaDoorGenA
namespace Go.Proofs.YtnhjhmfiapjenaaDoor
open Go.RowKit
set_option linter.unusedVariables false

/-- How many planes of the pixel at j were added: a cells are whole, of the next one p planes, and i pixels of one more. -/
def deep (a p i j : Nat) : Nat := if j < 16 * a then 4 else if j < 16 * a + i then p + 1 else if j < 16 * a + 16 then p else 0
theorem deep_zero (j : Nat) : deep 0 0 0 j = 0 := by unfold deep; simp
theorem deep_next (a p i j : Nat) (hi : i < 16) : deep a p (i + 1) j = if j = 16 * a + i then p + 1 else deep a p i j := by
  unfold deep
  by_cases e : j = 16 * a + i
  · rw [if_pos e, if_neg (by omega), if_pos (by omega)]
  · rw [if_neg e]
    by_cases k : j < 16 * a
    · rw [if_pos k, if_pos k]
    · rw [if_neg k, if_neg k]
      by_cases k2 : j < 16 * a + i
      · rw [if_pos k2, if_pos (by omega)]
      · rw [if_neg k2, if_neg (by omega)]
theorem deep_plane (a p j : Nat) : deep a p 16 j = deep a (p + 1) 0 j := by
  unfold deep
  by_cases k : j < 16 * a
  · rw [if_pos k, if_pos k]
  · rw [if_neg k, if_neg k, if_neg (show ¬ j < 16 * a + 0 by omega)]
    by_cases k2 : j < 16 * a + 16
    · rw [if_pos k2, if_pos k2]
    · rw [if_neg k2, if_neg k2, if_neg k2]
theorem deep_cell (a j : Nat) : deep a 4 0 j = deep (a + 1) 0 0 j := by
  unfold deep
  by_cases k : j < 16 * a
  · rw [if_pos k, if_pos (by omega)]
  · rw [if_neg k, if_neg (show ¬ j < 16 * a + 0 by omega)]
    by_cases k2 : j < 16 * a + 16
    · rw [if_pos k2, if_pos (by omega)]
    · rw [if_neg k2, if_neg (by omega), if_neg (by omega)]
      split <;> rfl
theorem deep_all (a j : Nat) : deep a 0 0 j = if j < 16 * a then 4 else 0 := by
  unfold deep
  by_cases k : j < 16 * a
  · rw [if_pos k, if_pos k]
  · rw [if_neg k, if_neg k, if_neg (by omega)]
    split <;> rfl
/-- What the pixels hold then. -/
def pixD (g : Int → Int) (C r : Int) (a p i j : Nat) : Int := colS g C r (j : Int) (deep a p i j)
theorem lie_in (C r : Int) (a i : Nat) (hi : i < 16) : lieS C r ((16 * a + i : Nat) : Int) = (C + r / 16 * 2 + (a : Int)) * 64 + r % 16 := by
  unfold lieS
  omega
theorem pixD_next (g : Int → Int) (C r : Int) (a p i : Nat) (hi : i < 16) : colS g C r ((16 * a + i : Nat) : Int) (p + 1) = colS g C r ((16 * a + i : Nat) : Int) p + bitOf (g ((C + r / 16 * 2 + (a : Int)) * 64 + r % 16 + (p : Int) * 16)) (15 - (i : Int)) * 2 ^ p := by
  unfold colS
  rw [lie_in C r a i hi, show 15 - ((16 * a + i : Nat) : Int) % 16 = 15 - (i : Int) by omega, show (p : Int) * 16 = 16 * (p : Int) by omega]
  rfl
theorem deep_here (a p i : Nat) (hi : i < 16) : deep a p i (16 * a + i) = p := by
  unfold deep
  rw [if_neg (by omega), if_neg (by omega), if_pos (by omega)]
theorem info_32 (h : Nat → Value) : (Tryd.prog.info? 89).map (·.size) = some (valsOf h 32).toArray.size := by
  rw [valsOf_size]
  kernel_rfl
theorem ints_one (h : Nat → Int) (N : Nat) : (valsOf (fun j => .int .i64 (h j)) N).toArray.all (·.oneCell') = true := by
  rw [← Array.all_toList, List.all_eq_true]
  exact valsOf_one N fun _ => rfl
theorem cut_32 (b L : Nat) (h : L ≤ 32) (w : World) : (Instr.sliceAt 89 (.pointer (some ⟨b, 0, none⟩)) none (some (.int .i64 (L : Int))) none).run Tryd.prog w = .ok (.slice (some ⟨b, 0, none⟩) L 32) w := by
  have hl : Tryd.prog.arrayLen 89 = 32 := by kernel_rfl
  have he : Tryd.prog.elem 89 = 3 := by kernel_rfl
  rw [run_sliceAt_array_h w _ _ (by rw [hl, he]; exact Tryd.underlying89) .i64 (L : Int) (by omega) (by rw [hl]; omega), hl, he, Tryd.sizeOf3]
  simp only [Result.andThen_ok, slicedAt, Nat.zero_mul, Int.toNat_natCast, Nat.sub_zero]
  rw [if_neg (by omega)]
  rfl
set_option maxHeartbeats 4000000 in
theorem srow_plain (q : Option Addr) (g : Int → Int) (hg : Hid (Words g)) (X Y C W H P d r : Int) (f fx : Bool) (w : World) (HT : Hid (Tells q g w)) (A : Nat) (hA : Hid (W = 16 * (A : Int))) (hA1 : A = 1 ∨ A = 2) (hC0 : 0 ≤ C) (hC1 : C < 1024) (hH : H = 16 ∨ H = 32 ∨ H = 64) (hr0 : 0 ≤ r) (hr1 : r < 64) (hd : d = r) (hd0 : 0 ≤ d) (hd1 : d < 64) :
    Calls Tryd.prog 37 #[.pointer q, .agg #[.int .i64 X, .int .i64 Y, .int .i64 C, .int .i64 W, .int .i64 H, .int .i64 P, .bool f, .bool fx, .bool false], .int .i64 d] w fun e w' => e = .returned (.agg (valsOf (fun j => .int .i64 (if j < 16 * A then colS g C r (overS W fx j) 4 else 0)) 32).toArray) ∧ Below w.heap.size w w' := by
  have eA : Int.tdiv W 16 = (A : Int) := by rw [hA.out, Int.tdiv_eq_ediv_of_nonneg (by omega)]; omega
  have e16 : Int.tdiv r 16 = r / 16 := Int.tdiv_eq_ediv_of_nonneg hr0
  have er : Int.tmod r 16 = r % 16 := Int.tmod_eq_emod_of_nonneg hr0
  go_enter Tryd.func37, Tryd.ntmps37
  go_wp2_with fail
  try simp only [hd]
  have HD := hide hd
  clear hd
  refine under_name fun wa hwa => ?_
  obtain ⟨b0, b1, b2, hs, BB⟩ := three_named hwa
  have BA := hide BB
  have O1 := hide (show HasO wa w.heap.size X Y C W H P f fx false from b0)
  have Z1 := hide (show Has32 wa (w.heap.size + 1) (fun _ => 0) from b1)
  have P1 := hide ((show Has32 wa (w.heap.size + 2) (fun _ => 0) from b2).ext (g := pixD g C r 0 0 0) fun j _ => by unfold pixD; rw [deep_zero]; rfl)
  clear hwa b0 b1 b2 BB hs
  obtain ⟨zo, hzo⟩ : ∃ z, w.heap.size = z := ⟨_, rfl⟩
  obtain ⟨zz, hzz⟩ : ∃ z, w.heap.size + 1 = z := ⟨_, rfl⟩
  obtain ⟨zp, hzp⟩ : ∃ z, w.heap.size + 2 = z := ⟨_, rfl⟩
  have HZ := hide (show zo ≠ zp ∧ zz ≠ zp ∧ w.heap.size ≤ zp ∧ w.heap.size ≤ zz by omega)
  try simp only [World.alloc_size]
  rw [hzp] at P1
  rw [hzz] at Z1
  rw [hzo] at O1
  try simp only [Nat.add_assoc]
  rw [hzp, hzz, hzo]
  clear hzo hzz hzp
  go_loopw [24] (fun sa wr => ∃ a : Nat, a ≤ A ∧ sa = .int .i64 (a : Int) ∧ Has32 wr zp (pixD g C r a 0 0) ∧ Has32 wr zz (fun _ => 0) ∧ HasO wr zo X Y C W H P f fx false ∧ Below w.heap.size w wr) (fun sa _ => A - (intOf sa).toNat)
  case atStart => exact ⟨0, Nat.zero_le _, rfl, P1.out, Z1.out, O1.out, BA.out⟩
  case round =>
    obtain ⟨a, ha, rfl, hp, hz, ho, hb⟩ := hrel
    have PK := hide hp
    have ZK := hide hz
    have OK := hide ho
    have BK := hide hb
    clear hp hz ho hb P1 Z1 O1 BA
    by_cases hlt : a < A
    · have c2 := OK.out.c2
      go_wp2_with fail
      have hda : decide ((a : Int) < (A : Int)) = true := decide_eq_true (by omega)
      try simp only [hda]
      clear hda c2
      obtain ⟨fi, hfi⟩ : ∃ fi, (C + r / 16 * 2 + (a : Int)) * 64 + r % 16 = fi := ⟨_, rfl⟩
      try rw [hfi]
      have hfb : 0 ≤ fi ∧ fi < 100000 := by omega
      have HF := hide hfi
      clear hfi
      have PK2 := hide (show Has32 wr zp (pixD g C r a 0 0) from PK.out)
      go_loopw [40] (fun sp wr => ∃ p : Nat, p ≤ 4 ∧ sp = .int .i64 (p : Int) ∧ Has32 wr zp (pixD g C r a p 0) ∧ Has32 wr zz (fun _ => 0) ∧ HasO wr zo X Y C W H P f fx false ∧ Below w.heap.size w wr) (fun sp _ => 4 - (intOf sp).toNat)
      case atStart => exact ⟨0, Nat.zero_le _, rfl, PK.out, ZK.out, OK.out, BK.out⟩
      case round =>
        obtain ⟨p, hp4, rfl, hp, hz, ho, hb⟩ := hrel
        have PL := hide hp
        have ZL := hide hz
        have OL := hide ho
        have BL := hide hb
        clear hp hz ho hb PK ZK OK BK PK2
        by_cases hlp : p < 4
        · have KW := hide (HT.out _ BL.out (fi + (p : Int) * 16))
          obtain ⟨x, hx⟩ : ∃ x, g (fi + (p : Int) * 16) = x := ⟨_, rfl⟩
          rw [hx] at KW
          have HX := hide hx
          clear hx
          go_wp2_with (first | (go_at_call 51; refine KW.out.mono ?_; rintro e w' ⟨rfl, hw⟩; subst w'))
          have hdp : decide ((p : Int) < 4) = true := decide_eq_true (by omega)
          try simp only [hdp]
          clear hdp
          go_loopw [49] (fun si wr => ∃ i : Nat, i ≤ 16 ∧ si = .int .i64 (i : Int) ∧ Has32 wr zp (pixD g C r a p i) ∧ Has32 wr zz (fun _ => 0) ∧ HasO wr zo X Y C W H P f fx false ∧ Below w.heap.size w wr) (fun si _ => 16 - (intOf si).toNat)
          case atStart => exact ⟨0, Nat.zero_le _, rfl, PL.out, ZL.out, OL.out, BL.out⟩
          case round =>
            obtain ⟨i, hi, rfl, hp, hz, ho, hb⟩ := hrel
            have PM := hide hp
            have ZM := hide hz
            have OM := hide ho
            have BM := hide hb
            clear hp hz ho hb PL ZL OL BL
            by_cases hli : i < 16
            · obtain ⟨j, hj⟩ : ∃ j, 16 * a + i = j := ⟨_, rfl⟩
              have j32 : j < 32 := by omega
              have cj := PM.out.at j j32
              rw [show pixD g C r a p i j = colS g C r (j : Int) p by unfold pixD; rw [← hj, deep_here a p i hli]] at cj
              have hv := colS_le g C r (j : Int) p (by omega)
              have HN := hide (pixD_next g C r a p i hli)
              rw [hj, HF.out, HX.out] at HN
              obtain ⟨v, ev⟩ : ∃ v, colS g C r (j : Int) p = v := ⟨_, rfl⟩
              rw [ev] at cj hv HN
              obtain ⟨bt, eb⟩ : ∃ bt, bitOf x (15 - (i : Int)) = bt := ⟨_, rfl⟩
              have hb01 := bitOf_01 x (15 - (i : Int))
              rw [eb] at hb01 HN
              have KB := hide (fun u => bit_any x (15 - (i : Int)) u)
              rw [eb] at KB
              obtain ⟨m, em⟩ : ∃ m, bt * 2 ^ p = m := ⟨_, rfl⟩
              rw [em] at HN
              have hm : 0 ≤ m ∧ m ≤ 8 := by
                have e8 : (2 : Int) ^ p ≤ 8 ∧ (0 : Int) ≤ 2 ^ p := by rcases (show p = 0 ∨ p = 1 ∨ p = 2 ∨ p = 3 by omega) with rfl | rfl | rfl | rfl <;> decide
                rcases (show bt = 0 ∨ bt = 1 by omega) with rfl | rfl <;> rw [← em] <;> omega
              have ew : wrap64 (bt * 2 ^ p) = m := by rw [em]; unfold wrap64; omega
              have ej : (a : Int) * 16 + (i : Int) = (j : Int) := by omega
              have HE := hide (show 16 * a + i = j from hj)
              clear ev eb em hj
              go_wp2_with fail
              have k0 := kept_cell cj PM.out.lt
              haveI := kept_some wr
              refine wp_region_kept_shut _ _ (show _ = [_, _, _, _, _, _, _, _, _, _, _, _, _, _] ++ [_] from rfl) (by kernel_rfl) (by kernel_rfl) (by kernel_rfl) ?_
              repeat (go_big_quiet_step ((first | (go_at_call 29; exact kept_same (KB.out _)))))
              refine wpQuiet_nil ?_
              rintro _ ⟨wk, rfl⟩
              clear k0
              obtain ⟨w2, hw2⟩ : ∃ w2, w2 = wk.val := ⟨_, rfl⟩
              have n2 : Below wr.heap.size wr w2 := by rw [hw2]; exact wk.below
              rw [← hw2]
              have P2 := hide (PM.out.next n2)
              have Z2 := hide (ZM.out.next n2)
              have O2 := hide (OM.out.next n2)
              have B2 := hide (bnext BM.out n2)
              clear hw2 n2 wk PM ZM OM BM
              have zj := P2.out.frozen j
              have cj := P2.out.at j j32
              go_wp2_with fail
              go_roundw
              case rel =>
                refine ⟨i + 1, by omega, by go_num, ?_, ?_, ?_, ?_⟩
                · refine Has32.ext (P2.out.set j (v + m)) fun u _ => ?_
                  show (if u = j then v + m else pixD g C r a p i u) = pixD g C r a p (i + 1) u
                  unfold pixD
                  rw [deep_next a p i u hli, HE.out]
                  by_cases e : u = j
                  · rw [if_pos e, if_pos e, e, HN.out]
                  · rw [if_neg e, if_neg e]
                · exact (Below.heap_setCell _ _ _ _ HZ.out.2.1).trans Z2.out
                · exact (Below.heap_setCell _ _ _ _ HZ.out.1).trans O2.out
                · exact B2.out.setCell (p := ⟨zp, j, none⟩) HZ.out.2.2.1 _
              case measure => simp [intOf]; omega
            · obtain rfl : i = 16 := by omega
              go_wp2_with fail
              go_roundw
              case rel => exact ⟨p + 1, by omega, by go_num, PM.out.ext fun u _ => by unfold pixD; rw [deep_plane], ZM.out, OM.out, BM.out⟩
              case measure => simp [intOf]; omega
        · obtain rfl : p = 4 := by omega
          go_wp2_with fail
          go_roundw
          case rel => exact ⟨a + 1, by omega, by go_num, PL.out.ext fun u _ => by unfold pixD; rw [deep_cell], ZL.out, OL.out, BL.out⟩
          case measure => simp [intOf]; omega
    · obtain rfl : a = A := by omega
      have c7 := OK.out.c7
      have c3 := OK.out.c3
      have PE := hide (PK.out.ext (g := fun j => if j < 16 * a then colS g C r (j : Int) 4 else 0) fun j _ => by
        unfold pixD
        rw [deep_all]
        by_cases e : j < 16 * a
        · rw [if_pos e, if_pos e]
        · rw [if_neg e, if_neg e]; rfl)
      clear PK
      have eW : W = ((16 * a : Nat) : Int) := by rw [hA.out]; omega
      have CU := cut_32 zp (16 * a) (by omega)
      rw [← eW] at CU
      have HW := hide eW
      clear eW
      cases fx with
      | false =>
        have I5 := hide (info_32 (fun j => .int .i64 (if j < 16 * a then colS g C r (overS W false j) 4 else 0)))
        have T5 := hide (ints_one (fun j => if j < 16 * a then colS g C r (overS W false j) 4 else 0) 32)
        have S5 := hide (show (valsOf (fun _ => Value.int .i64 0) 32).toArray.size = (valsOf (fun j => Value.int .i64 (if j < 16 * a then colS g C r (overS W false j) 4 else 0)) 32).toArray.size by rw [valsOf_size, valsOf_size])
        have PF := hide (show wr.heap[zp]? = some (.cells (valsOf (fun j => .int .i64 (if j < 16 * a then colS g C r (overS W false j) 4 else 0)) 32).toArray 89 (0, 0)) from PE.out)
        obtain ⟨L, hL⟩ : ∃ L, valsOf (fun j => .int .i64 (if j < 16 * a then colS g C r (overS W false j) 4 else 0)) 32 = L := ⟨_, rfl⟩
        rw [hL] at I5 T5 S5 PF
        have HL := hide hL
        clear hL
        go_wp2_with (first
          | (refine wpList_load_row rfl 89 (.tmp 7) rfl zp rfl _ _ _ _ PF.out Tryd.underlying89 rfl I5.out ?_)
          | (refine wpList_store_row rfl 89 (.tmp 6) (.tmp 75) rfl zz _ rfl rfl 89 _ ZK.out I5.out S5.out T5.out ?_)
          | (refine bodyPost_ret (results_cell_row rfl _ _ zz 89 _ (0, 0) _ rfl (setRow_heap _ _ _ _ _ _ ZK.out) Tryd.underlying89 rfl I5.out) rfl ⟨by rw [HL.out], below_setRow BK.out HZ.out.2.2.2 _⟩))
      | true =>
        have KR := hide (reverse_is zp (16 * a) _ wr PE.out (by omega) (by omega))
        go_wp2_with fail
        refine KR.out.mono ?_
        rintro e w2 ⟨rfl, p2, o2⟩
        have PT := hide (p2.ext (g := fun j => if j < 16 * a then colS g C r (overS W true j) 4 else 0) fun j _ => by
          by_cases e : j < 16 * a
          · show (if j < 16 * a then (if 16 * a - 1 - j < 16 * a then colS g C r ((16 * a - 1 - j : Nat) : Int) 4 else 0) else _) = if j < 16 * a then _ else _
            rw [if_pos e, if_pos (by omega), if_pos e, show overS W true (j : Int) = W - 1 - (j : Int) from rfl, HW.out, show ((16 * a - 1 - j : Nat) : Int) = ((16 * a : Nat) : Int) - 1 - (j : Int) by omega]
          · show (if j < 16 * a then _ else (if j < 16 * a then _ else _)) = if j < 16 * a then _ else _
            rw [if_neg e, if_neg e, if_neg e])
        have ZT := hide (show Has32 w2 zz (fun _ => 0) from o2.obj ZK.out HZ.out.2.1)
        have BT := hide (bonly BK.out o2 HZ.out.2.2.1 (Nat.le_refl _))
        clear p2 o2 ZK BK PE
        have I5 := hide (info_32 (fun j => .int .i64 (if j < 16 * a then colS g C r (overS W true j) 4 else 0)))
        have T5 := hide (ints_one (fun j => if j < 16 * a then colS g C r (overS W true j) 4 else 0) 32)
        have S5 := hide (show (valsOf (fun _ => Value.int .i64 0) 32).toArray.size = (valsOf (fun j => Value.int .i64 (if j < 16 * a then colS g C r (overS W true j) 4 else 0)) 32).toArray.size by rw [valsOf_size, valsOf_size])
        have PF := hide (show w2.heap[zp]? = some (.cells (valsOf (fun j => .int .i64 (if j < 16 * a then colS g C r (overS W true j) 4 else 0)) 32).toArray 89 (0, 0)) from PT.out)
        obtain ⟨L, hL⟩ : ∃ L, valsOf (fun j => .int .i64 (if j < 16 * a then colS g C r (overS W true j) 4 else 0)) 32 = L := ⟨_, rfl⟩
        rw [hL] at I5 T5 S5 PF
        have HL := hide hL
        clear hL
        go_wp2_with (first
          | (refine wpList_load_row rfl 89 (.tmp 7) rfl zp rfl _ _ _ _ PF.out Tryd.underlying89 rfl I5.out ?_)
          | (refine wpList_store_row rfl 89 (.tmp 6) (.tmp 75) rfl zz _ rfl rfl 89 _ ZT.out I5.out S5.out T5.out ?_)
          | (refine bodyPost_ret (results_cell_row rfl _ _ zz 89 _ (0, 0) _ rfl (setRow_heap _ _ _ _ _ _ ZT.out) Tryd.underlying89 rfl I5.out) rfl ⟨by rw [HL.out], below_setRow BT.out HZ.out.2.2.2 _⟩))
set_option maxHeartbeats 4000000 in
theorem srow_turned (q : Option Addr) (g : Int → Int) (hg : Hid (Words g)) (X Y C W H P d r : Int) (f fx : Bool) (w : World) (HT : Hid (Tells q g w)) (A : Nat) (hA : Hid (W = 16 * (A : Int))) (hA1 : A = 1 ∨ A = 2) (hC0 : 0 ≤ C) (hC1 : C < 1024) (hH : H = 16 ∨ H = 32 ∨ H = 64) (hr0 : 0 ≤ r) (hr1 : r < 64) (hd : H - 1 - d = r) (hd0 : 0 ≤ d) (hd1 : d < 64) :
    Calls Tryd.prog 37 #[.pointer q, .agg #[.int .i64 X, .int .i64 Y, .int .i64 C, .int .i64 W, .int .i64 H, .int .i64 P, .bool f, .bool fx, .bool true], .int .i64 d] w fun e w' => e = .returned (.agg (valsOf (fun j => .int .i64 (if j < 16 * A then colS g C r (overS W fx j) 4 else 0)) 32).toArray) ∧ Below w.heap.size w w' := by
  have eA : Int.tdiv W 16 = (A : Int) := by rw [hA.out, Int.tdiv_eq_ediv_of_nonneg (by omega)]; omega
  have e16 : Int.tdiv r 16 = r / 16 := Int.tdiv_eq_ediv_of_nonneg hr0
  have er : Int.tmod r 16 = r % 16 := Int.tmod_eq_emod_of_nonneg hr0
  go_enter Tryd.func37, Tryd.ntmps37
  go_wp2_with fail
  try simp only [hd]
  have HD := hide hd
  clear hd
  refine under_name fun wa hwa => ?_
  obtain ⟨b0, b1, b2, hs, BB⟩ := three_named hwa
  have BA := hide BB
  have O1 := hide (show HasO wa w.heap.size X Y C W H P f fx true from b0)
  have Z1 := hide (show Has32 wa (w.heap.size + 1) (fun _ => 0) from b1)
  have P1 := hide ((show Has32 wa (w.heap.size + 2) (fun _ => 0) from b2).ext (g := pixD g C r 0 0 0) fun j _ => by unfold pixD; rw [deep_zero]; rfl)
  clear hwa b0 b1 b2 BB hs
  obtain ⟨zo, hzo⟩ : ∃ z, w.heap.size = z := ⟨_, rfl⟩
  obtain ⟨zz, hzz⟩ : ∃ z, w.heap.size + 1 = z := ⟨_, rfl⟩
  obtain ⟨zp, hzp⟩ : ∃ z, w.heap.size + 2 = z := ⟨_, rfl⟩
  have HZ := hide (show zo ≠ zp ∧ zz ≠ zp ∧ w.heap.size ≤ zp ∧ w.heap.size ≤ zz by omega)
  try simp only [World.alloc_size]
  rw [hzp] at P1
  rw [hzz] at Z1
  rw [hzo] at O1
  try simp only [Nat.add_assoc]
  rw [hzp, hzz, hzo]
  clear hzo hzz hzp
  go_loopw [24] (fun sa wr => ∃ a : Nat, a ≤ A ∧ sa = .int .i64 (a : Int) ∧ Has32 wr zp (pixD g C r a 0 0) ∧ Has32 wr zz (fun _ => 0) ∧ HasO wr zo X Y C W H P f fx true ∧ Below w.heap.size w wr) (fun sa _ => A - (intOf sa).toNat)
  case atStart => exact ⟨0, Nat.zero_le _, rfl, P1.out, Z1.out, O1.out, BA.out⟩
  case round =>
    obtain ⟨a, ha, rfl, hp, hz, ho, hb⟩ := hrel
    have PK := hide hp
    have ZK := hide hz
    have OK := hide ho
    have BK := hide hb
    clear hp hz ho hb P1 Z1 O1 BA
    by_cases hlt : a < A
    · have c2 := OK.out.c2
      go_wp2_with fail
      have hda : decide ((a : Int) < (A : Int)) = true := decide_eq_true (by omega)
      try simp only [hda]
      clear hda c2
      obtain ⟨fi, hfi⟩ : ∃ fi, (C + r / 16 * 2 + (a : Int)) * 64 + r % 16 = fi := ⟨_, rfl⟩
      try rw [hfi]
      have hfb : 0 ≤ fi ∧ fi < 100000 := by omega
      have HF := hide hfi
      clear hfi
      have PK2 := hide (show Has32 wr zp (pixD g C r a 0 0) from PK.out)
      go_loopw [40] (fun sp wr => ∃ p : Nat, p ≤ 4 ∧ sp = .int .i64 (p : Int) ∧ Has32 wr zp (pixD g C r a p 0) ∧ Has32 wr zz (fun _ => 0) ∧ HasO wr zo X Y C W H P f fx true ∧ Below w.heap.size w wr) (fun sp _ => 4 - (intOf sp).toNat)
      case atStart => exact ⟨0, Nat.zero_le _, rfl, PK.out, ZK.out, OK.out, BK.out⟩
      case round =>
        obtain ⟨p, hp4, rfl, hp, hz, ho, hb⟩ := hrel
        have PL := hide hp
        have ZL := hide hz
        have OL := hide ho
        have BL := hide hb
        clear hp hz ho hb PK ZK OK BK PK2
        by_cases hlp : p < 4
        · have KW := hide (HT.out _ BL.out (fi + (p : Int) * 16))
          obtain ⟨x, hx⟩ : ∃ x, g (fi + (p : Int) * 16) = x := ⟨_, rfl⟩
          rw [hx] at KW
          have HX := hide hx
          clear hx
          go_wp2_with (first | (go_at_call 51; refine KW.out.mono ?_; rintro e w' ⟨rfl, hw⟩; subst w'))
          have hdp : decide ((p : Int) < 4) = true := decide_eq_true (by omega)
          try simp only [hdp]
          clear hdp
          go_loopw [49] (fun si wr => ∃ i : Nat, i ≤ 16 ∧ si = .int .i64 (i : Int) ∧ Has32 wr zp (pixD g C r a p i) ∧ Has32 wr zz (fun _ => 0) ∧ HasO wr zo X Y C W H P f fx true ∧ Below w.heap.size w wr) (fun si _ => 16 - (intOf si).toNat)
          case atStart => exact ⟨0, Nat.zero_le _, rfl, PL.out, ZL.out, OL.out, BL.out⟩
          case round =>
            obtain ⟨i, hi, rfl, hp, hz, ho, hb⟩ := hrel
            have PM := hide hp
            have ZM := hide hz
            have OM := hide ho
            have BM := hide hb
            clear hp hz ho hb PL ZL OL BL
            by_cases hli : i < 16
            · obtain ⟨j, hj⟩ : ∃ j, 16 * a + i = j := ⟨_, rfl⟩
              have j32 : j < 32 := by omega
              have cj := PM.out.at j j32
              rw [show pixD g C r a p i j = colS g C r (j : Int) p by unfold pixD; rw [← hj, deep_here a p i hli]] at cj
              have hv := colS_le g C r (j : Int) p (by omega)
              have HN := hide (pixD_next g C r a p i hli)
              rw [hj, HF.out, HX.out] at HN
              obtain ⟨v, ev⟩ : ∃ v, colS g C r (j : Int) p = v := ⟨_, rfl⟩
              rw [ev] at cj hv HN
              obtain ⟨bt, eb⟩ : ∃ bt, bitOf x (15 - (i : Int)) = bt := ⟨_, rfl⟩
              have hb01 := bitOf_01 x (15 - (i : Int))
              rw [eb] at hb01 HN
              have KB := hide (fun u => bit_any x (15 - (i : Int)) u)
              rw [eb] at KB
              obtain ⟨m, em⟩ : ∃ m, bt * 2 ^ p = m := ⟨_, rfl⟩
              rw [em] at HN
              have hm : 0 ≤ m ∧ m ≤ 8 := by
                have e8 : (2 : Int) ^ p ≤ 8 ∧ (0 : Int) ≤ 2 ^ p := by rcases (show p = 0 ∨ p = 1 ∨ p = 2 ∨ p = 3 by omega) with rfl | rfl | rfl | rfl <;> decide
                rcases (show bt = 0 ∨ bt = 1 by omega) with rfl | rfl <;> rw [← em] <;> omega
              have ew : wrap64 (bt * 2 ^ p) = m := by rw [em]; unfold wrap64; omega
              have ej : (a : Int) * 16 + (i : Int) = (j : Int) := by omega
              have HE := hide (show 16 * a + i = j from hj)
              clear ev eb em hj
              go_wp2_with fail
              have k0 := kept_cell cj PM.out.lt
              haveI := kept_some wr
              refine wp_region_kept_shut _ _ (show _ = [_, _, _, _, _, _, _, _, _, _, _, _, _, _] ++ [_] from rfl) (by kernel_rfl) (by kernel_rfl) (by kernel_rfl) ?_
              repeat (go_big_quiet_step ((first | (go_at_call 29; exact kept_same (KB.out _)))))
              refine wpQuiet_nil ?_
              rintro _ ⟨wk, rfl⟩
              clear k0
              obtain ⟨w2, hw2⟩ : ∃ w2, w2 = wk.val := ⟨_, rfl⟩
              have n2 : Below wr.heap.size wr w2 := by rw [hw2]; exact wk.below
              rw [← hw2]
              have P2 := hide (PM.out.next n2)
              have Z2 := hide (ZM.out.next n2)
              have O2 := hide (OM.out.next n2)
              have B2 := hide (bnext BM.out n2)
              clear hw2 n2 wk PM ZM OM BM
              have zj := P2.out.frozen j
              have cj := P2.out.at j j32
              go_wp2_with fail
              go_roundw
              case rel =>
                refine ⟨i + 1, by omega, by go_num, ?_, ?_, ?_, ?_⟩
                · refine Has32.ext (P2.out.set j (v + m)) fun u _ => ?_
                  show (if u = j then v + m else pixD g C r a p i u) = pixD g C r a p (i + 1) u
                  unfold pixD
                  rw [deep_next a p i u hli, HE.out]
                  by_cases e : u = j
                  · rw [if_pos e, if_pos e, e, HN.out]
                  · rw [if_neg e, if_neg e]
                · exact (Below.heap_setCell _ _ _ _ HZ.out.2.1).trans Z2.out
                · exact (Below.heap_setCell _ _ _ _ HZ.out.1).trans O2.out
                · exact B2.out.setCell (p := ⟨zp, j, none⟩) HZ.out.2.2.1 _
              case measure => simp [intOf]; omega
            · obtain rfl : i = 16 := by omega
              go_wp2_with fail
              go_roundw
              case rel => exact ⟨p + 1, by omega, by go_num, PM.out.ext fun u _ => by unfold pixD; rw [deep_plane], ZM.out, OM.out, BM.out⟩
              case measure => simp [intOf]; omega
        · obtain rfl : p = 4 := by omega
          go_wp2_with fail
          go_roundw
          case rel => exact ⟨a + 1, by omega, by go_num, PL.out.ext fun u _ => by unfold pixD; rw [deep_cell], ZL.out, OL.out, BL.out⟩
          case measure => simp [intOf]; omega
    · obtain rfl : a = A := by omega
      have c7 := OK.out.c7
      have c3 := OK.out.c3
      have PE := hide (PK.out.ext (g := fun j => if j < 16 * a then colS g C r (j : Int) 4 else 0) fun j _ => by
        unfold pixD
        rw [deep_all]
        by_cases e : j < 16 * a
        · rw [if_pos e, if_pos e]
        · rw [if_neg e, if_neg e]; rfl)
      clear PK
      have eW : W = ((16 * a : Nat) : Int) := by rw [hA.out]; omega
      have CU := cut_32 zp (16 * a) (by omega)
      rw [← eW] at CU
      have HW := hide eW
      clear eW
      cases fx with
      | false =>
        have I5 := hide (info_32 (fun j => .int .i64 (if j < 16 * a then colS g C r (overS W false j) 4 else 0)))
        have T5 := hide (ints_one (fun j => if j < 16 * a then colS g C r (overS W false j) 4 else 0) 32)
        have S5 := hide (show (valsOf (fun _ => Value.int .i64 0) 32).toArray.size = (valsOf (fun j => Value.int .i64 (if j < 16 * a then colS g C r (overS W false j) 4 else 0)) 32).toArray.size by rw [valsOf_size, valsOf_size])
        have PF := hide (show wr.heap[zp]? = some (.cells (valsOf (fun j => .int .i64 (if j < 16 * a then colS g C r (overS W false j) 4 else 0)) 32).toArray 89 (0, 0)) from PE.out)
        obtain ⟨L, hL⟩ : ∃ L, valsOf (fun j => .int .i64 (if j < 16 * a then colS g C r (overS W false j) 4 else 0)) 32 = L := ⟨_, rfl⟩
        rw [hL] at I5 T5 S5 PF
        have HL := hide hL
        clear hL
        go_wp2_with (first
          | (refine wpList_load_row rfl 89 (.tmp 7) rfl zp rfl _ _ _ _ PF.out Tryd.underlying89 rfl I5.out ?_)
          | (refine wpList_store_row rfl 89 (.tmp 6) (.tmp 75) rfl zz _ rfl rfl 89 _ ZK.out I5.out S5.out T5.out ?_)
          | (refine bodyPost_ret (results_cell_row rfl _ _ zz 89 _ (0, 0) _ rfl (setRow_heap _ _ _ _ _ _ ZK.out) Tryd.underlying89 rfl I5.out) rfl ⟨by rw [HL.out], below_setRow BK.out HZ.out.2.2.2 _⟩))
      | true =>
        have KR := hide (reverse_is zp (16 * a) _ wr PE.out (by omega) (by omega))
        go_wp2_with fail
        refine KR.out.mono ?_
        rintro e w2 ⟨rfl, p2, o2⟩
        have PT := hide (p2.ext (g := fun j => if j < 16 * a then colS g C r (overS W true j) 4 else 0) fun j _ => by
          by_cases e : j < 16 * a
          · show (if j < 16 * a then (if 16 * a - 1 - j < 16 * a then colS g C r ((16 * a - 1 - j : Nat) : Int) 4 else 0) else _) = if j < 16 * a then _ else _
            rw [if_pos e, if_pos (by omega), if_pos e, show overS W true (j : Int) = W - 1 - (j : Int) from rfl, HW.out, show ((16 * a - 1 - j : Nat) : Int) = ((16 * a : Nat) : Int) - 1 - (j : Int) by omega]
          · show (if j < 16 * a then _ else (if j < 16 * a then _ else _)) = if j < 16 * a then _ else _
            rw [if_neg e, if_neg e, if_neg e])
        have ZT := hide (show Has32 w2 zz (fun _ => 0) from o2.obj ZK.out HZ.out.2.1)
        have BT := hide (bonly BK.out o2 HZ.out.2.2.1 (Nat.le_refl _))
        clear p2 o2 ZK BK PE
        have I5 := hide (info_32 (fun j => .int .i64 (if j < 16 * a then colS g C r (overS W true j) 4 else 0)))
        have T5 := hide (ints_one (fun j => if j < 16 * a then colS g C r (overS W true j) 4 else 0) 32)
        have S5 := hide (show (valsOf (fun _ => Value.int .i64 0) 32).toArray.size = (valsOf (fun j => Value.int .i64 (if j < 16 * a then colS g C r (overS W true j) 4 else 0)) 32).toArray.size by rw [valsOf_size, valsOf_size])
        have PF := hide (show w2.heap[zp]? = some (.cells (valsOf (fun j => .int .i64 (if j < 16 * a then colS g C r (overS W true j) 4 else 0)) 32).toArray 89 (0, 0)) from PT.out)
        obtain ⟨L, hL⟩ : ∃ L, valsOf (fun j => .int .i64 (if j < 16 * a then colS g C r (overS W true j) 4 else 0)) 32 = L := ⟨_, rfl⟩
        rw [hL] at I5 T5 S5 PF
        have HL := hide hL
        clear hL
        go_wp2_with (first
          | (refine wpList_load_row rfl 89 (.tmp 7) rfl zp rfl _ _ _ _ PF.out Tryd.underlying89 rfl I5.out ?_)
          | (refine wpList_store_row rfl 89 (.tmp 6) (.tmp 75) rfl zz _ rfl rfl 89 _ ZT.out I5.out S5.out T5.out ?_)
          | (refine bodyPost_ret (results_cell_row rfl _ _ zz 89 _ (0, 0) _ rfl (setRow_heap _ _ _ _ _ _ ZT.out) Tryd.underlying89 rfl I5.out) rfl ⟨by rw [HL.out], below_setRow BT.out HZ.out.2.2.2 _⟩))
/-- What row tells of a sprite's row that is so far down. -/
theorem srow_is (q : Option Addr) (g : Int → Int) (hg : Words g) (X Y C W H P d : Int) (f fx fy : Bool) (w : World) (ht : Tells q g w) (hW : W = 16 ∨ W = 32) (hC0 : 0 ≤ C) (hC1 : C < 1024) (hH : H = 16 ∨ H = 32 ∨ H = 64) (hd0 : 0 ≤ d) (hd1 : d < H) :
    Calls Tryd.prog 37 #[.pointer q, .agg #[.int .i64 X, .int .i64 Y, .int .i64 C, .int .i64 W, .int .i64 H, .int .i64 P, .bool f, .bool fx, .bool fy], .int .i64 d] w fun e w' => e = .returned (.agg (valsOf (fun j => .int .i64 (if (j : Int) < W then pixS g C W H fx fy d j else 0)) 32).toArray) ∧ Below w.heap.size w w' := by
  obtain ⟨A, hA, hA1⟩ : ∃ A : Nat, W = 16 * (A : Int) ∧ (A = 1 ∨ A = 2) := by
    rcases hW with rfl | rfl
    · exact ⟨1, rfl, .inl rfl⟩
    · exact ⟨2, rfl, .inr rfl⟩
  have e : (valsOf (fun j => Value.int .i64 (if (j : Int) < W then pixS g C W H fx fy d j else 0)) 32) = valsOf (fun j => .int .i64 (if j < 16 * A then colS g C (downS H fy d) (overS W fx j) 4 else 0)) 32 := valsOf_ext fun j _ => by
    by_cases k : j < 16 * A
    · rw [if_pos k, if_pos (by omega)]; rfl
    · rw [if_neg k, if_neg (by omega)]
  rw [e]
  cases fy with
  | false => exact srow_plain q g (hide hg) X Y C W H P d d f fx w (hide ht) A (hide hA) hA1 hC0 hC1 hH hd0 (by omega) rfl hd0 (by omega)
  | true => exact srow_turned q g (hide hg) X Y C W H P d (H - 1 - d) f fx w (hide ht) A (hide hA) hA1 hC0 hC1 hH (by omega) (by omega) rfl hd0 (by omega)
end Go.Proofs.YtnhjhmfiapjenaaDoor
