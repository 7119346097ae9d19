/- LineWide, at the landed commit: whatever setup and integer come in, the call returns true: a line has as many colours as it is wide, each from 0 to 511, whatever the registers; beyond 512, and below 1, there is none. No condition but what the card says. -/
import Derived.Test.YtnhjhmfiapjenaaDoorLaws19
import Derived.Test.YtnhjhmfiapjenaaDoorGenA
import Derived.Test.YtnhjhmfiapjenaaDoorHighLaid
import Derived.Test.YtnhjhmfiapjenaaDoorTie
import Derived.Test.YtnhjhmfiapjenaaDoorCards
import Derived.BigQuiet
import Derived.SevenTiedAt
import Derived.OpenShut
import Derived.ShutString
import Derived.ChangeOld
namespace Go.Proofs.YtnhjhmfiapjenaaDoor
open Go.ChangeShapes Go.WideShapes Go.ChangeAt Go.RowKit
open Go.ChangeMaps (open_string shut_string)
set_option linter.unusedVariables false

/-- Seven times their numbers, up to k. -/
def sevTo (k j : Nat) : Int := if j < k then (j : Int) * 7 else 0
def lwR (B zs g : Nat) (f : Nat → Int) (ta : Option Addr) (tl tc : Nat) (T : Nat → Int) (X Y L N wide : Int) (i : Nat) (v : Value) (w : World) : Prop :=
  match i with
  | 0 => v = .pointer (some ⟨g, 0, none⟩)
  | 1 => v = .agg (R15.rowG 0 f)
  | 2 => v = .pointer (some ⟨zs, 1, none⟩)
  | 3 => v = .slice ta tl tc
  | 4 => v = .agg (tabL T).toArray
  | 5 => v = .pointer (some ⟨zs, 5, none⟩)
  | 6 => v = .int .i64 X
  | 7 => v = .pointer (some ⟨zs, 6, none⟩)
  | 8 => v = .int .i64 Y
  | 9 => v = .pointer (some ⟨zs, 7, none⟩)
  | 10 => v = .int .i64 L
  | 11 => v = .int .i64 N
  | 12 => v = .int .i64 wide
  | 13 => v = .agg (inL [.pointer (some ⟨g, 0, none⟩)] (gL 0 f) (tabL T) (vL 0 0 fun _ => 0) X Y N wide).toArray
  | _ => ∃ z, v = .pointer (some ⟨z, 0, none⟩) ∧ w.heap[z]? = some (.cells zeroI 43 (0, 0)) ∧ B ≤ z
theorem lwR_next {B zs g : Nat} {f : Nat → Int} {ta : Option Addr} {tl tc : Nat} {T : Nat → Int} {X Y L N wide : Int} (i : Nat) (v : Value) (w w' : World) (h : lwR B zs g f ta tl tc T X Y L N wide i v w) (k : Below w.heap.size w w') : lwR B zs g f ta tl tc T X Y L N wide i v w' := by
  unfold lwR at h ⊢
  split at h
  all_goals first
    | exact h
    | (obtain ⟨z, e, r, l⟩ := h; exact ⟨z, e, (k.block z (lt_of_block r)).trans r, l⟩)
set_option maxHeartbeats 4000000 in
theorem lw_out (pa : Option Addr) (pl pc : Nat) (ta : Option Addr) (tl tc : Nat) (ca : Option Addr) (cl cc : Nat) (ct mp X Y L Wd : Int) (tz : List Int) (qa qw : Nat → Int) (w : World) (HR : Hid (IsPokes w pa pl qa qw)) (HT : Hid (IsRow .i64 w ta tl tc tz)) (HH : Hid (HasHigh w)) (A : Int) (hA : bits .and .i64 ct 8191 = A) (M : Int) (hM : bits .and .i64 mp 255 = M) (N : Int) (hN : bits .and .i64 L 255 = N) (wide : Int) (hw : Hid (wide < 1 ∨ 512 < wide)) :
    Calls Tryd.prog 5 #[.agg (rowS pa pl pc ta tl tc ca cl cc ct mp X Y L Wd), .int .i64 wide] w fun e w' => e = .returned (.bool true) ∧ Below w.heap.size w w' := by
  set_option maxRecDepth 20000 in
  go_enter Tryd.func5, Tryd.ntmps5
  have A0 := hide (show HasS (w.alloc (.cells (rowS pa pl pc ta tl tc ca cl cc ct mp X Y L Wd) 25)) w.heap.size (rowS pa pl pc ta tl tc ca cl cc ct mp X Y L Wd) from heap_alloc_new _ _)
  have s0 := A0.out.c0
  set_option maxRecDepth 20000 in
  go_wp2_with fail
  refine under_calls fun wa hwa => ?_
  have S1 := hide (show HasS wa w.heap.size (rowS pa pl pc ta tl tc ca cl cc ct mp X Y L Wd) by rw [hwa]; exact A0.out)
  have B1 := hide (show Below w.heap.size w wa by rw [hwa]; exact (Below.refl _ w).alloc (Nat.le_refl _) _)
  clear hwa A0 s0
  obtain ⟨zs, hzs⟩ : ∃ z, w.heap.size = z := ⟨_, rfl⟩
  rw [hzs] at S1 ⊢
  clear hzs
  refine (made_is pa pl pc qa qw wa (HR.out.next B1.out)).mono ?_
  rintro e w2 ⟨g, c, d, rfl, k2⟩
  have WF := hide (words_made qa qw (min pl 80))
  obtain ⟨m, hm⟩ : ∃ m, madeTo qa qw (min pl 80) = m := ⟨_, rfl⟩
  rw [hm] at k2 WF
  clear hm
  have E2 := hide (show Env w zs (rowS pa pl pc ta tl tc ca cl cc ct mp X Y L Wd) g c d m w2 from ⟨S1.out.next k2.below, k2.2.1, k2.2.2.1, bnext B1.out k2.below⟩)
  clear k2 S1 B1 HR
  have N7 := hide (fun u : World => heap_alloc_new u (.cells (R15.rowG 0 fun _ => 0) 39))
  set_option maxRecDepth 20000 in
  go_wp2_with (first
    | (refine wpList_built rfl 39 #[] rfl #[] (by simp) (R15.rowG 0 fun _ => 0) run_regs0 ?_; simp only [Act.put, List.setIfInBounds_toArray, List.set_cons_succ, List.set_cons_zero])
    | (refine wpList_alloced rfl 39 rfl _ zero_regs ?_; simp only [Act.put, List.setIfInBounds_toArray, List.set_cons_succ, List.set_cons_zero])
    | (refine wpList_store_row rfl 39 (.tmp 7) (.tmp 24) rfl w2.heap.size _ rfl rfl 39 _ (N7.out w2) (R15.info_G _ _) rfl (R15.rowG_one _ _) ?_
       refine under_list fun w7 hw7 => ?_
       have n7 : Below w2.heap.size w2 w7 := by rw [hw7]; exact below_setRow ((Below.refl _ w2).alloc (Nat.le_refl _) _) (Nat.le_refl _) _
       have G7 := hide (show R15.HasG 39 w7 w2.heap.size 0 (fun _ => 0) by rw [hw7]; exact setRow_heap _ _ _ _ _ _ (N7.out w2))
       have E7 := hide (E2.out.next n7)
       have L7 := hide (show w.heap.size ≤ w2.heap.size from E2.out.below.size)
       clear hw7 N7 n7 E2))
  obtain ⟨zr, hzr⟩ : ∃ z, w2.heap.size = z := ⟨_, rfl⟩
  rw [hzr] at G7 L7 ⊢
  clear hzr
  have c5 : w7.cell? ⟨zr, 6, none⟩ = some (.int .i64 0) := G7.out.at 5 (by decide)
  have c9 : w7.cell? ⟨zr, 10, none⟩ = some (.int .i64 0) := G7.out.at 9 (by decide)
  have f5 := G7.out.frozen 6
  have f9 := G7.out.frozen 10
  have s3 := E7.out.1.c3
  have s4 := E7.out.1.c4
  have nz := types_apart E7.out.1 G7.out (by decide)
  simp only [Act.put]
  go_cut [27] from 25 to 34 (fun _ wx => R15.HasG 39 wx zr 0 (regF A M) ∧ Only zr w7 wx)
  case first =>
    go_region
    all_goals (go_wp2_with fail)
    all_goals go_meet
    all_goals exact ⟨(G7.out.set 5 A).set 9 M, ((only_setCell _ _ _ _).set _ _).drew'⟩
  obtain ⟨hg8, ho8⟩ := hcut
  have E8 := hide (E7.out.only G7.out (by decide) L7.out ho8)
  have G8 := hide hg8
  clear hg8 ho8 c5 c9 f5 f9 s3 s4 nz G7 E7 hA hM
  obtain ⟨T, hT⟩ : ∃ T, listT tl tz = T := ⟨_, rfl⟩
  have KT := hide (fun (u : World) (hu : Below wc.heap.size wc u) => table_is ta tl tc tz u (HT.out.next (bnext E8.out.below hu)))
  rw [hT] at KT
  clear hT HT
  have HMK := hide hN
  clear hN
  set_option maxRecDepth 20000 in
  go_wp2_with fail
  refine wp_region_facts_last [_, _, _, _, _, _, _, _, _, _, _, _, _, _, _] _ rfl (lwR w.heap.size zs g (regF A M) ta tl tc T X Y L N wide) _ (fun vals => by simp only [putAll, Act.put, List.setIfInBounds_toArray, List.set_cons_succ, List.set_cons_zero, Nat.reduceAdd]; rfl) (by kernel_rfl) (by kernel_rfl) (by kernel_rfl) (by kernel_rfl) lwR_next ?_ ?_
  · refine steps_cons (fun vals u hb hf => ?_) (steps_cons (fun vals u hb hf => ?_) (steps_cons (fun vals u hb hf => ?_) (steps_cons (fun vals u hb hf => ?_) (steps_cons (fun vals u hb hf => ?_) (steps_cons (fun vals u hb hf => ?_) (steps_cons (fun vals u hb hf => ?_) (steps_cons (fun vals u hb hf => ?_) (steps_cons (fun vals u hb hf => ?_) (steps_cons (fun vals u hb hf => ?_) (steps_cons (fun vals u hb hf => ?_) (steps_cons (fun vals u hb hf => ?_) (steps_cons (fun vals u hb hf => ?_) (steps_cons (fun vals u hb hf => ?_) (steps_cons (fun vals u hb hf => ?_) steps_nil))))))))))))))
    · go_wp2_with fail
      exact stepPost_mk _ rfl rfl (Below.refl _ _)
    · have GU := hide (G8.out.next hb)
      go_wp2_with (first | (refine wpList_load_row rfl 39 (.tmp 7) rfl zr rfl _ _ _ _ GU.out Tryd.underlying39 rfl (R15.info_G _ _) ?_))
      exact stepPost_mk _ rfl rfl (Below.refl _ _)
    · go_wp2_with fail
      exact stepPost_mk _ rfl rfl (Below.refl _ _)
    · obtain ⟨(h2 : vals 2 = .pointer (some ⟨zs, 1, none⟩)), _⟩ := hf
      simp only [h2]
      clear h2
      have s1 := (E8.out.next hb).1.c1
      go_wp2_with fail
      exact stepPost_mk _ rfl rfl (Below.refl _ _)
    · obtain ⟨(h3 : vals 3 = .slice ta tl tc), _⟩ := hf
      simp only [h3]
      clear h3
      go_wp2_with (first | (go_at_call 7; refine (KT.out u hb).mono ?_; rintro e u2 ⟨rfl, b2⟩))
      exact stepPost_mk _ rfl rfl b2
    · go_wp2_with fail
      exact stepPost_mk _ rfl rfl (Below.refl _ _)
    · obtain ⟨(h5 : vals 5 = .pointer (some ⟨zs, 5, none⟩)), _⟩ := hf
      simp only [h5]
      clear h5
      have s5 := (E8.out.next hb).1.c5
      go_wp2_with fail
      exact stepPost_mk _ rfl rfl (Below.refl _ _)
    · go_wp2_with fail
      exact stepPost_mk _ rfl rfl (Below.refl _ _)
    · obtain ⟨(h7 : vals 7 = .pointer (some ⟨zs, 6, none⟩)), _⟩ := hf
      simp only [h7]
      clear h7
      have s6 := (E8.out.next hb).1.c6
      go_wp2_with fail
      exact stepPost_mk _ rfl rfl (Below.refl _ _)
    · go_wp2_with fail
      exact stepPost_mk _ rfl rfl (Below.refl _ _)
    · obtain ⟨(h9 : vals 9 = .pointer (some ⟨zs, 7, none⟩)), _⟩ := hf
      simp only [h9]
      clear h9
      have s7 := (E8.out.next hb).1.c7
      go_wp2_with fail
      exact stepPost_mk _ rfl rfl (Below.refl _ _)
    · obtain ⟨(h10 : vals 10 = .int .i64 L), _⟩ := hf
      simp only [h10]
      clear h10
      have hN := HMK.out
      go_wp2_with fail
      exact stepPost_mk _ rfl rfl (Below.refl _ _)
    · go_wp2_with fail
      exact stepPost_mk _ rfl rfl (Below.refl _ _)
    · obtain ⟨(h0 : vals 0 = .pointer (some ⟨g, 0, none⟩)), (h1 : vals 1 = .agg (R15.rowG 0 (regF A M))), (h4 : vals 4 = .agg (tabL T).toArray), (h6 : vals 6 = .int .i64 X), (h8 : vals 8 = .int .i64 Y), (h11 : vals 11 = .int .i64 N), (h12 : vals 12 = .int .i64 wide), _⟩ := hf
      simp only [h0, h1, h4, h6, h8, h11, h12]
      clear h0 h1 h4 h6 h8 h11 h12
      refine wpList_built rfl 43 _ rfl #[(0, .pointer (some ⟨g, 0, none⟩)), (1, .agg (R15.rowG 0 (regF A M))), (2, .agg (tabL T).toArray), (4, .int .i64 X), (5, .int .i64 Y), (6, .int .i64 N), (7, .int .i64 wide)] (by simp [Act.eval]) (inL [.pointer (some ⟨g, 0, none⟩)] (gL 0 (regF A M)) (tabL T) (vL 0 0 fun _ => 0) X Y N wide).toArray (run_input3 _ rfl _ _ _ _ _ _ _) ?_
      exact stepPost_mk _ rfl rfl (Below.refl _ _)
    · refine wpList_alloced rfl 43 rfl _ zero_input ?_
      exact stepPost_mk _ rfl ⟨_, rfl, heap_alloc_new _ _, Nat.le_trans E8.out.below.size hb.size⟩ ((Below.refl _ _).alloc (Nat.le_refl _) _)
  intro vals u hb hf
  obtain ⟨_, _, _, _, _, _, _, _, _, _, _, _, _, (h13 : vals 13 = .agg (inL [.pointer (some ⟨g, 0, none⟩)] (gL 0 (regF A M)) (tabL T) (vL 0 0 fun _ => 0) X Y N wide).toArray), ⟨zi, h14, iz, lz⟩, _⟩ := hf
  simp only [h13, h14]
  have E9 := hide (E8.out.next hb)
  have IZ := hide iz
  have LZ := hide lz
  clear h13 h14 iz lz hb E8 G8 KT HMK
  set_option maxRecDepth 20000 in
  go_wp2_with (first
    | (refine wpList_store_row rfl 43 (.tmp 8) (.tmp 48) rfl zi _ rfl rfl 43 _ IZ.out (info_in _ _ _ _ _ _ _ _ _ _ _) (in_size _ _ _ _ _ _ _ _ _ _ _) (in_one _ rfl _ _ _ _ _ _ _ _ _ _) ?_
       refine under_list fun w10 hw10 => ?_
       have J10 := hide (show HasIn w10 zi (.pointer (some ⟨g, 0, none⟩)) 0 (regF A M) T 0 0 (fun _ => 0) X Y N wide by rw [hw10]; exact setRow_heap _ _ _ _ _ _ IZ.out)
       have E10 := hide (show Env w zs (rowS pa pl pc ta tl tc ca cl cc ct mp X Y L Wd) g c d m w10 by rw [hw10]; exact E9.out.only IZ.out (by decide) LZ.out (only_setRow _ _ _))
       clear hw10))
  clear E9 IZ
  go_loopw [9] (fun si wr => ∃ k : Nat, k ≤ 512 ∧ si = .int .i64 (k : Int) ∧ HasIn wr zi (.pointer (some ⟨g, 0, none⟩)) 0 (regF A M) T 0 0 (sevTo k) X Y N wide ∧ Only zi w10 wr) (fun si _ => 512 - (intOf si).toNat)
  case atStart => exact ⟨0, Nat.zero_le _, rfl, J10.out, Only.refl _ _⟩
  case round =>
    obtain ⟨k, hk, rfl, hv, ho⟩ := hrel
    have JK := hide hv
    have OK := hide ho
    clear hv ho
    by_cases hlt : k < 512
    · obtain ⟨v, ck⟩ := JK.out.cell (o := 280 + k) (by omega)
      have zk := frozen_of_row wr zi (280 + k) _ _ JK.out
      set_option maxRecDepth 20000 in
      go_wp2_with fail
      go_roundw
      case rel =>
        refine ⟨k + 1, by omega, by go_num, ?_, OK.out.set _ _⟩
        have e := JK.out.setV k hlt ((k : Int) * 7)
        rw [show V12.upd (sevTo k) k ((k : Int) * 7) = sevTo (k + 1) by
          funext j
          unfold V12.upd sevTo
          by_cases e : j = k
          · rw [if_pos e, if_pos (by omega), e]
          · rw [if_neg e]
            by_cases q : j < k
            · rw [if_pos q, if_pos (by omega)]
            · rw [if_neg q, if_neg (by omega)]] at e
        exact e
      case measure => simp [intOf]; omega
    obtain rfl : k = 512 := by omega
    clear hlt hk
    have E11 := hide (E10.out.only J10.out (by decide) LZ.out OK.out)
    clear OK J10 E10
    have JT := JK
    set_option maxRecDepth 20000 in
    go_wp2_with (first | (refine wpList_load_row rfl 43 (.tmp 8) rfl zi rfl _ _ _ _ JK.out Tryd.underlying43 rfl (info_in _ _ _ _ _ _ _ _ _ _ _) ?_))
    obtain ⟨p, hp⟩ : ∃ p, R15.pairOf M 4 = p := ⟨_, rfl⟩
    obtain ⟨q, hq⟩ : ∃ q : Nat, bitOf M 6 = (q : Int) := ⟨(bitOf M 6).toNat, by have := bitOf_01 M 6; omega⟩
    obtain ⟨x7, h7⟩ : ∃ x, (bitOf A 7 == 1) = x := ⟨_, rfl⟩
    obtain ⟨x6, h6⟩ : ∃ x, (bitOf A 6 == 1) = x := ⟨_, rfl⟩
    have PQ := hide (show (R15.pairOf M 4 = p ∧ bitOf M 6 = (q : Int)) ∧ (bitOf A 7 == 1) = x7 ∧ (bitOf A 6 == 1) = x6 from ⟨⟨hp, hq⟩, h7, h6⟩)
    clear hp hq h7 h6
    refine (draw_no g m 0 0 1 0 0 wr E11.out.2.1 _ (gL 0 (regF A M)) (tabL T) (vL 0 0 (sevTo 512)) 0 (regF A M) T 0 0 (sevTo 512) X Y N (hide rfl) (hide rfl) (hide rfl) wide (hide rfl) hw.out).mono ?_
    rintro e w12 ⟨rfl, b12⟩
    have J12 := hide (JK.out.next b12)
    have E12 := hide (E11.out.next b12)
    clear b12 JK JT E11
    have N12 := hide (fun u : World => heap_alloc_new u (.cells zeroI 43))
    have JA := hide (J12.out.next ((Below.refl _ w12).alloc (Nat.le_refl _) (.cells zeroI 43)))
    set_option maxRecDepth 20000 in
    go_wp2_with (first
      | (refine wpList_load_row rfl 43 (.tmp 8) rfl zi rfl _ _ _ _ J12.out Tryd.underlying43 rfl (info_in _ _ _ _ _ _ _ _ _ _ _) ?_)
      | (refine wpList_alloced rfl 43 rfl _ zero_input ?_; simp only [Act.put, List.setIfInBounds_toArray, List.set_cons_succ, List.set_cons_zero])
      | (refine wpList_store_row rfl 43 (.tmp 13) (.tmp 65) rfl w12.heap.size _ rfl rfl 43 _ (N12.out w12) (info_in _ _ _ _ _ _ _ _ _ _ _) (in_size _ _ _ _ _ _ _ _ _ _ _) (in_one _ rfl _ _ _ _ _ _ _ _ _ _) ?_
         refine under_list fun w13 hw13 => ?_
         have n13 : Below w12.heap.size w12 w13 := by rw [hw13]; exact below_setRow ((Below.refl _ w12).alloc (Nat.le_refl _) _) (Nat.le_refl _) _
         have N13 := hide n13
         have J13 := hide (show HasIn w13 w12.heap.size (.pointer (some ⟨g, 0, none⟩)) 0 (regF A M) T 0 0 (sevTo 512) X Y N wide by rw [hw13]; exact setRow_heap _ _ _ _ _ _ (N12.out w12))
         have U13 := hide (J13.out.setN 1)
         have z13 := frozen_of_row w13 w12.heap.size 795 _ _ J13.out
         have c13 : w13.cell? ⟨w12.heap.size, 795, none⟩ = some (.int .i64 wide) := J13.out.has.n
         clear hw13 n13)
      | (refine wpList_load_row rfl 43 (.tmp 13) rfl w12.heap.size rfl _ _ _ _ U13.out Tryd.underlying43 rfl (info_in _ _ _ _ _ _ _ _ _ _ _) ?_))
    refine under_calls fun w14 hw14 => ?_
    have LO := hide (show w.heap.size ≤ w12.heap.size from E12.out.below.size)
    have O14 := hide (show Only w12.heap.size w13 w14 by rw [hw14]; exact only_setCell _ _ _ _)
    have E14 := hide ((E12.out.next N13.out).only J13.out (by decide) LO.out O14.out)
    clear hw14 U13 z13 c13 N12 JA LO
    refine (draw_is g m 0 0 1 0 0 w14 E14.out.2.1 _ (gL 0 (regF A M)) (tabL T) (vL 0 0 (sevTo 512)) 0 (regF A M) T 0 0 (sevTo 512) X Y N (hide rfl) (hide rfl) (hide rfl) 1 (hide rfl) (hide (HH.out.next E14.out.below)) WF (by omega) (by omega) p q PQ.out.1.1 PQ.out.1.2 x7 x6 PQ.out.2.1 PQ.out.2.2).mono ?_
    rintro e w15 ⟨gf, _, rfl, r15, b15⟩
    have B15 := hide (bnext E14.out.below b15)
    obtain ⟨ov1, hov1⟩ : ∃ v, overOf x6 (wordAt m) T N = v := ⟨_, rfl⟩
    obtain ⟨ht1, hht1⟩ : ∃ v, hitOf x6 (wordAt m) T N 1 = v := ⟨_, rfl⟩
    rw [hov1, hht1]
    clear hov1 hht1
    clear r15 b15 E14 O14 N13 J13 J12 E12
    rcases hw.out with h | h
    · have hd : decide (wide < 1) = true := decide_eq_true h
      set_option maxRecDepth 20000 in
      go_wp2_with fail
      go_ret
      exact ⟨rfl, B15.out⟩
    · have hd : decide (wide < 1) = false := decide_eq_false (by omega)
      have he : decide (512 < wide) = true := decide_eq_true h
      set_option maxRecDepth 20000 in
      go_wp2_with fail
      go_ret
      exact ⟨rfl, B15.out⟩
set_option maxHeartbeats 4000000 in
theorem lw_in (pa : Option Addr) (pl pc : Nat) (ta : Option Addr) (tl tc : Nat) (ca : Option Addr) (cl cc : Nat) (ct mp X Y L Wd : Int) (tz : List Int) (qa qw : Nat → Int) (w : World) (HR : Hid (IsPokes w pa pl qa qw)) (HT : Hid (IsRow .i64 w ta tl tc tz)) (HH : Hid (HasHigh w)) (A : Int) (hA : bits .and .i64 ct 8191 = A) (M : Int) (hM : bits .and .i64 mp 255 = M) (N : Int) (hN : bits .and .i64 L 255 = N) (K : Nat) (hK0 : 1 ≤ K) (hK1 : K ≤ 512) :
    Calls Tryd.prog 5 #[.agg (rowS pa pl pc ta tl tc ca cl cc ct mp X Y L Wd), .int .i64 (K : Int)] w fun e w' => e = .returned (.bool true) ∧ Below w.heap.size w w' := by
  set_option maxRecDepth 20000 in
  go_enter Tryd.func5, Tryd.ntmps5
  have A0 := hide (show HasS (w.alloc (.cells (rowS pa pl pc ta tl tc ca cl cc ct mp X Y L Wd) 25)) w.heap.size (rowS pa pl pc ta tl tc ca cl cc ct mp X Y L Wd) from heap_alloc_new _ _)
  have s0 := A0.out.c0
  set_option maxRecDepth 20000 in
  go_wp2_with fail
  refine under_calls fun wa hwa => ?_
  have S1 := hide (show HasS wa w.heap.size (rowS pa pl pc ta tl tc ca cl cc ct mp X Y L Wd) by rw [hwa]; exact A0.out)
  have B1 := hide (show Below w.heap.size w wa by rw [hwa]; exact (Below.refl _ w).alloc (Nat.le_refl _) _)
  clear hwa A0 s0
  obtain ⟨zs, hzs⟩ : ∃ z, w.heap.size = z := ⟨_, rfl⟩
  rw [hzs] at S1 ⊢
  clear hzs
  refine (made_is pa pl pc qa qw wa (HR.out.next B1.out)).mono ?_
  rintro e w2 ⟨g, c, d, rfl, k2⟩
  have WF := hide (words_made qa qw (min pl 80))
  obtain ⟨m, hm⟩ : ∃ m, madeTo qa qw (min pl 80) = m := ⟨_, rfl⟩
  rw [hm] at k2 WF
  clear hm
  have E2 := hide (show Env w zs (rowS pa pl pc ta tl tc ca cl cc ct mp X Y L Wd) g c d m w2 from ⟨S1.out.next k2.below, k2.2.1, k2.2.2.1, bnext B1.out k2.below⟩)
  clear k2 S1 B1 HR
  have N7 := hide (fun u : World => heap_alloc_new u (.cells (R15.rowG 0 fun _ => 0) 39))
  set_option maxRecDepth 20000 in
  go_wp2_with (first
    | (refine wpList_built rfl 39 #[] rfl #[] (by simp) (R15.rowG 0 fun _ => 0) run_regs0 ?_; simp only [Act.put, List.setIfInBounds_toArray, List.set_cons_succ, List.set_cons_zero])
    | (refine wpList_alloced rfl 39 rfl _ zero_regs ?_; simp only [Act.put, List.setIfInBounds_toArray, List.set_cons_succ, List.set_cons_zero])
    | (refine wpList_store_row rfl 39 (.tmp 7) (.tmp 24) rfl w2.heap.size _ rfl rfl 39 _ (N7.out w2) (R15.info_G _ _) rfl (R15.rowG_one _ _) ?_
       refine under_list fun w7 hw7 => ?_
       have n7 : Below w2.heap.size w2 w7 := by rw [hw7]; exact below_setRow ((Below.refl _ w2).alloc (Nat.le_refl _) _) (Nat.le_refl _) _
       have G7 := hide (show R15.HasG 39 w7 w2.heap.size 0 (fun _ => 0) by rw [hw7]; exact setRow_heap _ _ _ _ _ _ (N7.out w2))
       have E7 := hide (E2.out.next n7)
       have L7 := hide (show w.heap.size ≤ w2.heap.size from E2.out.below.size)
       clear hw7 N7 n7 E2))
  obtain ⟨zr, hzr⟩ : ∃ z, w2.heap.size = z := ⟨_, rfl⟩
  rw [hzr] at G7 L7 ⊢
  clear hzr
  have c5 : w7.cell? ⟨zr, 6, none⟩ = some (.int .i64 0) := G7.out.at 5 (by decide)
  have c9 : w7.cell? ⟨zr, 10, none⟩ = some (.int .i64 0) := G7.out.at 9 (by decide)
  have f5 := G7.out.frozen 6
  have f9 := G7.out.frozen 10
  have s3 := E7.out.1.c3
  have s4 := E7.out.1.c4
  have nz := types_apart E7.out.1 G7.out (by decide)
  simp only [Act.put]
  go_cut [27] from 25 to 34 (fun _ wx => R15.HasG 39 wx zr 0 (regF A M) ∧ Only zr w7 wx)
  case first =>
    go_region
    all_goals (go_wp2_with fail)
    all_goals go_meet
    all_goals exact ⟨(G7.out.set 5 A).set 9 M, ((only_setCell _ _ _ _).set _ _).drew'⟩
  obtain ⟨hg8, ho8⟩ := hcut
  have E8 := hide (E7.out.only G7.out (by decide) L7.out ho8)
  have G8 := hide hg8
  clear hg8 ho8 c5 c9 f5 f9 s3 s4 nz G7 E7 hA hM
  obtain ⟨T, hT⟩ : ∃ T, listT tl tz = T := ⟨_, rfl⟩
  have KT := hide (fun (u : World) (hu : Below wc.heap.size wc u) => table_is ta tl tc tz u (HT.out.next (bnext E8.out.below hu)))
  rw [hT] at KT
  clear hT HT
  have HMK := hide hN
  clear hN
  set_option maxRecDepth 20000 in
  go_wp2_with fail
  refine wp_region_facts_last [_, _, _, _, _, _, _, _, _, _, _, _, _, _, _] _ rfl (lwR w.heap.size zs g (regF A M) ta tl tc T X Y L N (K : Int)) _ (fun vals => by simp only [putAll, Act.put, List.setIfInBounds_toArray, List.set_cons_succ, List.set_cons_zero, Nat.reduceAdd]; rfl) (by kernel_rfl) (by kernel_rfl) (by kernel_rfl) (by kernel_rfl) lwR_next ?_ ?_
  · refine steps_cons (fun vals u hb hf => ?_) (steps_cons (fun vals u hb hf => ?_) (steps_cons (fun vals u hb hf => ?_) (steps_cons (fun vals u hb hf => ?_) (steps_cons (fun vals u hb hf => ?_) (steps_cons (fun vals u hb hf => ?_) (steps_cons (fun vals u hb hf => ?_) (steps_cons (fun vals u hb hf => ?_) (steps_cons (fun vals u hb hf => ?_) (steps_cons (fun vals u hb hf => ?_) (steps_cons (fun vals u hb hf => ?_) (steps_cons (fun vals u hb hf => ?_) (steps_cons (fun vals u hb hf => ?_) (steps_cons (fun vals u hb hf => ?_) (steps_cons (fun vals u hb hf => ?_) steps_nil))))))))))))))
    · go_wp2_with fail
      exact stepPost_mk _ rfl rfl (Below.refl _ _)
    · have GU := hide (G8.out.next hb)
      go_wp2_with (first | (refine wpList_load_row rfl 39 (.tmp 7) rfl zr rfl _ _ _ _ GU.out Tryd.underlying39 rfl (R15.info_G _ _) ?_))
      exact stepPost_mk _ rfl rfl (Below.refl _ _)
    · go_wp2_with fail
      exact stepPost_mk _ rfl rfl (Below.refl _ _)
    · obtain ⟨(h2 : vals 2 = .pointer (some ⟨zs, 1, none⟩)), _⟩ := hf
      simp only [h2]
      clear h2
      have s1 := (E8.out.next hb).1.c1
      go_wp2_with fail
      exact stepPost_mk _ rfl rfl (Below.refl _ _)
    · obtain ⟨(h3 : vals 3 = .slice ta tl tc), _⟩ := hf
      simp only [h3]
      clear h3
      go_wp2_with (first | (go_at_call 7; refine (KT.out u hb).mono ?_; rintro e u2 ⟨rfl, b2⟩))
      exact stepPost_mk _ rfl rfl b2
    · go_wp2_with fail
      exact stepPost_mk _ rfl rfl (Below.refl _ _)
    · obtain ⟨(h5 : vals 5 = .pointer (some ⟨zs, 5, none⟩)), _⟩ := hf
      simp only [h5]
      clear h5
      have s5 := (E8.out.next hb).1.c5
      go_wp2_with fail
      exact stepPost_mk _ rfl rfl (Below.refl _ _)
    · go_wp2_with fail
      exact stepPost_mk _ rfl rfl (Below.refl _ _)
    · obtain ⟨(h7 : vals 7 = .pointer (some ⟨zs, 6, none⟩)), _⟩ := hf
      simp only [h7]
      clear h7
      have s6 := (E8.out.next hb).1.c6
      go_wp2_with fail
      exact stepPost_mk _ rfl rfl (Below.refl _ _)
    · go_wp2_with fail
      exact stepPost_mk _ rfl rfl (Below.refl _ _)
    · obtain ⟨(h9 : vals 9 = .pointer (some ⟨zs, 7, none⟩)), _⟩ := hf
      simp only [h9]
      clear h9
      have s7 := (E8.out.next hb).1.c7
      go_wp2_with fail
      exact stepPost_mk _ rfl rfl (Below.refl _ _)
    · obtain ⟨(h10 : vals 10 = .int .i64 L), _⟩ := hf
      simp only [h10]
      clear h10
      have hN := HMK.out
      go_wp2_with fail
      exact stepPost_mk _ rfl rfl (Below.refl _ _)
    · go_wp2_with fail
      exact stepPost_mk _ rfl rfl (Below.refl _ _)
    · obtain ⟨(h0 : vals 0 = .pointer (some ⟨g, 0, none⟩)), (h1 : vals 1 = .agg (R15.rowG 0 (regF A M))), (h4 : vals 4 = .agg (tabL T).toArray), (h6 : vals 6 = .int .i64 X), (h8 : vals 8 = .int .i64 Y), (h11 : vals 11 = .int .i64 N), (h12 : vals 12 = .int .i64 (K : Int)), _⟩ := hf
      simp only [h0, h1, h4, h6, h8, h11, h12]
      clear h0 h1 h4 h6 h8 h11 h12
      refine wpList_built rfl 43 _ rfl #[(0, .pointer (some ⟨g, 0, none⟩)), (1, .agg (R15.rowG 0 (regF A M))), (2, .agg (tabL T).toArray), (4, .int .i64 X), (5, .int .i64 Y), (6, .int .i64 N), (7, .int .i64 (K : Int))] (by simp [Act.eval]) (inL [.pointer (some ⟨g, 0, none⟩)] (gL 0 (regF A M)) (tabL T) (vL 0 0 fun _ => 0) X Y N (K : Int)).toArray (run_input3 _ rfl _ _ _ _ _ _ _) ?_
      exact stepPost_mk _ rfl rfl (Below.refl _ _)
    · refine wpList_alloced rfl 43 rfl _ zero_input ?_
      exact stepPost_mk _ rfl ⟨_, rfl, heap_alloc_new _ _, Nat.le_trans E8.out.below.size hb.size⟩ ((Below.refl _ _).alloc (Nat.le_refl _) _)
  intro vals u hb hf
  obtain ⟨_, _, _, _, _, _, _, _, _, _, _, _, _, (h13 : vals 13 = .agg (inL [.pointer (some ⟨g, 0, none⟩)] (gL 0 (regF A M)) (tabL T) (vL 0 0 fun _ => 0) X Y N (K : Int)).toArray), ⟨zi, h14, iz, lz⟩, _⟩ := hf
  simp only [h13, h14]
  have E9 := hide (E8.out.next hb)
  have IZ := hide iz
  have LZ := hide lz
  clear h13 h14 iz lz hb E8 G8 KT HMK
  set_option maxRecDepth 20000 in
  go_wp2_with (first
    | (refine wpList_store_row rfl 43 (.tmp 8) (.tmp 48) rfl zi _ rfl rfl 43 _ IZ.out (info_in _ _ _ _ _ _ _ _ _ _ _) (in_size _ _ _ _ _ _ _ _ _ _ _) (in_one _ rfl _ _ _ _ _ _ _ _ _ _) ?_
       refine under_list fun w10 hw10 => ?_
       have J10 := hide (show HasIn w10 zi (.pointer (some ⟨g, 0, none⟩)) 0 (regF A M) T 0 0 (fun _ => 0) X Y N (K : Int) by rw [hw10]; exact setRow_heap _ _ _ _ _ _ IZ.out)
       have E10 := hide (show Env w zs (rowS pa pl pc ta tl tc ca cl cc ct mp X Y L Wd) g c d m w10 by rw [hw10]; exact E9.out.only IZ.out (by decide) LZ.out (only_setRow _ _ _))
       clear hw10))
  clear E9 IZ
  go_loopw [9] (fun si wr => ∃ k : Nat, k ≤ 512 ∧ si = .int .i64 (k : Int) ∧ HasIn wr zi (.pointer (some ⟨g, 0, none⟩)) 0 (regF A M) T 0 0 (sevTo k) X Y N (K : Int) ∧ Only zi w10 wr) (fun si _ => 512 - (intOf si).toNat)
  case atStart => exact ⟨0, Nat.zero_le _, rfl, J10.out, Only.refl _ _⟩
  case round =>
    obtain ⟨k, hk, rfl, hv, ho⟩ := hrel
    have JK := hide hv
    have OK := hide ho
    clear hv ho
    by_cases hlt : k < 512
    · obtain ⟨v, ck⟩ := JK.out.cell (o := 280 + k) (by omega)
      have zk := frozen_of_row wr zi (280 + k) _ _ JK.out
      set_option maxRecDepth 20000 in
      go_wp2_with fail
      go_roundw
      case rel =>
        refine ⟨k + 1, by omega, by go_num, ?_, OK.out.set _ _⟩
        have e := JK.out.setV k hlt ((k : Int) * 7)
        rw [show V12.upd (sevTo k) k ((k : Int) * 7) = sevTo (k + 1) by
          funext j
          unfold V12.upd sevTo
          by_cases e : j = k
          · rw [if_pos e, if_pos (by omega), e]
          · rw [if_neg e]
            by_cases q : j < k
            · rw [if_pos q, if_pos (by omega)]
            · rw [if_neg q, if_neg (by omega)]] at e
        exact e
      case measure => simp [intOf]; omega
    obtain rfl : k = 512 := by omega
    clear hlt hk
    have E11 := hide (E10.out.only J10.out (by decide) LZ.out OK.out)
    clear OK J10 E10
    have JT := JK
    set_option maxRecDepth 20000 in
    go_wp2_with (first | (refine wpList_load_row rfl 43 (.tmp 8) rfl zi rfl _ _ _ _ JK.out Tryd.underlying43 rfl (info_in _ _ _ _ _ _ _ _ _ _ _) ?_))
    obtain ⟨p, hp⟩ : ∃ p, R15.pairOf M 4 = p := ⟨_, rfl⟩
    obtain ⟨q, hq⟩ : ∃ q : Nat, bitOf M 6 = (q : Int) := ⟨(bitOf M 6).toNat, by have := bitOf_01 M 6; omega⟩
    obtain ⟨x7, h7⟩ : ∃ x, (bitOf A 7 == 1) = x := ⟨_, rfl⟩
    obtain ⟨x6, h6⟩ : ∃ x, (bitOf A 6 == 1) = x := ⟨_, rfl⟩
    have PQ := hide (show (R15.pairOf M 4 = p ∧ bitOf M 6 = (q : Int)) ∧ (bitOf A 7 == 1) = x7 ∧ (bitOf A 6 == 1) = x6 from ⟨⟨hp, hq⟩, h7, h6⟩)
    clear hp hq h7 h6
    refine (draw_is g m 0 0 1 0 0 wr E11.out.2.1 _ (gL 0 (regF A M)) (tabL T) (vL 0 0 (sevTo 512)) 0 (regF A M) T 0 0 (sevTo 512) X Y N (hide rfl) (hide rfl) (hide rfl) K (hide rfl) (hide (HH.out.next E11.out.below)) WF hK0 hK1 p q PQ.out.1.1 PQ.out.1.2 x7 x6 PQ.out.2.1 PQ.out.2.2).mono ?_
    rintro e w12 ⟨gc, _, rfl, r12, b12⟩
    have R12 := hide r12
    have J12 := hide (JK.out.next b12)
    have E12 := hide (E11.out.next b12)
    clear r12 b12 JK JT E11
    obtain ⟨ov, hov⟩ : ∃ v, overOf x6 (wordAt m) T N = v := ⟨_, rfl⟩
    obtain ⟨ht, hht⟩ : ∃ v, hitOf x6 (wordAt m) T N K = v := ⟨_, rfl⟩
    rw [hov, hht]
    clear hov hht
    have N12 := hide (fun u : World => heap_alloc_new u (.cells zeroI 43))
    have JA := hide (J12.out.next ((Below.refl _ w12).alloc (Nat.le_refl _) (.cells zeroI 43)))
    set_option maxRecDepth 20000 in
    go_wp2_with (first
      | (refine wpList_load_row rfl 43 (.tmp 8) rfl zi rfl _ _ _ _ J12.out Tryd.underlying43 rfl (info_in _ _ _ _ _ _ _ _ _ _ _) ?_)
      | (refine wpList_alloced rfl 43 rfl _ zero_input ?_; simp only [Act.put, List.setIfInBounds_toArray, List.set_cons_succ, List.set_cons_zero])
      | (refine wpList_store_row rfl 43 (.tmp 13) (.tmp 65) rfl w12.heap.size _ rfl rfl 43 _ (N12.out w12) (info_in _ _ _ _ _ _ _ _ _ _ _) (in_size _ _ _ _ _ _ _ _ _ _ _) (in_one _ rfl _ _ _ _ _ _ _ _ _ _) ?_
         refine under_list fun w13 hw13 => ?_
         have n13 : Below w12.heap.size w12 w13 := by rw [hw13]; exact below_setRow ((Below.refl _ w12).alloc (Nat.le_refl _) _) (Nat.le_refl _) _
         have N13 := hide n13
         have J13 := hide (show HasIn w13 w12.heap.size (.pointer (some ⟨g, 0, none⟩)) 0 (regF A M) T 0 0 (sevTo 512) X Y N (K : Int) by rw [hw13]; exact setRow_heap _ _ _ _ _ _ (N12.out w12))
         have U13 := hide (J13.out.setN 1)
         have z13 := frozen_of_row w13 w12.heap.size 795 _ _ J13.out
         have c13 : w13.cell? ⟨w12.heap.size, 795, none⟩ = some (.int .i64 (K : Int)) := J13.out.has.n
         clear hw13 n13)
      | (refine wpList_load_row rfl 43 (.tmp 13) rfl w12.heap.size rfl _ _ _ _ U13.out Tryd.underlying43 rfl (info_in _ _ _ _ _ _ _ _ _ _ _) ?_))
    refine under_calls fun w14 hw14 => ?_
    have LO := hide (show w.heap.size ≤ w12.heap.size from E12.out.below.size)
    have O14 := hide (show Only w12.heap.size w13 w14 by rw [hw14]; exact only_setCell _ _ _ _)
    have E14 := hide ((E12.out.next N13.out).only J13.out (by decide) LO.out O14.out)
    clear hw14 U13 z13 c13 N12 JA LO
    refine (draw_is g m 0 0 1 0 0 w14 E14.out.2.1 _ (gL 0 (regF A M)) (tabL T) (vL 0 0 (sevTo 512)) 0 (regF A M) T 0 0 (sevTo 512) X Y N (hide rfl) (hide rfl) (hide rfl) 1 (hide rfl) (hide (HH.out.next E14.out.below)) WF (by omega) (by omega) p q PQ.out.1.1 PQ.out.1.2 x7 x6 PQ.out.2.1 PQ.out.2.2).mono ?_
    rintro e w15 ⟨gf, _, rfl, r15, b15⟩
    have B15 := hide (bnext E14.out.below b15)
    obtain ⟨ov1, hov1⟩ : ∃ v, overOf x6 (wordAt m) T N = v := ⟨_, rfl⟩
    obtain ⟨ht1, hht1⟩ : ∃ v, hitOf x6 (wordAt m) T N 1 = v := ⟨_, rfl⟩
    rw [hov1, hht1]
    clear hov1 hht1
    have R14 := hide (show RowN w14 gc K _ from O14.out.obj (R12.out.next N13.out) (types_apart (R12.out.next N13.out) J13.out (by decide)))
    have RC := hide (R14.out.next b15)
    have F15 := hide (show RowN w15 gf 1 (fun j => shownC (sevTo 512) 0 (numOf x7 x6 (wordAt m) (R15.wideOf p) (R15.highOf2 q) X Y T N K j)) from r15.ext fun j hj => by rw [num_same x7 x6 (wordAt m) (R15.wideOf p) (R15.highOf2 q) X Y T N (show j < 1 from hj) (show j < K by omega)])
    clear r15 b15 E14 O14 N13 J13 J12 E12 R14 R12
    have hd1 : decide ((K : Int) < 1) = false := decide_eq_false (by omega)
    have hd2 : decide ((512 : Int) < K) = false := decide_eq_false (by omega)
    have HCF := hide (show ∀ j, 0 ≤ shownC (sevTo 512) 0 (numOf x7 x6 (wordAt m) (R15.wideOf p) (R15.highOf2 q) X Y T N K j) ∧ shownC (sevTo 512) 0 (numOf x7 x6 (wordAt m) (R15.wideOf p) (R15.highOf2 q) X Y T N K j) ≤ 511 from fun j => shown_le _ _ _)
    obtain ⟨CF, hCF⟩ : ∃ CF : Nat → Int, (fun j => shownC (sevTo 512) 0 (numOf x7 x6 (wordAt m) (R15.wideOf p) (R15.highOf2 q) X Y T N K j)) = CF := ⟨_, rfl⟩
    have HCG := hide (show ∀ j, 0 ≤ CF j ∧ CF j ≤ 511 from fun j => by rw [← hCF]; exact HCF.out j)
    rw [hCF] at RC F15
    clear hCF HCF
    set_option maxRecDepth 20000 in
    go_wp2_with fail
    go_loopw [17] (fun si wr => ∃ k : Nat, k ≤ K ∧ si = .int .i64 (k : Int) ∧ wr = w15) (fun si _ => K - (intOf si).toNat)
    case atStart => exact ⟨0, Nat.zero_le _, rfl, rfl⟩
    case round =>
      obtain ⟨k, hk, rfl, hw⟩ := hrel
      subst hw
      by_cases hlt : k < K
      · have ck := RC.out.at k hlt
        have b0 := (HCG.out k).1
        have b1 := (HCG.out k).2
        obtain ⟨x, hx⟩ : ∃ x, CF k = x := ⟨_, rfl⟩
        rw [hx] at ck b0 b1
        clear hx
        have d1 : decide (x < 0) = false := decide_eq_false (by omega)
        have d2 : decide (511 < x) = false := decide_eq_false (by omega)
        set_option maxRecDepth 20000 in
        go_wp2_with fail
        go_roundw
        case rel => exact ⟨k + 1, by omega, by go_num, by trivial⟩
        case measure => simp [intOf]; omega
      · obtain rfl : k = K := by omega
        have c0 := RC.out.at 0 (by omega)
        have f0 := F15.out.at 0 (by omega)
        generalize CF 0 = x at *
        set_option maxRecDepth 20000 in
        go_wp2_with fail
        go_quiet (fail)
        set_option maxRecDepth 20000 in
        go_wp2_with fail
        go_ret
        exact ⟨rfl, bnext B15.out (below_drew (Below.refl _ _) _)⟩
theorem lineWide_walk (pa : Option Addr) (pl pc : Nat) (ta : Option Addr) (tl tc : Nat) (tz : List Int) (ca : Option Addr) (cl cc : Nat) (cz : List Int) (ct mp X Y L Wd : Int) (wide : Int) (w : World) (w0 : IsStructs [some .i64, some .i64] w pa pl pc) (w1 : IsRow .i64 w ta tl tc tz) (w2 : IsRow .i64 w ca cl cc cz)
    (w3 : (Lit.int .i64 ct).wf = true) (w4 : (Lit.int .i64 mp).wf = true) (w5 : (Lit.int .i64 X).wf = true) (w6 : (Lit.int .i64 Y).wf = true) (w7 : (Lit.int .i64 L).wf = true) (w8 : (Lit.int .i64 Wd).wf = true) (w9 : (Lit.int .i64 wide).wf = true) (hL : HasHigh w) :
    Calls Tryd.prog 5 #[.agg #[.slice pa pl pc, .slice ta tl tc, .slice ca cl cc, .int .i64 ct, .int .i64 mp, .int .i64 X, .int .i64 Y, .int .i64 L, .int .i64 Wd], .int .i64 wide] w fun e w' => e = .returned (.bool true) ∧ Below w.heap.size w w' := by
  obtain ⟨qa, qw, hR⟩ := pokes_in w0
  by_cases hn : wide < 1 ∨ 512 < wide
  · exact lw_out pa pl pc ta tl tc ca cl cc ct mp X Y L Wd tz qa qw w (hide hR) (hide w1) (hide hL) _ rfl _ rfl _ rfl wide (hide hn)
  · obtain ⟨K, rfl⟩ : ∃ K : Nat, wide = (K : Int) := ⟨wide.toNat, by omega⟩
    exact lw_in pa pl pc ta tl tc ca cl cc ct mp X Y L Wd tz qa qw w (hide hR) (hide w1) (hide hL) _ rfl _ rfl _ rfl K (by omega) (by omega)
set_option maxRecDepth 100000 in
theorem lineWide_lifted (os : Os) (started : os.Started) (H : Type) (enc : TypeId × Value → H) :
    ReturnsInHanded {} Tryd.checked os 5 .any (fun w args => (Rows.lineWideSpec.pre enc Tryd.prog Tryd.f5 [] false w args ∧ laidMetH Tryd.prog laidHigh w) ∧ sizedMet enc Tryd.prog Tryd.f5 (OpenSpec.ofChange Rows.lineWideSpec) false w args)
      (Rows.lineWideSpec.post enc Tryd.prog Tryd.f5 false true false false) := by
  refine returnsInHanded_of_change_and (C := Tryd.checked) (X := fun w _ => laidMetH Tryd.prog laidHigh w) (fun _ _ _ hh h => h.of_heap hh) own started (by kernel_rfl) Tryd.func5
    (ChangeSpec.witness_at (enc := enc) (C := Tryd.checked) (os := os) (X := fun w _ => laidMetH Tryd.prog laidHigh w) false (laidWorld os) #[.agg #[.slice none 0 0, .slice none 0 0, .slice none 0 0, .int .i64 0, .int .i64 0, .int .i64 0, .int .i64 0, .int .i64 0, .int .i64 0], .int .i64 0] 8 rfl (by kernel_rfl) (by kernel_rfl) (by kernel_rfl) (by kernel_rfl) (by kernel_rfl) (laidWorld_high os _)) ?_
  intro W base args ds gs before hval0 hW _ _ hL _
  have hval : ∀ (j : Nat) t v, Tryd.f5.params[j]? = some t → args[j]? = some v → Value.okWide Tryd.prog W .any base t v := hval0
  have hW' := hW
  obtain ⟨p, q, hA0, hV, rfl, hfz, hnd⟩ := hW
  have hA : DataW.TrodAll enc Tryd.prog W 0 (fun _ => true) true Tryd.f5.params.toList args.toList ds p := hA0
  rw [Tryd.params5] at hA hval
  obtain ⟨v0, vs0, d0, ds0, p0, q0, hargs, rfl, rfl, h0, r0⟩ := trodAll_cons hA
  obtain ⟨v1, vs1, d1, ds1, p1, q1, rfl, rfl, rfl, h1, r1⟩ := trodAll_cons r0
  obtain ⟨rfl, rfl, rfl⟩ := trodAll_nil r1
  obtain rfl : args = #[v0, v1] := by cases args; simp_all
  obtain ⟨rfl, rfl⟩ := trodVars_none hV
  have k0 := h0
  have lt0 : ∀ x ∈ p0, x.block < W.heap.size := by obtain ⟨m, hm⟩ := k0; exact DataW.trod_lt m _ _ _ hm
  obtain ⟨cs0, fu0, rfl, sz0, hf0⟩ := open_struct_cells (n := 9) Tryd.underlying25 (by kernel_rfl) (hval 0 25 v0 rfl rfl) h0
  obtain ⟨y0f0, hy0f0⟩ := hf0 0 _ rfl
  obtain ⟨a0f0, l0f0, c0f0, g0f0, w0f0⟩ := open_field_structs (ks := [some .i64, some .i64]) Tryd.underlying22 Tryd.underlying67 (by kernel_rfl) (fun j k hk => by
    rcases j with _ | _ | j
    · cases hk; exact ⟨_, rfl, rfl, by kernel_rfl, Tryd.underlying3⟩
    · cases hk; exact ⟨_, rfl, rfl, by kernel_rfl, Tryd.underlying3⟩
    · simp at hk) hy0f0
  have e0f0 := cell_at (by kernel_rfl) g0f0
  obtain ⟨y0f1, hy0f1⟩ := hf0 1 _ rfl
  obtain ⟨a0f1, l0f1, c0f1, z0f1, g0f1, w0f1⟩ := open_field_ints Tryd.underlying23 Tryd.underlying3 (by kernel_rfl) hy0f1
  have e0f1 := cell_at (by kernel_rfl) g0f1
  obtain ⟨y0f2, hy0f2⟩ := hf0 2 _ rfl
  obtain ⟨a0f2, l0f2, c0f2, z0f2, g0f2, w0f2⟩ := open_field_ints Tryd.underlying23 Tryd.underlying3 (by kernel_rfl) hy0f2
  have e0f2 := cell_at (by kernel_rfl) g0f2
  obtain ⟨y0f3, hy0f3⟩ := hf0 3 _ rfl
  obtain ⟨a0f3, g0f3, _, w0f3⟩ := DataW.trod_int Tryd.underlying3 hy0f3
  have e0f3 := cell_at (by kernel_rfl) g0f3
  obtain ⟨y0f4, hy0f4⟩ := hf0 4 _ rfl
  obtain ⟨a0f4, g0f4, _, w0f4⟩ := DataW.trod_int Tryd.underlying3 hy0f4
  have e0f4 := cell_at (by kernel_rfl) g0f4
  obtain ⟨y0f5, hy0f5⟩ := hf0 5 _ rfl
  obtain ⟨a0f5, g0f5, _, w0f5⟩ := DataW.trod_int Tryd.underlying3 hy0f5
  have e0f5 := cell_at (by kernel_rfl) g0f5
  obtain ⟨y0f6, hy0f6⟩ := hf0 6 _ rfl
  obtain ⟨a0f6, g0f6, _, w0f6⟩ := DataW.trod_int Tryd.underlying3 hy0f6
  have e0f6 := cell_at (by kernel_rfl) g0f6
  obtain ⟨y0f7, hy0f7⟩ := hf0 7 _ rfl
  obtain ⟨a0f7, g0f7, _, w0f7⟩ := DataW.trod_int Tryd.underlying3 hy0f7
  have e0f7 := cell_at (by kernel_rfl) g0f7
  obtain ⟨y0f8, hy0f8⟩ := hf0 8 _ rfl
  obtain ⟨a0f8, g0f8, _, w0f8⟩ := DataW.trod_int Tryd.underlying3 hy0f8
  have e0f8 := cell_at (by kernel_rfl) g0f8
  obtain rfl : cs0 = #[.slice a0f0 l0f0 c0f0, .slice a0f1 l0f1 c0f1, .slice a0f2 l0f2 c0f2, .int .i64 a0f3, .int .i64 a0f4, .int .i64 a0f5, .int .i64 a0f6, .int .i64 a0f7, .int .i64 a0f8] := cells_are [.slice a0f0 l0f0 c0f0, .slice a0f1 l0f1 c0f1, .slice a0f2 l0f2 c0f2, .int .i64 a0f3, .int .i64 a0f4, .int .i64 a0f5, .int .i64 a0f6, .int .i64 a0f7, .int .i64 a0f8] sz0 (fun j hj => by
    rcases j with _ | _ | _ | _ | _ | _ | _ | _ | _ | j
    · exact e0f0
    · exact e0f1
    · exact e0f2
    · exact e0f3
    · exact e0f4
    · exact e0f5
    · exact e0f6
    · exact e0f7
    · exact e0f8
    · exact absurd hj (by simp only [List.length_cons, List.length_nil]; omega))
  clear hy0f0 g0f0 e0f0 hy0f1 g0f1 e0f1 hy0f2 g0f2 e0f2 hy0f3 g0f3 e0f3 hy0f4 g0f4 e0f4 hy0f5 g0f5 e0f5 hy0f6 g0f6 e0f6 hy0f7 g0f7 e0f7 hy0f8 g0f8 e0f8 sz0 hf0
  obtain ⟨a1, rfl, rfl, rfl, w1⟩ := open_int Tryd.underlying3 (hval 1 3 v1 rfl rfl) h1
  clear hA0 hval0
  refine (lineWide_walk a0f0 l0f0 c0f0 a0f1 l0f1 c0f1 z0f1 a0f2 l0f2 c0f2 z0f2 a0f3 a0f4 a0f5 a0f6 a0f7 a0f8 a1 W w0f0 w0f1 w0f2 w0f3 w0f4 w0f5 w0f6 w0f7 w0f8 w1 (laid_high hL)).mono fun e W' ⟨he, bel⟩ => ?_
  subst he
  exact ⟨_, rfl, _, _, _, [], _, [], hW', trodAll_mk1 (shut_bool Tryd.underlying4 _), (trodAll_cons_mk (Below.trod laidOut (by kernel_rfl) (of_decide_eq_true (by kernel_rfl)) k0 bel lt0) (trodAll_cons_mk (shut_int Tryd.underlying3 w1) trodAll_mk0)), rfl, bel.frame _, fun h => by cases h⟩

theorem lineWide_over : Rows.lineWideRow.holds Tryd.pinned (OpenSpec.ofChange Rows.lineWideSpec) :=
  OpenClaim.holds_of_wide 5 Tryd.f5 rfl rfl rfl rfl rfl rfl rfl ⟨rfl, rfl, rfl, rfl, rfl⟩ rfl rfl rfl rfl rfl (by kernel_rfl) Tryd.func5 (by kernel_rfl)
    (of_decide_eq_true (by kernel_rfl)) (by unfold Func.isWrapper; first | (rw [if_pos (by decide +kernel)]; kernel_rfl) | (rw [if_neg (by decide +kernel)]; exact ⟨rfl, rfl⟩))
    (fun os started H enc _ => lineWide_lifted os started H enc)

theorem lineWide_row : Rows.LineWideSaid := lineWide_over

theorem lineWide_holds : Rows.LineWideCardSaid :=
  Claim7.holds_tied_plain_at .later [] [.data] true (true, "455e56977c035b47274077aa74f753e05550de80d597e40b46e3a249bcdfd607") false
    lineWide_row (fun _ h => by cases h) (by kernel_rfl) (fun _ h => by cases h) lineWide_row_tie rfl ⟨rfl, rfl⟩ (by kernel_rfl) rfl
    (fun f fn hf hfn => by
      obtain rfl : f = 5 := Option.some.inj ((show Tryd.prog.funcNamed "phosphor/phosphorlaw19.LineWide" = some 5 by kernel_rfl).symm.trans hf) |>.symm
      obtain rfl : fn = Tryd.f5 := (Option.some.inj (Tryd.func5.symm.trans hfn)).symm
      exact ⟨by kernel_rfl, fun j t ht => by
        rw [Tryd.params5] at ht
        rcases j with _ | _ | j
        · obtain rfl : t = 25 := by simpa using ht.symm
          exact (show Tryd.prog.wantsStandIn 25 = false by kernel_rfl)
        · obtain rfl : t = 3 := by simpa using ht.symm
          exact (show Tryd.prog.wantsStandIn 3 = false by kernel_rfl)
        · simp at ht⟩)
    (by kernel_rfl)
#print axioms lineWide_holds
end Go.Proofs.YtnhjhmfiapjenaaDoor
