/- Texts put together. -/
import Derived.Test.YtoijhhbiknhlnaaGreatDoorCpuMovesJ40
import Derived.Test.YtoijhhbiknhlnaaGreatDoorCpuMovesJ01
namespace Go.Proofs.YtoijhhbiknhlnaaGreatDoor.L25
set_option maxRecDepth 20000
open A2 B4 C3 G6 I11 J23 K9 L24 M5 N8 O7 P22 R15 T10 V12 W13
open Go.RowKit
set_option linter.unusedVariables false
def Boxes (s b v g1 g2 : Nat) (nn : ByteArray) (w : World) : Prop := (∃ t1 f1, w.heap[g1]? = some (.cells #[.pointer (some ⟨s, 0, none⟩)] t1 f1)) ∧ (∃ t2 f2, w.heap[g2]? = some (.cells #[.string nn] t2 f2)) ∧ ¬ EQ s b v g1 ∧ ¬ EQ s b v g2
theorem Boxes.one {s b v g1 g2 : Nat} {nn : ByteArray} {w : World} (h : Boxes s b v g1 g2 nn w) : w.cell? ⟨g1, 0, none⟩ = some (.pointer (some ⟨s, 0, none⟩)) := by
  obtain ⟨⟨t1, f1, e1⟩, _⟩ := h
  exact (cell_of_row w g1 0 _ _ _ e1).trans rfl
theorem Boxes.two {s b v g1 g2 : Nat} {nn : ByteArray} {w : World} (h : Boxes s b v g1 g2 nn w) : w.cell? ⟨g2, 0, none⟩ = some (.string nn) := by
  obtain ⟨_, ⟨t2, f2, e2⟩, _⟩ := h
  exact (cell_of_row w g2 0 _ _ _ e2).trans rfl
end Go.Proofs.YtoijhhbiknhlnaaGreatDoor.L25
namespace Go.Proofs.YtoijhhbiknhlnaaGreatDoor.L25
set_option maxRecDepth 20000
open A2 B4 C3 G6 I11 J23 K9 L24 M5 N8 O7 P22 R15 T10 V12 W13
open Go.RowKit
set_option linter.unusedVariables false
def stA (k i a : Int) : Int := goOf a (if k = 1 then -(i % 65536) else if k = 4 then i % 2 else i % 65536)
def stB (k i a : Int) : Int := goOf a (if k = 1 then -(i % 65536) else if k = 2 then 0 else if k = 3 then i % 2 else i % 65536)
theorem bstep_is (k i a e : Int) (k0 : 0 ≤ k) (k4 : k ≤ 4) (w : World) (hP : HasPaths w) : Calls Tryz.prog 112 #[.int .i64 k, .int .i64 i, .agg #[.int .i64 a, .int .i64 e]] w fun r w' => r = .returned (.tuple #[.int .i64 (stA k i a), .int .i64 (stB k i e)]) ∧ Below w.heap.size w w' := by
  rcases (show k = 0 ∨ k = 1 ∨ k = 2 ∨ k = 3 ∨ k = 4 by omega) with rfl | rfl | rfl | rfl | rfl
  · exact step_0 i a e w hP
  · exact step_1 i a e w hP
  · exact step_2 i a e w hP
  · exact step_3 i a e w hP
  · exact step_4 i a e w hP
def trN (bs : List Int) (k fr tu : Int) (Z : Nat → Nat → Int) : Nat → Nat → Nat → Int
  | 0 => Z
  | n + 1 => cyc (wS (rS (trN bs k fr tu Z n) (stA k n fr)) (stB k n tu) (rV bs (trN bs k fr tu Z n) (stA k n fr))) 6
def trS (bs : List Int) (k : Int) (B : Nat → Int) (Z : Nat → Nat → Int) : Nat → Nat → Int := trN bs k (jn (B 0) (B 1)) (jn (B 2) (B 3)) Z (countOf (jn (B 4) (B 5))).toNat
theorem paths_of {w : World} {s b v c d : Nat} {bs : List Int} {nm : ByteArray} {I B : Nat → Int} {t : Bool} {Z : Nat → Nat → Int} (h : HasQ w s b v c d bs nm I B t Z) : HasPaths w := h.2.2.1.2.1
theorem kinds_of {w : World} {s b v c d : Nat} {bs : List Int} {nm : ByteArray} {I B : Nat → Int} {t : Bool} {Z : Nat → Nat → Int} (h : HasQ w s b v c d bs nm I B t Z) : HasKinds w := h.2.2.1.2.2.1
set_option maxHeartbeats 4000000 in
theorem transfer_is {w : World} {s b v c d : Nat} {bs : List Int} {nm : ByteArray} {I B : Nat → Int} {t : Bool} {Z : Nat → Nat → Int} (h : HasQ w s b v c d bs nm I B t Z) (nn : ByteArray) (k : Int) (k0 : 0 ≤ k) (k4 : k ≤ 4) (KK : ∀ w, HasKinds w → Calls Tryz.prog 110 #[.string nn] w fun e w' => e = Ending.returned (.tuple #[.int .i64 k, .bool true]) ∧ w' = w) : Calls Tryz.prog 63 #[.pointer (some ⟨s, 0, none⟩), .string nn] w fun e w' => e = Ending.returned (.tuple #[]) ∧ HasQ w' s b v c d bs nm I B t (trS bs k B Z) ∧ OnlyE (EQ s b v) w w' := by
  have HE := hide h
  have HF := hide h.1
  have SEG := hide (seg_beh b nm I B t Z)
  have HL := hide h.lt
  have HLB := hide h.2.1.1.lt
  have HLV := hide (lt_of_block h.2.1.2.1)
  replace KK := hide KK
  unfold trS
  have CI := hide (countOf_le (jn (B 4) (B 5)))
  have J0 := hide (fun w => join_any (B 0) (B 1) w)
  have J2 := hide (fun w => join_any (B 2) (B 3) w)
  have J4 := hide (fun w => join_any (B 4) (B 5) w)
  have KC := hide (fun w => count_any (jn (B 4) (B 5)) w)
  rw [show B 0 % 256 + 256 * (B 1 % 256) = jn (B 0) (B 1) from rfl] at J0
  rw [show B 2 % 256 + 256 * (B 3 % 256) = jn (B 2) (B 3) from rfl] at J2
  rw [show B 4 % 256 + 256 * (B 5 % 256) = jn (B 4) (B 5) from rfl] at J4
  generalize jn (B 0) (B 1) = fr at *
  generalize jn (B 2) (B 3) = tu at *
  generalize jn (B 4) (B 5) = ln at *
  generalize countOf ln = cn at *
  have KS := hide (fun (i : Int) (w : World) (hP : HasPaths w) => bstep_is k i fr tu k0 k4 w hP)
  clear h k0 k4
  go_enter Tryz.func63, Tryz.ntmps63
  go_upto_region 1 with (first
    | (refine wpList_load_part rfl 83 (.tmp 13) rfl s 14 rfl HF.out 6 (by decide) (iv B) SEG.out _ Tryz.underlying83 rfl (by kernel_rfl) ?_; rw [show rowF (iv B) 6 = #[.int .i64 (B 0), .int .i64 (B 1), .int .i64 (B 2), .int .i64 (B 3), .int .i64 (B 4), .int .i64 (B 5)] from rfl]))
  refine under_name fun wa hwa => ?_
  have GA : Hid (wa.heap[w.heap.size]? = some (.cells #[.int .i64 (B 0), .int .i64 (B 1), .int .i64 (B 2), .int .i64 (B 3), .int .i64 (B 4), .int .i64 (B 5)] 83 (0, 0))) := hide (by rw [hwa]; exact heap_alloc_new _ _)
  have BA : Hid (Below w.heap.size w wa) := hide (by rw [hwa]; exact (Below.refl _ w).alloc (Nat.le_refl _) _)
  have HA := hide (HE.out.next BA.out)
  have OA := hide (eq_of (s := s) (b := b) (v := v) BA.out)
  clear hwa HE HF SEG
  generalize hg0 : w.heap.size = g at *
  have KK1 := hide (KK.out wa (kinds_of HA.out))
  go_upto_region 2 with (first | (go_at_call 110; refine KK1.out.mono ?_; rintro e w' ⟨rfl, hw⟩; subst w'))
  clear KK KK1
  refine wp_region_one _ _ _ (show _ = ([_, _, _, _, _, _, _, _, _, _, _] ++ [_]) ++ [_] from rfl) #[.int .i64 0, .int .i64 0] 157 61 7 (by kernel_rfl) (by kernel_rfl) (by kernel_rfl) (by kernel_rfl) rfl ?_ ?_
  · intro a w
    set_option maxRecDepth 100000 in
    rfl
  apply Exists.intro
  refine ⟨fun V hV => ?_, ?_⟩
  · have gl := lt_of_block GA.out
    have GV := (hV.block _ gl).trans GA.out
    have gv := lt_of_block GV
    have i0 := kept_cell (v := .int .i64 (B 0)) ((cell_of_row V _ 0 _ _ _ GV).trans rfl) gv
    have i1 := kept_cell (v := .int .i64 (B 1)) ((cell_of_row V _ 1 _ _ _ GV).trans rfl) gv
    have i2 := kept_cell (v := .int .i64 (B 2)) ((cell_of_row V _ 2 _ _ _ GV).trans rfl) gv
    have i3 := kept_cell (v := .int .i64 (B 3)) ((cell_of_row V _ 3 _ _ _ GV).trans rfl) gv
    clear hV GV gv gl
    haveI := kept_some V
    repeat (go_big_quiet_step ((first
      | (go_at_call_of 90 (Value.int .i64 (B 0)); exact kept_call (J0.out _))
      | (go_at_call_of 90 (Value.int .i64 (B 2)); exact kept_call (J2.out _)))))
    refine wpQuiet_nil ?_
    rfl
  intro g3 wx bx hg lg
  have G1 := hide (show (wx.setRow g3 #[.int .i64 fr, .int .i64 tu]).heap[g3]? = some (.cells #[.int .i64 fr, .int .i64 tu] 157 (0, 0)) from setRow_heap _ _ _ _ _ _ hg)
  have hne : g ≠ g3 := by have := lt_of_block GA.out; omega
  have GB := hide (show (wx.setRow g3 #[.int .i64 fr, .int .i64 tu]).heap[g]? = some (.cells #[.int .i64 (B 0), .int .i64 (B 1), .int .i64 (B 2), .int .i64 (B 3), .int .i64 (B 4), .int .i64 (B 5)] 83 (0, 0)) from (setRow_other _ _ _ _ hne).trans ((bx.block g (lt_of_block GA.out)).trans GA.out))
  have B1 := hide (below_setRow (bnext (Below.refl _ wa) bx) lg #[.int .i64 fr, .int .i64 tu])
  have G0 := hide hg
  have NE : Hid (¬ EQ s b v g ∧ ¬ EQ s b v g3) := hide (by
    have := HL.out; have := HLB.out; have := HLV.out; have := lt_of_block GA.out
    exact ⟨fun e => by rcases e with e | e | e <;> omega, fun e => by rcases e with e | e | e <;> omega⟩)
  clear bx hg lg hne GA
  simp only [Act.put, List.setIfInBounds_toArray, List.set_cons_succ, List.set_cons_zero]
  refine wpList_store_row rfl 157 (.tmp 7) (.tmp 30) rfl g3 _ rfl rfl 157 _ G0.out (by kernel_rfl) rfl (by kernel_rfl) ?_
  refine under_list fun wb hwb => ?_
  rw [← hwb] at G1 GB B1
  clear hwb G0
  simp only [Act.put]
  have HB := hide (HA.out.next B1.out)
  have OB := hide (OA.out.trans (eq_of B1.out))
  have c4 : wb.cell? ⟨g, 4, none⟩ = some (.int .i64 (B 4)) := (cell_of_row wb g 4 _ _ _ GB.out).trans rfl
  have c5 : wb.cell? ⟨g, 5, none⟩ = some (.int .i64 (B 5)) := (cell_of_row wb g 5 _ _ _ GB.out).trans rfl
  have ci := CI.out
  clear HA OA B1
  go_wp2_with (first
    | (go_at_call 90; refine (J4.out _).mono ?_; rintro e wj ⟨rfl, bj⟩; have HJ := hide (HB.out.next bj); have OJ := hide (OB.out.trans (eq_of bj)); have GJ := hide (obj_next G1.out bj); clear bj HB OB GB G1 c4 c5)
    | (go_at_call 111; refine (KC.out _).mono ?_; rintro e w' ⟨rfl, hw⟩; subst w'))
  clear J0 J2 J4 KC
  go_loopw [37] (fun si wr => ∃ n : Nat, (n : Int) ≤ cn ∧ si = .int .i64 (n : Int) ∧ HasQ wr s b v c d bs nm I B t (trN bs k fr tu Z n) ∧ OnlyE (EQ s b v) w wr ∧ wr.heap[g3]? = some (.cells #[.int .i64 fr, .int .i64 tu] 157 (0, 0))) (fun si _ => cn.toNat - (intOf si).toNat)
  case atStart => exact ⟨0, by omega, rfl, HJ.out, OJ.out, GJ.out⟩
  case round =>
    clear HJ OJ GJ
    obtain ⟨n, hn, rfl, hr, or, gr⟩ := hrel
    have HR := hide hr
    have OR := hide or
    have GR := hide gr
    clear hr or gr
    by_cases hlt : (n : Int) < cn
    · set_option maxRecDepth 20000 in
      go_wp2_with (first
        | (refine wpList_load_row rfl 157 (.tmp 7) rfl g3 rfl _ _ _ _ GR.out Tryz.underlying157 rfl (by kernel_rfl) ?_)
        | (go_at_call 112; refine (KS.out (n : Int) _ (paths_of HR.out)).mono ?_; rintro e ws ⟨rfl, bq⟩; have HS := hide (HR.out.next bq); have OS := hide (OR.out.trans (eq_of bq)); have GS := hide (obj_next GR.out bq); clear bq HR OR GR)
        | fail)
      refine (read_is HS.out (stA k n fr)).mono ?_
      rintro e w1 ⟨rfl, h1, o1⟩
      have H1 := hide h1
      have O1 := hide (OS.out.trans o1)
      have G1 := hide (o1.obj GS.out NE.out.2)
      clear h1 o1 HS OS GS
      go_wp2_with fail
      refine (write_is H1.out (stB k n tu) _).mono ?_
      rintro e w2 ⟨rfl, h2, o2⟩
      have c9 := h2.cycs
      have z9 := h2.frz 9
      have H2 := hide (h2.putC (wrap64 (wS (rS (trN bs k fr tu Z n) (stA k n fr)) (stB k n tu) (rV bs (trN bs k fr tu Z n) (stA k n fr)) 23 0 + 6)))
      have o3 := eq_set o2 9 (.int .i64 (wrap64 (wS (rS (trN bs k fr tu Z n) (stA k n fr)) (stB k n tu) (rV bs (trN bs k fr tu Z n) (stA k n fr)) 23 0 + 6)))
      have O2 := hide (O1.out.trans o3)
      have G2 := hide (o3.obj G1.out NE.out.2)
      clear h2 o2 o3 H1 O1 G1
      go_wp2_with fail
      exact ⟨⟨n + 1, by omega, by go_num, H2.out, O2.out, G2.out⟩, by simp [intOf]; omega⟩
    · have hN : n = cn.toNat := by omega
      have hr := HR.out
      rw [hN] at hr
      have HN := hide hr
      clear hr HR hN
      go_wp2_with fail
      refine bodyPost_end (P := Tryz.prog) (fn := Tryz.f63) (results_none rfl _ _ _) (by rfl) ?_
      exact ⟨rfl, HN.out, OR.out⟩
end Go.Proofs.YtoijhhbiknhlnaaGreatDoor.L25
namespace Go.Proofs.YtoijhhbiknhlnaaGreatDoor.L25
set_option maxRecDepth 20000
open A2 B4 C3 G6 I11 J23 K9 L24 M5 N8 O7 P22 R15 T10 V12 W13
open Go.RowKit
set_option linter.unusedVariables false
theorem frame_259 (g : Nat → Value) : ((List.range 259).map g).toArray = #[g 0, g 1, g 2, g 3, g 4, g 5, g 6, g 7, g 8, g 9, g 10, g 11, g 12, g 13, g 14, g 15, g 16, g 17, g 18, g 19, g 20, g 21, g 22, g 23, g 24, g 25, g 26, g 27, g 28, g 29, g 30, g 31, g 32, g 33, g 34, g 35, g 36, g 37, g 38, g 39, g 40, g 41, g 42, g 43, g 44, g 45, g 46, g 47, g 48, g 49, g 50, g 51, g 52, g 53, g 54, g 55, g 56, g 57, g 58, g 59, g 60, g 61, g 62, g 63, g 64, g 65, g 66, g 67, g 68, g 69, g 70, g 71, g 72, g 73, g 74, g 75, g 76, g 77, g 78, g 79, g 80, g 81, g 82, g 83, g 84, g 85, g 86, g 87, g 88, g 89, g 90, g 91, g 92, g 93, g 94, g 95, g 96, g 97, g 98, g 99, g 100, g 101, g 102, g 103, g 104, g 105, g 106, g 107, g 108, g 109, g 110, g 111, g 112, g 113, g 114, g 115, g 116, g 117, g 118, g 119, g 120, g 121, g 122, g 123, g 124, g 125, g 126, g 127, g 128, g 129, g 130, g 131, g 132, g 133, g 134, g 135, g 136, g 137, g 138, g 139, g 140, g 141, g 142, g 143, g 144, g 145, g 146, g 147, g 148, g 149, g 150, g 151, g 152, g 153, g 154, g 155, g 156, g 157, g 158, g 159, g 160, g 161, g 162, g 163, g 164, g 165, g 166, g 167, g 168, g 169, g 170, g 171, g 172, g 173, g 174, g 175, g 176, g 177, g 178, g 179, g 180, g 181, g 182, g 183, g 184, g 185, g 186, g 187, g 188, g 189, g 190, g 191, g 192, g 193, g 194, g 195, g 196, g 197, g 198, g 199, g 200, g 201, g 202, g 203, g 204, g 205, g 206, g 207, g 208, g 209, g 210, g 211, g 212, g 213, g 214, g 215, g 216, g 217, g 218, g 219, g 220, g 221, g 222, g 223, g 224, g 225, g 226, g 227, g 228, g 229, g 230, g 231, g 232, g 233, g 234, g 235, g 236, g 237, g 238, g 239, g 240, g 241, g 242, g 243, g 244, g 245, g 246, g 247, g 248, g 249, g 250, g 251, g 252, g 253, g 254, g 255, g 256, g 257, g 258] := rfl
set_option maxHeartbeats 2000000 in
theorem body_20 {w : World} {s b v c d : Nat} {bs : List Int} {nm : ByteArray} {I B : Nat → Int} {t : Bool} {Z : Nat → Nat → Int} (h : HasQ w s b v c d bs nm I B t Z) {g1 g2 : Nat} {nn : ByteArray} (hb : Boxes s b v g1 g2 nn w) (g : Nat → Value) (e1 : g 1 = .pointer (some ⟨g1, 0, none⟩)) (e2 : g 2 = .pointer (some ⟨g2, 0, none⟩)) (Q : Exit → Act → World → Prop) {Z' : Nat → Nat → Int} (KC : Calls Tryz.prog 63 #[.pointer (some ⟨s, 0, none⟩), .string nn] w fun e w' => e = Ending.returned (.tuple #[]) ∧ HasQ w' s b v c d bs nm I B t Z' ∧ OnlyE (EQ s b v) w w') (HK : ∀ a w', a.defers = [] → HasQ w' s b v c d bs nm I B t Z' → OnlyE (EQ s b v) w w' → Q .normal a w') : Code.wp Tryz.prog (bodyT (restT 20 ((Tryz.f23.body.bind (blockIn 0)).getD .skip))) Q ⟨((List.range 259).map g).toArray, []⟩ w := by
  replace KC := hide KC
  have HE := hide h
  have HB := hide hb
  replace HK := hide HK
  rw [frame_259 g, e1, e2]
  clear h hb e1 e2
  conv => arg 2; whnf
  have c1 := HB.out.one
  have c2 := HB.out.two
  go_wp2_with fail
  refine KC.out.mono ?_
  rintro e w1 ⟨rfl, h1, o1⟩
  have H1 := hide h1
  have O1 := hide o1
  clear h1 o1 c1 c2
  go_wp2_with fail
  exact HK.out _ _ rfl H1.out O1.out
def inS (op : Int) (k : Nat) (Z : Nat → Nat → Int) : Nat → Nat → Int := setR (rkS Z op 0 (Z 20 k)) k (rkV op 0 (Z 20 k) (Z 20 4))
end Go.Proofs.YtoijhhbiknhlnaaGreatDoor.L25
namespace Go.Proofs.YtoijhhbiknhlnaaGreatDoor.L25
set_option maxRecDepth 20000
open A2 B4 C3 G6 I11 J23 K9 L24 M5 N8 O7 P22 R15 T10 V12 W13
open Go.RowKit
set_option linter.unusedVariables false
def DoZ (bs : List Int) (nm : ByteArray) (I B : Nat → Int) (t : Bool) (Z Z' : Nat → Nat → Int) : Prop :=
  ∀ (w : World) (s b v c d : Nat), HasQ w s b v c d bs nm I B t Z → Calls Tryz.prog 23 #[.pointer (some ⟨s, 0, none⟩)] w fun e w' => e = Ending.returned (.tuple #[]) ∧ HasQ w' s b v c d bs nm I B t Z' ∧ OnlyE (EQ s b v) w w'
theorem wp_frame {P : Program} {c : Code} {Q : Exit → Act → World → Prop} {w : World} {tm T : Array Value} {df : List Deferred} (h : tm = T) (k : c.wp P Q ⟨T, df⟩ w) : c.wp P Q ⟨tm, df⟩ w := by
  rw [h]
  exact k
set_option maxHeartbeats 4000000 in
theorem do_hit {w : World} {s b v c d : Nat} {bs : List Int} {nm : ByteArray} {I B : Nat → Int} {t : Bool} {Z : Nat → Nat → Int} (h : HasQ w s b v c d bs nm I B t Z) (nn : ByteArray) (hn : nm.extract 0 3 = nn) (hz : 3 ≤ nm.size) (k : Nat) {Z' : Nat → Nat → Int} (hk : (missT 12 [1, 2, 12] 259 nn.data.toList k ((Tryz.f23.body.bind (blockIn 0)).getD .skip) && hitT 12 [1, 2, 12] 259 nn.data.toList (restT k ((Tryz.f23.body.bind (blockIn 0)).getD .skip))) = true) (KB : (∀ (g1 g2 : Nat) (wa : World) (g : Nat → Value) (Q : Exit → Act → World → Prop), HasQ wa s b v c d bs nm I B t Z → Boxes s b v g1 g2 nn wa → g 1 = .pointer (some ⟨g1, 0, none⟩) → g 2 = .pointer (some ⟨g2, 0, none⟩) → (∀ a w', a.defers = [] → HasQ w' s b v c d bs nm I B t Z' → OnlyE (EQ s b v) wa w' → Q .normal a w') → Code.wp Tryz.prog (bodyT (restT k ((Tryz.f23.body.bind (blockIn 0)).getD .skip))) Q ⟨((List.range 259).map g).toArray, []⟩ wa)) : Calls Tryz.prog 23 #[.pointer (some ⟨s, 0, none⟩)] w fun e w' => e = Ending.returned (.tuple #[]) ∧ HasQ w' s b v c d bs nm I B t Z' ∧ OnlyE (EQ s b v) w w' := by
  replace KB := hide KB
  have K1 := hide hk
  clear hk
  have HE := hide h
  have HL := hide h.lt
  have HLB := hide h.2.1.1.lt
  have HLV := hide (lt_of_block h.2.1.2.1)
  have c10 := h.name
  have l10 : s < w.heap.size := h.lt
  have z3 : (3 : Nat) ≤ nm.size := hz
  replace hn := hide hn
  clear h hz
  go_enter Tryz.func23, Tryz.ntmps23
  go_upto_block 0 with fail
  rw [hn.out]
  refine under_name fun wa hwa => ?_
  obtain ⟨q1, q2, q3, bw⟩ := two_named hwa
  have BX : Hid (Boxes s b v w.heap.size (w.heap.size + 1) nn wa) := hide ⟨⟨_, _, q1⟩, ⟨_, _, q2⟩, fun e => by have := HL.out; have := HLB.out; have := HLV.out; rcases e with e | e | e <;> omega, fun e => by have := HL.out; have := HLB.out; have := HLV.out; rcases e with e | e | e <;> omega⟩
  have HA := hide (HE.out.next bw)
  have OA := hide (eq_of (s := s) (b := b) (v := v) bw)
  clear hwa q1 q2 q3 bw HE c10 l10 z3
  apply wp_block
  refine wp_switch [1, 2, 12] nn k rfl K1.out rfl rfl fun a' hA => ?_
  obtain ⟨tm, df⟩ := a'
  obtain ⟨h1, h2, h3⟩ := hA
  have hdf : df = [] := h2
  subst hdf
  have e := frame_out tm (N := 259) (h1.trans rfl)
  have k1 : tm.getD 1 undef = .pointer (some ⟨w.heap.size, 0, none⟩) := by rw [Array.getD_eq_getD_getElem?, h3 1 (by decide)]; rfl
  have k2 : tm.getD 2 undef = .pointer (some ⟨w.heap.size + 1, 0, none⟩) := by rw [Array.getD_eq_getD_getElem?, h3 2 (by decide)]; rfl
  refine wp_frame e ?_
  refine KB.out w.heap.size (w.heap.size + 1) wa (fun i => tm.getD i undef) _ HA.out BX.out k1 k2 (fun a w' hd hq ho => ?_)
  simp only [Exit.inBlock]
  refine (bodyPost_end (P := Tryz.prog) (fn := Tryz.f23) (v := .tuple #[]) (results_none rfl _ _ _) hd ?_ : bodyPost Tryz.prog Tryz.f23 _ .normal _ _)
  exact ⟨rfl, hq, OA.out.trans ho⟩
theorem kind_is (K : Nat) (hK : K < 5) (w : World) (hw : HasKinds w) : Calls Tryz.prog 110 #[.string (nmB K)] w fun e w' => e = Ending.returned (.tuple #[.int .i64 (K : Int), .bool true]) ∧ w' = w := by
  obtain ⟨t, fr, hT⟩ := hw
  refine (kind_at (nmB K) w nameCells t fr hT rfl (fun j hj w => names_index j hj w)).mono fun e w' ⟨f, hw⟩ => ⟨?_, hw⟩
  rcases f with ⟨j, hj, ej, rfl⟩ | ⟨no, _⟩
  · obtain rfl := nm_inj j hj K hK ej
    rfl
  · exact absurd rfl (no K hK)
theorem do_TII {bs : List Int} {I B : Nat → Int} {t : Bool} {Z : Nat → Nat → Int} : DoZ bs ⟨#[84, 73, 73]⟩ I B t Z (trS bs 0 B Z) := fun w s b v c d h => do_hit h ⟨#[84, 73, 73]⟩ (by kernel_rfl) (by decide) 20 (by kernel_rfl) (fun g1 g2 wa g Q ha hb e1 e2 HK => body_20 ha hb g e1 e2 Q (transfer_is ha _ 0 (by decide) (by decide) (kind_is 0 (by decide))) HK)
end Go.Proofs.YtoijhhbiknhlnaaGreatDoor.L25
