/- Texts put together. -/
import Derived.Test.YtoijhhbiknhlnaaGreatDoorCpuTakesJ40
import Derived.Test.YtoijhhbiknhlnaaGreatDoorCpuTakesJ01
namespace Go.Proofs.YtoijhhbiknhlnaaGreatDoor.L25
set_option maxRecDepth 20000
open A2 B4 C3 G6 I11 J23 K9 L24 M5 N8 O7 P22 R15 T10 V12 W13
open Go.RowKit
set_option linter.unusedVariables false
def Boxes (s b v g1 g2 : Nat) (nn : ByteArray) (w : World) : Prop := (∃ t1 f1, w.heap[g1]? = some (.cells #[.pointer (some ⟨s, 0, none⟩)] t1 f1)) ∧ (∃ t2 f2, w.heap[g2]? = some (.cells #[.string nn] t2 f2)) ∧ ¬ EQ s b v g1 ∧ ¬ EQ s b v g2
theorem Boxes.one {s b v g1 g2 : Nat} {nn : ByteArray} {w : World} (h : Boxes s b v g1 g2 nn w) : w.cell? ⟨g1, 0, none⟩ = some (.pointer (some ⟨s, 0, none⟩)) := by
  obtain ⟨⟨t1, f1, e1⟩, _⟩ := h
  exact (cell_of_row w g1 0 _ _ _ e1).trans rfl
theorem Boxes.two {s b v g1 g2 : Nat} {nn : ByteArray} {w : World} (h : Boxes s b v g1 g2 nn w) : w.cell? ⟨g2, 0, none⟩ = some (.string nn) := by
  obtain ⟨_, ⟨t2, f2, e2⟩, _⟩ := h
  exact (cell_of_row w g2 0 _ _ _ e2).trans rfl
end Go.Proofs.YtoijhhbiknhlnaaGreatDoor.L25
namespace Go.Proofs.YtoijhhbiknhlnaaGreatDoor.L25
set_option maxRecDepth 20000
open A2 B4 C3 G6 I11 J23 K9 L24 M5 N8 O7 P22 R15 T10 V12 W13
open Go.RowKit
set_option linter.unusedVariables false
theorem frame_259 (g : Nat → Value) : ((List.range 259).map g).toArray = #[g 0, g 1, g 2, g 3, g 4, g 5, g 6, g 7, g 8, g 9, g 10, g 11, g 12, g 13, g 14, g 15, g 16, g 17, g 18, g 19, g 20, g 21, g 22, g 23, g 24, g 25, g 26, g 27, g 28, g 29, g 30, g 31, g 32, g 33, g 34, g 35, g 36, g 37, g 38, g 39, g 40, g 41, g 42, g 43, g 44, g 45, g 46, g 47, g 48, g 49, g 50, g 51, g 52, g 53, g 54, g 55, g 56, g 57, g 58, g 59, g 60, g 61, g 62, g 63, g 64, g 65, g 66, g 67, g 68, g 69, g 70, g 71, g 72, g 73, g 74, g 75, g 76, g 77, g 78, g 79, g 80, g 81, g 82, g 83, g 84, g 85, g 86, g 87, g 88, g 89, g 90, g 91, g 92, g 93, g 94, g 95, g 96, g 97, g 98, g 99, g 100, g 101, g 102, g 103, g 104, g 105, g 106, g 107, g 108, g 109, g 110, g 111, g 112, g 113, g 114, g 115, g 116, g 117, g 118, g 119, g 120, g 121, g 122, g 123, g 124, g 125, g 126, g 127, g 128, g 129, g 130, g 131, g 132, g 133, g 134, g 135, g 136, g 137, g 138, g 139, g 140, g 141, g 142, g 143, g 144, g 145, g 146, g 147, g 148, g 149, g 150, g 151, g 152, g 153, g 154, g 155, g 156, g 157, g 158, g 159, g 160, g 161, g 162, g 163, g 164, g 165, g 166, g 167, g 168, g 169, g 170, g 171, g 172, g 173, g 174, g 175, g 176, g 177, g 178, g 179, g 180, g 181, g 182, g 183, g 184, g 185, g 186, g 187, g 188, g 189, g 190, g 191, g 192, g 193, g 194, g 195, g 196, g 197, g 198, g 199, g 200, g 201, g 202, g 203, g 204, g 205, g 206, g 207, g 208, g 209, g 210, g 211, g 212, g 213, g 214, g 215, g 216, g 217, g 218, g 219, g 220, g 221, g 222, g 223, g 224, g 225, g 226, g 227, g 228, g 229, g 230, g 231, g 232, g 233, g 234, g 235, g 236, g 237, g 238, g 239, g 240, g 241, g 242, g 243, g 244, g 245, g 246, g 247, g 248, g 249, g 250, g 251, g 252, g 253, g 254, g 255, g 256, g 257, g 258] := rfl
set_option maxHeartbeats 2000000 in
theorem body_9 {w : World} {s b v c d : Nat} {bs : List Int} {nm : ByteArray} {I B : Nat → Int} {t : Bool} {Z : Nat → Nat → Int} (h : HasQ w s b v c d bs nm I B t Z) {g1 g2 : Nat} {nn : ByteArray} (hb : Boxes s b v g1 g2 nn w) (g : Nat → Value) (e1 : g 1 = .pointer (some ⟨g1, 0, none⟩)) (e2 : g 2 = .pointer (some ⟨g2, 0, none⟩)) (Q : Exit → Act → World → Prop) {Z' : Nat → Nat → Int} (KC : Calls Tryz.prog 58 #[.pointer (some ⟨s, 0, none⟩), .string nn] w fun e w' => e = Ending.returned (.tuple #[]) ∧ HasQ w' s b v c d bs nm I B t Z' ∧ OnlyE (EQ s b v) w w') (HK : ∀ a w', a.defers = [] → HasQ w' s b v c d bs nm I B t Z' → OnlyE (EQ s b v) w w' → Q .normal a w') : Code.wp Tryz.prog (bodyT (restT 9 ((Tryz.f23.body.bind (blockIn 0)).getD .skip))) Q ⟨((List.range 259).map g).toArray, []⟩ w := by
  replace KC := hide KC
  have HE := hide h
  have HB := hide hb
  replace HK := hide HK
  rw [frame_259 g, e1, e2]
  clear h hb e1 e2
  conv => arg 2; whnf
  have c1 := HB.out.one
  have c2 := HB.out.two
  go_wp2_with fail
  refine KC.out.mono ?_
  rintro e w1 ⟨rfl, h1, o1⟩
  have H1 := hide h1
  have O1 := hide o1
  clear h1 o1 c1 c2
  go_wp2_with fail
  exact HK.out _ _ rfl H1.out O1.out
def inS (op : Int) (k : Nat) (Z : Nat → Nat → Int) : Nat → Nat → Int := setR (rkS Z op 0 (Z 20 k)) k (rkV op 0 (Z 20 k) (Z 20 4))
end Go.Proofs.YtoijhhbiknhlnaaGreatDoor.L25
namespace Go.Proofs.YtoijhhbiknhlnaaGreatDoor.L25
set_option maxRecDepth 20000
open A2 B4 C3 G6 I11 J23 K9 L24 M5 N8 O7 P22 R15 T10 V12 W13
open Go.RowKit
set_option linter.unusedVariables false
def DoZ (bs : List Int) (nm : ByteArray) (I B : Nat → Int) (t : Bool) (Z Z' : Nat → Nat → Int) : Prop :=
  ∀ (w : World) (s b v c d : Nat), HasQ w s b v c d bs nm I B t Z → Calls Tryz.prog 23 #[.pointer (some ⟨s, 0, none⟩)] w fun e w' => e = Ending.returned (.tuple #[]) ∧ HasQ w' s b v c d bs nm I B t Z' ∧ OnlyE (EQ s b v) w w'
theorem wp_frame {P : Program} {c : Code} {Q : Exit → Act → World → Prop} {w : World} {tm T : Array Value} {df : List Deferred} (h : tm = T) (k : c.wp P Q ⟨T, df⟩ w) : c.wp P Q ⟨tm, df⟩ w := by
  rw [h]
  exact k
set_option maxHeartbeats 4000000 in
theorem do_hit {w : World} {s b v c d : Nat} {bs : List Int} {nm : ByteArray} {I B : Nat → Int} {t : Bool} {Z : Nat → Nat → Int} (h : HasQ w s b v c d bs nm I B t Z) (nn : ByteArray) (hn : nm.extract 0 3 = nn) (hz : 3 ≤ nm.size) (k : Nat) {Z' : Nat → Nat → Int} (hk : (missT 12 [1, 2, 12] 259 nn.data.toList k ((Tryz.f23.body.bind (blockIn 0)).getD .skip) && hitT 12 [1, 2, 12] 259 nn.data.toList (restT k ((Tryz.f23.body.bind (blockIn 0)).getD .skip))) = true) (KB : (∀ (g1 g2 : Nat) (wa : World) (g : Nat → Value) (Q : Exit → Act → World → Prop), HasQ wa s b v c d bs nm I B t Z → Boxes s b v g1 g2 nn wa → g 1 = .pointer (some ⟨g1, 0, none⟩) → g 2 = .pointer (some ⟨g2, 0, none⟩) → (∀ a w', a.defers = [] → HasQ w' s b v c d bs nm I B t Z' → OnlyE (EQ s b v) wa w' → Q .normal a w') → Code.wp Tryz.prog (bodyT (restT k ((Tryz.f23.body.bind (blockIn 0)).getD .skip))) Q ⟨((List.range 259).map g).toArray, []⟩ wa)) : Calls Tryz.prog 23 #[.pointer (some ⟨s, 0, none⟩)] w fun e w' => e = Ending.returned (.tuple #[]) ∧ HasQ w' s b v c d bs nm I B t Z' ∧ OnlyE (EQ s b v) w w' := by
  replace KB := hide KB
  have K1 := hide hk
  clear hk
  have HE := hide h
  have HL := hide h.lt
  have HLB := hide h.2.1.1.lt
  have HLV := hide (lt_of_block h.2.1.2.1)
  have c10 := h.name
  have l10 : s < w.heap.size := h.lt
  have z3 : (3 : Nat) ≤ nm.size := hz
  replace hn := hide hn
  clear h hz
  go_enter Tryz.func23, Tryz.ntmps23
  go_upto_block 0 with fail
  rw [hn.out]
  refine under_name fun wa hwa => ?_
  obtain ⟨q1, q2, q3, bw⟩ := two_named hwa
  have BX : Hid (Boxes s b v w.heap.size (w.heap.size + 1) nn wa) := hide ⟨⟨_, _, q1⟩, ⟨_, _, q2⟩, fun e => by have := HL.out; have := HLB.out; have := HLV.out; rcases e with e | e | e <;> omega, fun e => by have := HL.out; have := HLB.out; have := HLV.out; rcases e with e | e | e <;> omega⟩
  have HA := hide (HE.out.next bw)
  have OA := hide (eq_of (s := s) (b := b) (v := v) bw)
  clear hwa q1 q2 q3 bw HE c10 l10 z3
  apply wp_block
  refine wp_switch [1, 2, 12] nn k rfl K1.out rfl rfl fun a' hA => ?_
  obtain ⟨tm, df⟩ := a'
  obtain ⟨h1, h2, h3⟩ := hA
  have hdf : df = [] := h2
  subst hdf
  have e := frame_out tm (N := 259) (h1.trans rfl)
  have k1 : tm.getD 1 undef = .pointer (some ⟨w.heap.size, 0, none⟩) := by rw [Array.getD_eq_getD_getElem?, h3 1 (by decide)]; rfl
  have k2 : tm.getD 2 undef = .pointer (some ⟨w.heap.size + 1, 0, none⟩) := by rw [Array.getD_eq_getD_getElem?, h3 2 (by decide)]; rfl
  refine wp_frame e ?_
  refine KB.out w.heap.size (w.heap.size + 1) wa (fun i => tm.getD i undef) _ HA.out BX.out k1 k2 (fun a w' hd hq ho => ?_)
  simp only [Exit.inBlock]
  refine (bodyPost_end (P := Tryz.prog) (fn := Tryz.f23) (v := .tuple #[]) (results_none rfl _ _ _) hd ?_ : bodyPost Tryz.prog Tryz.f23 _ .normal _ _)
  exact ⟨rfl, hq, OA.out.trans ho⟩
set_option maxHeartbeats 4000000 in
theorem do_miss {w : World} {s b v c d : Nat} {bs : List Int} {nm : ByteArray} {I B : Nat → Int} {t : Bool} {Z : Nat → Nat → Int} (h : HasQ w s b v c d bs nm I B t Z) (nn : ByteArray) (hn : nm.extract 0 3 = nn) (hz : 3 ≤ nm.size) (hk : missT 12 [1, 2, 12] 259 nn.data.toList 21 ((Tryz.f23.body.bind (blockIn 0)).getD .skip) = true) : Calls Tryz.prog 23 #[.pointer (some ⟨s, 0, none⟩)] w fun e w' => e = Ending.returned (.tuple #[]) ∧ HasQ w' s b v c d bs nm I B t Z ∧ OnlyE (EQ s b v) w w' := by
  have K1 := hide hk
  clear hk
  have HE := hide h
  have HL := hide h.lt
  have HLB := hide h.2.1.1.lt
  have HLV := hide (lt_of_block h.2.1.2.1)
  have c10 := h.name
  have l10 : s < w.heap.size := h.lt
  have z3 : (3 : Nat) ≤ nm.size := hz
  replace hn := hide hn
  clear h hz
  go_enter Tryz.func23, Tryz.ntmps23
  go_upto_block 0 with fail
  rw [hn.out]
  refine under_name fun wa hwa => ?_
  obtain ⟨q1, q2, q3, bw⟩ := two_named hwa
  have BX : Hid (Boxes s b v w.heap.size (w.heap.size + 1) nn wa) := hide ⟨⟨_, _, q1⟩, ⟨_, _, q2⟩, fun e => by have := HL.out; have := HLB.out; have := HLV.out; rcases e with e | e | e <;> omega, fun e => by have := HL.out; have := HLB.out; have := HLV.out; rcases e with e | e | e <;> omega⟩
  have HA := hide (HE.out.next bw)
  have OA := hide (eq_of (s := s) (b := b) (v := v) bw)
  clear hwa q1 q2 q3 bw HE c10 l10 z3
  apply wp_block
  refine wp_miss (ks := [1, 2, 12]) (x := 12) (N := 259) (nm := nn) (by decide) 21 _ _ K1.out rfl rfl fun a' hA => ?_
  refine wp_skip ?_
  simp only [Exit.inBlock]
  refine (bodyPost_end (P := Tryz.prog) (fn := Tryz.f23) (v := .tuple #[]) (results_none rfl _ _ _) hA.2.1 ?_ : bodyPost Tryz.prog Tryz.f23 _ .normal _ _)
  exact ⟨rfl, HA.out, OA.out⟩
theorem do_RTI {bs : List Int} {I B : Nat → Int} {t : Bool} {Z : Nat → Nat → Int} : DoZ bs ⟨#[82, 84, 73]⟩ I B t Z (riS bs Z) := fun w s b v c d h => do_hit h ⟨#[82, 84, 73]⟩ (by kernel_rfl) (by decide) 9 (by kernel_rfl) (fun g1 g2 wa g Q ha hb e1 e2 HK => body_9 ha hb g e1 e2 Q (jump_RTI ha _ (str_is (by kernel_rfl)) (str_is (by kernel_rfl)) (str_is (by kernel_rfl)) (str_is (by kernel_rfl)) (str_is (by kernel_rfl)) (str_is (by kernel_rfl))) HK)
theorem do_NOP {bs : List Int} {I B : Nat → Int} {t : Bool} {Z : Nat → Nat → Int} : DoZ bs ⟨#[78, 79, 80]⟩ I B t Z Z := fun w s b v c d h => do_miss h ⟨#[78, 79, 80]⟩ (by kernel_rfl) (by decide) (by kernel_rfl)
end Go.Proofs.YtoijhhbiknhlnaaGreatDoor.L25
