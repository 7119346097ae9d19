/- The program's processor: what an instruction does, by its name. -/
import Derived.Test.YtoijhhbiknhlnaaGreatDoorCpuPictureJ40
namespace Go.Proofs.YtoijhhbiknhlnaaGreatDoor.L25
set_option maxRecDepth 20000
open A2 B4 C3 G6 I11 J23 K9 L24 M5 N8 O7 P22 R15 T10 V12 W13
open Go.RowKit
set_option linter.unusedVariables false
def DoZ (bs : List Int) (nm : ByteArray) (I B : Nat → Int) (t : Bool) (Z Z' : Nat → Nat → Int) : Prop :=
  ∀ (w : World) (s b v c d : Nat), HasQ w s b v c d bs nm I B t Z → Calls Tryz.prog 23 #[.pointer (some ⟨s, 0, none⟩)] w fun e w' => e = Ending.returned (.tuple #[]) ∧ HasQ w' s b v c d bs nm I B t Z' ∧ OnlyE (EQ s b v) w w'
theorem wp_frame {P : Program} {c : Code} {Q : Exit → Act → World → Prop} {w : World} {tm T : Array Value} {df : List Deferred} (h : tm = T) (k : c.wp P Q ⟨T, df⟩ w) : c.wp P Q ⟨tm, df⟩ w := by
  rw [h]
  exact k
set_option maxHeartbeats 4000000 in
theorem do_hit {w : World} {s b v c d : Nat} {bs : List Int} {nm : ByteArray} {I B : Nat → Int} {t : Bool} {Z : Nat → Nat → Int} (h : HasQ w s b v c d bs nm I B t Z) (nn : ByteArray) (hn : nm.extract 0 3 = nn) (hz : 3 ≤ nm.size) (k : Nat) {Z' : Nat → Nat → Int} (hk : (missT 12 [1, 2, 12] 259 nn.data.toList k ((Tryz.f23.body.bind (blockIn 0)).getD .skip) && hitT 12 [1, 2, 12] 259 nn.data.toList (restT k ((Tryz.f23.body.bind (blockIn 0)).getD .skip))) = true) (KB : (∀ (g1 g2 : Nat) (wa : World) (g : Nat → Value) (Q : Exit → Act → World → Prop), HasQ wa s b v c d bs nm I B t Z → Boxes s b v g1 g2 nn wa → g 1 = .pointer (some ⟨g1, 0, none⟩) → g 2 = .pointer (some ⟨g2, 0, none⟩) → (∀ a w', a.defers = [] → HasQ w' s b v c d bs nm I B t Z' → OnlyE (EQ s b v) wa w' → Q .normal a w') → Code.wp Tryz.prog (bodyT (restT k ((Tryz.f23.body.bind (blockIn 0)).getD .skip))) Q ⟨((List.range 259).map g).toArray, []⟩ wa)) : Calls Tryz.prog 23 #[.pointer (some ⟨s, 0, none⟩)] w fun e w' => e = Ending.returned (.tuple #[]) ∧ HasQ w' s b v c d bs nm I B t Z' ∧ OnlyE (EQ s b v) w w' := by
  replace KB := hide KB
  have K1 := hide hk
  clear hk
  have HE := hide h
  have HL := hide h.lt
  have HLB := hide h.2.1.1.lt
  have HLV := hide (lt_of_block h.2.1.2.1)
  have c10 := h.name
  have l10 : s < w.heap.size := h.lt
  have z3 : (3 : Nat) ≤ nm.size := hz
  replace hn := hide hn
  clear h hz
  go_enter Tryz.func23, Tryz.ntmps23
  go_upto_block 0 with fail
  rw [hn.out]
  refine under_name fun wa hwa => ?_
  obtain ⟨q1, q2, q3, bw⟩ := two_named hwa
  have BX : Hid (Boxes s b v w.heap.size (w.heap.size + 1) nn wa) := hide ⟨⟨_, _, q1⟩, ⟨_, _, q2⟩, fun e => by have := HL.out; have := HLB.out; have := HLV.out; rcases e with e | e | e <;> omega, fun e => by have := HL.out; have := HLB.out; have := HLV.out; rcases e with e | e | e <;> omega⟩
  have HA := hide (HE.out.next bw)
  have OA := hide (eq_of (s := s) (b := b) (v := v) bw)
  clear hwa q1 q2 q3 bw HE c10 l10 z3
  apply wp_block
  refine wp_switch [1, 2, 12] nn k rfl K1.out rfl rfl fun a' hA => ?_
  obtain ⟨tm, df⟩ := a'
  obtain ⟨h1, h2, h3⟩ := hA
  have hdf : df = [] := h2
  subst hdf
  have e := frame_out tm (N := 259) (h1.trans rfl)
  have k1 : tm.getD 1 undef = .pointer (some ⟨w.heap.size, 0, none⟩) := by rw [Array.getD_eq_getD_getElem?, h3 1 (by decide)]; rfl
  have k2 : tm.getD 2 undef = .pointer (some ⟨w.heap.size + 1, 0, none⟩) := by rw [Array.getD_eq_getD_getElem?, h3 2 (by decide)]; rfl
  refine wp_frame e ?_
  refine KB.out w.heap.size (w.heap.size + 1) wa (fun i => tm.getD i undef) _ HA.out BX.out k1 k2 (fun a w' hd hq ho => ?_)
  simp only [Exit.inBlock]
  refine (bodyPost_end (P := Tryz.prog) (fn := Tryz.f23) (v := .tuple #[]) (results_none rfl _ _ _) hd ?_ : bodyPost Tryz.prog Tryz.f23 _ .normal _ _)
  exact ⟨rfl, hq, OA.out.trans ho⟩
theorem do_ST0 {bs : List Int} {I B : Nat → Int} {t : Bool} {Z : Nat → Nat → Int} : DoZ bs ⟨#[83, 84, 48]⟩ I B t Z (stS 2088960 I Z) := fun w s b v c d h => do_hit h ⟨#[83, 84, 48]⟩ (by kernel_rfl) (by decide) 19 (by kernel_rfl) (fun g1 g2 wa g Q ha hb e1 e2 HK => body_19_0 ha hb g e1 e2 Q (by decide) rfl HK)
theorem do_ST1 {bs : List Int} {I B : Nat → Int} {t : Bool} {Z : Nat → Nat → Int} : DoZ bs ⟨#[83, 84, 49]⟩ I B t Z (stS 2088962 I Z) := fun w s b v c d h => do_hit h ⟨#[83, 84, 49]⟩ (by kernel_rfl) (by decide) 19 (by kernel_rfl) (fun g1 g2 wa g Q ha hb e1 e2 HK => body_19_1 ha hb g e1 e2 Q (by decide) rfl HK)
theorem do_ST2 {bs : List Int} {I B : Nat → Int} {t : Bool} {Z : Nat → Nat → Int} : DoZ bs ⟨#[83, 84, 50]⟩ I B t Z (stS 2088963 I Z) := fun w s b v c d h => do_hit h ⟨#[83, 84, 50]⟩ (by kernel_rfl) (by decide) 19 (by kernel_rfl) (fun g1 g2 wa g Q ha hb e1 e2 HK => body_19_2 ha hb g e1 e2 Q (by decide) rfl HK)
end Go.Proofs.YtoijhhbiknhlnaaGreatDoor.L25
