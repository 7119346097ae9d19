/- The program's processor: bytes that are changed by a closure, and blocks that are moved. -/
import Derived.Test.YtoijhhbiknhlnaaGreatDoorCpuBitsJ39
namespace Go.Proofs.YtoijhhbiknhlnaaGreatDoor.L25
set_option maxRecDepth 20000
open A2 B4 C3 G6 I11 J23 K9 L24 M5 N8 O7 P22 R15 T10 V12 W13
open Go.RowKit
set_option linter.unusedVariables false
def Boxes (s b v g1 g2 : Nat) (nn : ByteArray) (w : World) : Prop := (∃ t1 f1, w.heap[g1]? = some (.cells #[.pointer (some ⟨s, 0, none⟩)] t1 f1)) ∧ (∃ t2 f2, w.heap[g2]? = some (.cells #[.string nn] t2 f2)) ∧ ¬ EQ s b v g1 ∧ ¬ EQ s b v g2
theorem Boxes.only {s b v g1 g2 : Nat} {nn : ByteArray} {w w' : World} (h : Boxes s b v g1 g2 nn w) (k : OnlyE (EQ s b v) w w') : Boxes s b v g1 g2 nn w' := by
  obtain ⟨⟨t1, f1, e1⟩, ⟨t2, f2, e2⟩, n1, n2⟩ := h
  exact ⟨⟨t1, f1, k.obj e1 n1⟩, ⟨t2, f2, k.obj e2 n2⟩, n1, n2⟩
theorem Boxes.one {s b v g1 g2 : Nat} {nn : ByteArray} {w : World} (h : Boxes s b v g1 g2 nn w) : w.cell? ⟨g1, 0, none⟩ = some (.pointer (some ⟨s, 0, none⟩)) := by
  obtain ⟨⟨t1, f1, e1⟩, _⟩ := h
  exact (cell_of_row w g1 0 _ _ _ e1).trans rfl
theorem Boxes.two {s b v g1 g2 : Nat} {nn : ByteArray} {w : World} (h : Boxes s b v g1 g2 nn w) : w.cell? ⟨g2, 0, none⟩ = some (.string nn) := by
  obtain ⟨_, ⟨t2, f2, e2⟩, _⟩ := h
  exact (cell_of_row w g2 0 _ _ _ e2).trans rfl
set_option maxHeartbeats 1000000 in
theorem clo2_is {w : World} {s b v c d : Nat} {bs : List Int} {nm : ByteArray} {I B : Nat → Int} {t : Bool} {Z : Nat → Nat → Int} (h : HasQ w s b v c d bs nm I B t Z) {g1 g2 : Nat} {nn : ByteArray} (hb : Boxes s b v g1 g2 nn w) (m k : Int) (on : Bool) (KN : ∀ x, HasQ x s b v c d bs nm I B t Z → Calls Tryz.prog 54 #[.pointer (some ⟨s, 0, none⟩)] x fun e x' => e = Ending.returned (.int .i64 k) ∧ x' = x) (ho : (nn.toList == [83, 77, 66]) = on) : Calls Tryz.prog 52 #[.int .i64 m, .pointer (some ⟨g1, 0, none⟩), .pointer (some ⟨g2, 0, none⟩)] w fun e w' => e = Ending.returned (.int .i64 (putOf m k on)) ∧ HasQ w' s b v c d bs nm I B t Z ∧ OnlyE (EQ s b v) w w' := by
  have HE := hide h
  have HB := hide hb
  replace KN := hide KN
  have KP := hide (fun w => put_any m k on w)
  clear h hb
  go_enter Tryz.func52, Tryz.ntmps52
  go_wp2_with fail
  refine wp_region_state (ofList [.int .i64 m, .pointer (some ⟨s, 0, none⟩), .int .i64 k, .string nn, .bool on, .int .i64 (putOf m k on), .int .i64 (putOf m k on)]) (fun dd ww => (stgs [QA w s b v c d bs nm I B t Z]) (cntD [] dd) ww) _ (fun vals => by simp only [putAll, Act.put, List.setIfInBounds_toArray, List.set_cons_succ, List.set_cons_zero, Nat.reduceAdd]; rfl) (by kernel_rfl) (by kernel_rfl) (by kernel_rfl) (fun dn hd => stage_none (A := (stgs [QA w s b v c d bs nm I B t Z])) hd (QA.mk HE.out)) ?_ ?_
  · refine stepsS_cons (fun vals dn x hi hc hk hs => ?_) (stepsS_cons (fun vals dn x hi hc hk hs => ?_) (stepsS_cons (fun vals dn x hi hc hk hs => ?_) (stepsS_cons (fun vals dn x hi hc hk hs => ?_) (stepsS_cons (fun vals dn x hi hc hk hs => ?_) (stepsS_cons (fun vals dn x hi hc hk hs => ?_) (stepsS_cons (fun vals dn x hi hc hk hs => ?_) stepsS_nil))))))
    · set_option maxRecDepth 20000 in
      go_wp2_with fail
      exact postS_mk _ rfl rfl (stage_keep (A := (stgs [QA w s b v c d bs nm I B t Z])) (ps := []) (i := 0) rfl hs)
    · have hs1 := hs
      have q := (HB.out.only (show QA w s b v c d bs nm I B t Z x from hs1).2).one
      go_wp2_with fail
      exact postS_mk _ rfl rfl (stage_keep (A := (stgs [QA w s b v c d bs nm I B t Z])) (ps := []) (i := 1) rfl hs)
    · obtain ⟨⟨(h1 : vals 1 = .pointer (some ⟨s, 0, none⟩)), t1⟩, _⟩ := hk
      simp only [h1]
      clear h1
      have hs1 := hs
      have HS := hide hs
      clear hs hs1
      go_wp2_with fail
      refine (KN.out _ (show QA w s b v c d bs nm I B t Z _ from HS.out).1).mono ?_
      rintro e x2 ⟨rfl, hw⟩
      subst x2
      go_wp2_with fail
      exact postS_mk _ rfl rfl (stage_keep (A := (stgs [QA w s b v c d bs nm I B t Z])) (ps := []) (i := 2) rfl HS.out)
    · have hs1 := hs
      have q := (HB.out.only (show QA w s b v c d bs nm I B t Z x from hs1).2).two
      go_wp2_with fail
      exact postS_mk _ rfl rfl (stage_keep (A := (stgs [QA w s b v c d bs nm I B t Z])) (ps := []) (i := 3) rfl hs)
    · obtain ⟨⟨(h3 : vals 3 = .string nn), t3⟩, _⟩ := hk
      simp only [h3]
      clear h3
      go_wp2_with fail
      exact postS_mk _ rfl rfl (stage_keep (A := (stgs [QA w s b v c d bs nm I B t Z])) (ps := []) (i := 4) rfl hs)
    · obtain ⟨⟨(h0 : vals 0 = .int .i64 m), t0⟩, ⟨(h2 : vals 2 = .int .i64 k), t2⟩, ⟨(h4 : vals 4 = .bool on), t4⟩, _, _⟩ := hk
      simp only [h0, h2, h4]
      clear h0 h2 h4
      have hs1 := hs
      have HS := hide hs
      have HS1 := hide hs1
      clear hs hs1
      go_wp2_with fail
      refine (KP.out _).mono ?_
      rintro e x2 ⟨rfl, b2⟩
      have H2 := hide (stgs_next (stab1 QA.stab) HS.out b2)
      clear b2 HS HS1
      go_wp2_with fail
      exact postS_mk _ rfl rfl (stage_keep (A := (stgs [QA w s b v c d bs nm I B t Z])) (ps := []) (i := 5) rfl H2.out)
    · obtain ⟨⟨(h5 : vals 5 = .int .i64 (putOf m k on)), t5⟩, _, ⟨(h0 : vals 0 = .int .i64 m), t0⟩, ⟨(h1 : vals 1 = .pointer (some ⟨s, 0, none⟩)), t1⟩, ⟨(h2 : vals 2 = .int .i64 k), t2⟩, ⟨(h3 : vals 3 = .string nn), t3⟩, ⟨(h4 : vals 4 = .bool on), t4⟩, _, _⟩ := hk
      simp only [h5]
      clear h5 h0 h1 h2 h3 h4
      go_wp2_with fail
      exact postS_mk _ rfl rfl (stage_keep (A := (stgs [QA w s b v c d bs nm I B t Z])) (ps := []) (i := 6) rfl hs)
  rintro vals dn x hall hs hv
  obtain ⟨_, _, _, _, _, _, (h6 : vals 6 = .int .i64 (putOf m k on)), _⟩ := hv
  simp only [h6]
  clear h6
  obtain ⟨h2, o2⟩ : QA w s b v c d bs nm I B t Z x := hs
  have H2 := hide h2
  have O2 := hide o2
  clear h2 o2
  go_wp2
  go_ret
  exact ⟨rfl, H2.out, O2.out⟩
def chS (I : Nat → Int) (r : Int) (Z : Nat → Nat → Int) : Nat → Nat → Int := if I 0 = 1 then setR Z 0 r else wS Z (I 6) r
def cbS (bs : List Int) (I : Nat → Int) (k : Int) (on : Bool) (Z : Nat → Nat → Int) : Nat → Nat → Int := chS I (putOf (mV bs I Z) k on) (mS I Z)
set_option maxHeartbeats 1000000 in
theorem change_bit {w : World} {s b v c d : Nat} {bs : List Int} {nm : ByteArray} {I B : Nat → Int} {t : Bool} {Z : Nat → Nat → Int} (h : HasQ w s b v c d bs nm I B t Z) {g1 g2 : Nat} {nn : ByteArray} (hb : Boxes s b v g1 g2 nn w) (k : Int) (on : Bool) (KN : ∀ x, HasQ x s b v c d bs nm I B t (mS I Z) → Calls Tryz.prog 54 #[.pointer (some ⟨s, 0, none⟩)] x fun e x' => e = Ending.returned (.int .i64 k) ∧ x' = x) (ho : (nn.toList == [83, 77, 66]) = on) (hr : IsByte (putOf (mV bs I Z) k on)) : Calls Tryz.prog 49 #[.pointer (some ⟨s, 0, none⟩), .func (.func 52) #[] #[.pointer (some ⟨g1, 0, none⟩), .pointer (some ⟨g2, 0, none⟩)]] w fun e w' => e = Ending.returned (.tuple #[]) ∧ HasQ w' s b v c d bs nm I B t (cbS bs I k on Z) ∧ OnlyE (EQ s b v) w w' := by
  have HE := hide h
  have HB := hide hb
  replace KN := hide KN
  have OH := hide ho
  unfold cbS
  have RI := hide hr
  generalize hq : putOf (mV bs I Z) k on = r at *
  have HR := hide hq
  generalize hX : chS I r (mS I Z) = X
  have HX := hide hX
  clear h hb hr ho hq hX
  go_enter Tryz.func49, Tryz.ntmps49
  go_wp2_with fail
  refine (m_is HE.out).mono ?_
  rintro e w1 ⟨rfl, h1, o1⟩
  have H1 := hide h1
  have O1 := hide o1
  have B1 := hide (HB.out.only o1)
  clear h1 o1 HE HB
  go_wp2_with fail
  refine (clo2_is H1.out B1.out (mV bs I Z) k on KN.out OH.out).mono ?_
  rintro e w2 ⟨rfl, h2, o2⟩
  rw [HR.out]
  have H2 := hide h2
  have O2 := hide (O1.out.trans o2)
  have c11 := h2.mode
  have c23 := h2.plac
  clear h2 o2 H1 O1 B1
  by_cases h1 : I 0 = 1
  · rw [h1] at c11
    have c0 := H2.out.reg 0 (by decide)
    have z0 := H2.out.frz 0
    have H3 := hide (H2.out.putR 0 (by decide) r (gz_up (H2.out.good 20) 0 (by decide) _ RI.out.1 RI.out.2))
    have O3 := hide (eq_set O2.out 0 (.int .i64 r))
    clear H2 O2
    go_wp2
    refine bodyPost_end (P := Tryz.prog) (fn := Tryz.f49) (results_none rfl _ _ _) (by rfl) ?_
    refine ⟨rfl, ?_, O3.out⟩
    rw [← HX.out]
    unfold chS
    rw [if_pos h1]
    exact H3.out
  · have hq : (I 0 == 1) = false := by simp [h1]
    go_wp2_with fail
    refine (write_is H2.out (I 6) r).mono ?_
    rintro e w3 ⟨rfl, h3, o3⟩
    have H3 := hide h3
    have O3 := hide (O2.out.trans o3)
    clear h3 o3 H2 O2
    go_wp2
    refine bodyPost_end (P := Tryz.prog) (fn := Tryz.f49) (results_none rfl _ _ _) (by rfl) ?_
    refine ⟨rfl, ?_, O3.out⟩
    rw [← HX.out]
    unfold chS
    rw [if_neg h1]
    exact H3.out
end Go.Proofs.YtoijhhbiknhlnaaGreatDoor.L25
