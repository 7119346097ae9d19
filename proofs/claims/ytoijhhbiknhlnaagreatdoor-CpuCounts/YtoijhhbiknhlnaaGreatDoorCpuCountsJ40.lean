/- The program's processor: bytes that are changed by a closure, and blocks that are moved. -/
import Derived.Test.YtoijhhbiknhlnaaGreatDoorCpuCountsJ39
namespace Go.Proofs.YtoijhhbiknhlnaaGreatDoor.L25
set_option maxRecDepth 20000
open A2 B4 C3 G6 I11 J23 K9 L24 M5 N8 O7 P22 R15 T10 V12 W13
open Go.RowKit
set_option linter.unusedVariables false
def Boxes (s b v g1 g2 : Nat) (nn : ByteArray) (w : World) : Prop := (∃ t1 f1, w.heap[g1]? = some (.cells #[.pointer (some ⟨s, 0, none⟩)] t1 f1)) ∧ (∃ t2 f2, w.heap[g2]? = some (.cells #[.string nn] t2 f2)) ∧ ¬ EQ s b v g1 ∧ ¬ EQ s b v g2
theorem Boxes.only {s b v g1 g2 : Nat} {nn : ByteArray} {w w' : World} (h : Boxes s b v g1 g2 nn w) (k : OnlyE (EQ s b v) w w') : Boxes s b v g1 g2 nn w' := by
  obtain ⟨⟨t1, f1, e1⟩, ⟨t2, f2, e2⟩, n1, n2⟩ := h
  exact ⟨⟨t1, f1, k.obj e1 n1⟩, ⟨t2, f2, k.obj e2 n2⟩, n1, n2⟩
theorem Boxes.one {s b v g1 g2 : Nat} {nn : ByteArray} {w : World} (h : Boxes s b v g1 g2 nn w) : w.cell? ⟨g1, 0, none⟩ = some (.pointer (some ⟨s, 0, none⟩)) := by
  obtain ⟨⟨t1, f1, e1⟩, _⟩ := h
  exact (cell_of_row w g1 0 _ _ _ e1).trans rfl
theorem Boxes.two {s b v g1 g2 : Nat} {nn : ByteArray} {w : World} (h : Boxes s b v g1 g2 nn w) : w.cell? ⟨g2, 0, none⟩ = some (.string nn) := by
  obtain ⟨_, ⟨t2, f2, e2⟩, _⟩ := h
  exact (cell_of_row w g2 0 _ _ _ e2).trans rfl
set_option maxHeartbeats 1000000 in
theorem clo1_is {w : World} {s b v c d : Nat} {bs : List Int} {nm : ByteArray} {I B : Nat → Int} {t : Bool} {Z : Nat → Nat → Int} (h : HasQ w s b v c d bs nm I B t Z) {g1 g2 : Nat} {nn : ByteArray} (hb : Boxes s b v g1 g2 nn w) (op m : Int) (KO : ∀ w, Calls Tryz.prog 95 #[.string nn] w fun e w' => e = Ending.returned (.int .i64 op) ∧ w' = w) : Calls Tryz.prog 50 #[.int .i64 m, .pointer (some ⟨g1, 0, none⟩), .pointer (some ⟨g2, 0, none⟩)] w fun e w' => e = Ending.returned (.int .i64 (rkV op (Z 20 0) m (Z 20 4))) ∧ HasQ w' s b v c d bs nm I B t (rkS Z op (Z 20 0) m) ∧ OnlyE (EQ s b v) w w' := by
  have HE := hide h
  have HB := hide hb
  obtain ⟨r, hr⟩ : ∃ r, rkV op (Z 20 0) m (Z 20 4) = r := ⟨_, rfl⟩
  have KR : Hid (∀ x, QA w s b v c d bs nm I B t Z x → Calls Tryz.prog 51 #[.pointer (some ⟨s, 0, none⟩), .string nn, .int .i64 (Z 20 0), .int .i64 m] x fun e y => e = Ending.returned (.int .i64 r) ∧ QA w s b v c d bs nm I B t (rkS Z op (Z 20 0) m) y) := hide (fun x q => by rw [← hr]; exact (reckon_is q.1 nn op (Z 20 0) m KO).mono fun e y ⟨e1, q1, o1⟩ => ⟨e1, q1, q.2.trans o1⟩)
  rw [hr]
  clear h hb KO hr
  go_enter Tryz.func50, Tryz.ntmps50
  go_wp2_with fail
  refine wp_region_state (ofList [.pointer (some ⟨s, 0, none⟩), .string nn, .pointer (some ⟨s, 0, none⟩), .pointer (some ⟨s, 0, none⟩), .pointer (some ⟨s, 0, none⟩), .pointer (some ⟨s, 0, none⟩), .pointer (some ⟨s, 0, none⟩), .int .i64 (Z 20 0), .int .i64 m, .int .i64 r, .int .i64 r]) (fun dd ww => (stgs [QA w s b v c d bs nm I B t Z, QA w s b v c d bs nm I B t (rkS Z op (Z 20 0) m)]) (cntD [9] dd) ww) _ (fun vals => by simp only [putAll, Act.put, List.setIfInBounds_toArray, List.set_cons_succ, List.set_cons_zero, Nat.reduceAdd]; rfl) (by kernel_rfl) (by kernel_rfl) (by kernel_rfl) (fun dn hd => stage_none (A := (stgs [QA w s b v c d bs nm I B t Z, QA w s b v c d bs nm I B t (rkS Z op (Z 20 0) m)])) hd (QA.mk HE.out)) ?_ ?_
  · refine stepsS_cons (fun vals dn x hi hc hk hs => ?_) (stepsS_cons (fun vals dn x hi hc hk hs => ?_) (stepsS_cons (fun vals dn x hi hc hk hs => ?_) (stepsS_cons (fun vals dn x hi hc hk hs => ?_) (stepsS_cons (fun vals dn x hi hc hk hs => ?_) (stepsS_cons (fun vals dn x hi hc hk hs => ?_) (stepsS_cons (fun vals dn x hi hc hk hs => ?_) (stepsS_cons (fun vals dn x hi hc hk hs => ?_) (stepsS_cons (fun vals dn x hi hc hk hs => ?_) (stepsS_cons (fun vals dn x hi hc hk hs => ?_) (stepsS_cons (fun vals dn x hi hc hk hs => ?_) stepsS_nil))))))))))
    · have d9 := not_yet hc hi 9 60 (by kernel_rfl)
      have hn : cntD [9] dn = 0 := by show (if dn 9 = true then 1 else 0) + 0 = 0; rw [d9]; rfl
      have hs1 := stage_at (A := (stgs [QA w s b v c d bs nm I B t Z, QA w s b v c d bs nm I B t (rkS Z op (Z 20 0) m)])) hn hs
      have q := (HB.out.only (show QA w s b v c d bs nm I B t Z x from hs1).2).one
      go_wp2_with fail
      exact postS_mk _ rfl rfl (stage_keep (A := (stgs [QA w s b v c d bs nm I B t Z, QA w s b v c d bs nm I B t (rkS Z op (Z 20 0) m)])) (ps := [9]) (i := 0) rfl hs)
    · have d9 := not_yet hc hi 9 60 (by kernel_rfl)
      have hn : cntD [9] dn = 0 := by show (if dn 9 = true then 1 else 0) + 0 = 0; rw [d9]; rfl
      have hs1 := stage_at (A := (stgs [QA w s b v c d bs nm I B t Z, QA w s b v c d bs nm I B t (rkS Z op (Z 20 0) m)])) hn hs
      have q := (HB.out.only (show QA w s b v c d bs nm I B t Z x from hs1).2).two
      go_wp2_with fail
      exact postS_mk _ rfl rfl (stage_keep (A := (stgs [QA w s b v c d bs nm I B t Z, QA w s b v c d bs nm I B t (rkS Z op (Z 20 0) m)])) (ps := [9]) (i := 1) rfl hs)
    · have d9 := not_yet hc hi 9 60 (by kernel_rfl)
      have hn : cntD [9] dn = 0 := by show (if dn 9 = true then 1 else 0) + 0 = 0; rw [d9]; rfl
      have hs1 := stage_at (A := (stgs [QA w s b v c d bs nm I B t Z, QA w s b v c d bs nm I B t (rkS Z op (Z 20 0) m)])) hn hs
      have q := (HB.out.only (show QA w s b v c d bs nm I B t Z x from hs1).2).one
      go_wp2_with fail
      exact postS_mk _ rfl rfl (stage_keep (A := (stgs [QA w s b v c d bs nm I B t Z, QA w s b v c d bs nm I B t (rkS Z op (Z 20 0) m)])) (ps := [9]) (i := 2) rfl hs)
    · obtain ⟨⟨(h2 : vals 2 = .pointer (some ⟨s, 0, none⟩)), t2⟩, _⟩ := hk
      simp only [h2]
      clear h2
      go_wp2_with fail
      exact postS_mk _ rfl rfl (stage_keep (A := (stgs [QA w s b v c d bs nm I B t Z, QA w s b v c d bs nm I B t (rkS Z op (Z 20 0) m)])) (ps := [9]) (i := 3) rfl hs)
    · obtain ⟨⟨(h3 : vals 3 = .pointer (some ⟨s, 0, none⟩)), t3⟩, _⟩ := hk
      simp only [h3]
      clear h3
      go_wp2_with fail
      exact postS_mk _ rfl rfl (stage_keep (A := (stgs [QA w s b v c d bs nm I B t Z, QA w s b v c d bs nm I B t (rkS Z op (Z 20 0) m)])) (ps := [9]) (i := 4) rfl hs)
    · obtain ⟨⟨(h4 : vals 4 = .pointer (some ⟨s, 0, none⟩)), t4⟩, _⟩ := hk
      simp only [h4]
      clear h4
      go_wp2_with fail
      exact postS_mk _ rfl rfl (stage_keep (A := (stgs [QA w s b v c d bs nm I B t Z, QA w s b v c d bs nm I B t (rkS Z op (Z 20 0) m)])) (ps := [9]) (i := 5) rfl hs)
    · obtain ⟨⟨(h5 : vals 5 = .pointer (some ⟨s, 0, none⟩)), t5⟩, _⟩ := hk
      simp only [h5]
      clear h5
      go_wp2_with fail
      exact postS_mk _ rfl rfl (stage_keep (A := (stgs [QA w s b v c d bs nm I B t Z, QA w s b v c d bs nm I B t (rkS Z op (Z 20 0) m)])) (ps := [9]) (i := 6) rfl hs)
    · obtain ⟨⟨(h6 : vals 6 = .pointer (some ⟨s, 0, none⟩)), t6⟩, _⟩ := hk
      simp only [h6]
      clear h6
      have d9 := not_yet hc hi 9 60 (by kernel_rfl)
      have hn : cntD [9] dn = 0 := by show (if dn 9 = true then 1 else 0) + 0 = 0; rw [d9]; rfl
      have hs1 := stage_at (A := (stgs [QA w s b v c d bs nm I B t Z, QA w s b v c d bs nm I B t (rkS Z op (Z 20 0) m)])) hn hs
      have q := (show QA w s b v c d bs nm I B t Z x from hs1).1.reg 0 (by decide)
      go_wp2_with fail
      exact postS_mk _ rfl rfl (stage_keep (A := (stgs [QA w s b v c d bs nm I B t Z, QA w s b v c d bs nm I B t (rkS Z op (Z 20 0) m)])) (ps := [9]) (i := 7) rfl hs)
    · set_option maxRecDepth 20000 in
      go_wp2_with fail
      exact postS_mk _ rfl rfl (stage_keep (A := (stgs [QA w s b v c d bs nm I B t Z, QA w s b v c d bs nm I B t (rkS Z op (Z 20 0) m)])) (ps := [9]) (i := 8) rfl hs)
    · obtain ⟨⟨(h0 : vals 0 = .pointer (some ⟨s, 0, none⟩)), t0⟩, ⟨(h1 : vals 1 = .string nn), t1⟩, ⟨(h7 : vals 7 = .int .i64 (Z 20 0)), t7⟩, ⟨(h8 : vals 8 = .int .i64 m), t8⟩, _⟩ := hk
      simp only [h0, h1, h7, h8]
      clear h0 h1 h7 h8
      have d9 := hi
      have hn : cntD [9] dn = 0 := by show (if dn 9 = true then 1 else 0) + 0 = 0; rw [d9]; rfl
      have hs1 := stage_at (A := (stgs [QA w s b v c d bs nm I B t Z, QA w s b v c d bs nm I B t (rkS Z op (Z 20 0) m)])) hn hs
      have hn2 : cntD [9] (updD dn 9) = 1 := by show (if updD dn 9 9 = true then 1 else 0) + 0 = 1; rw [updD_same]; rfl
      have HN2 := hide hn2
      clear hn hn2 
      have HS := hide hs1
      clear hs hs1
      go_wp2_with fail
      refine (KR.out _ HS.out).mono ?_
      rintro e x2 ⟨rfl, h2⟩
      have H2 := hide h2
      clear h2 HS
      go_wp2_with fail
      exact postS_mk _ rfl rfl (stage_of (A := (stgs [QA w s b v c d bs nm I B t Z, QA w s b v c d bs nm I B t (rkS Z op (Z 20 0) m)])) HN2.out H2.out)
    · obtain ⟨⟨(h9 : vals 9 = .int .i64 r), t9⟩, _, ⟨(h0 : vals 0 = .pointer (some ⟨s, 0, none⟩)), t0⟩, ⟨(h1 : vals 1 = .string nn), t1⟩, ⟨(h2 : vals 2 = .pointer (some ⟨s, 0, none⟩)), t2⟩, ⟨(h3 : vals 3 = .pointer (some ⟨s, 0, none⟩)), t3⟩, ⟨(h4 : vals 4 = .pointer (some ⟨s, 0, none⟩)), t4⟩, ⟨(h5 : vals 5 = .pointer (some ⟨s, 0, none⟩)), t5⟩, ⟨(h6 : vals 6 = .pointer (some ⟨s, 0, none⟩)), t6⟩, ⟨(h7 : vals 7 = .int .i64 (Z 20 0)), t7⟩, ⟨(h8 : vals 8 = .int .i64 m), t8⟩, _, _⟩ := hk
      simp only [h9]
      clear h9 h0 h1 h2 h3 h4 h5 h6 h7 h8
      go_wp2_with fail
      exact postS_mk _ rfl rfl (stage_keep (A := (stgs [QA w s b v c d bs nm I B t Z, QA w s b v c d bs nm I B t (rkS Z op (Z 20 0) m)])) (ps := [9]) (i := 10) rfl hs)
  rintro vals dn x hall hs hv
  obtain ⟨_, _, _, _, _, _, _, _, _, _, (h10 : vals 10 = .int .i64 r), _⟩ := hv
  simp only [h10]
  clear h10
  have hn : cntD [9] dn = 1 := by show (if dn 9 = true then 1 else 0) + 0 = 1; rw [hall 9 (by decide)]; rfl
  have hs := stage_at (A := (stgs [QA w s b v c d bs nm I B t Z, QA w s b v c d bs nm I B t (rkS Z op (Z 20 0) m)])) hn hs
  clear hn hall
  obtain ⟨h2, o2⟩ : QA w s b v c d bs nm I B t (rkS Z op (Z 20 0) m) x := hs
  have H2 := hide h2
  have O2 := hide o2
  clear h2 o2
  go_wp2
  go_ret
  exact ⟨rfl, H2.out, O2.out⟩
def chS (I : Nat → Int) (r : Int) (Z : Nat → Nat → Int) : Nat → Nat → Int := if I 0 = 1 then setR Z 0 r else wS Z (I 6) r
def caS (bs : List Int) (I : Nat → Int) (op : Int) (Z : Nat → Nat → Int) : Nat → Nat → Int := chS I (rkV op (Z 20 0) (mV bs I Z) (Z 20 4)) (rkS (mS I Z) op (Z 20 0) (mV bs I Z))
set_option maxHeartbeats 1000000 in
theorem change_alu {w : World} {s b v c d : Nat} {bs : List Int} {nm : ByteArray} {I B : Nat → Int} {t : Bool} {Z : Nat → Nat → Int} (h : HasQ w s b v c d bs nm I B t Z) {g1 g2 : Nat} {nn : ByteArray} (hb : Boxes s b v g1 g2 nn w) (op : Int) (KO : ∀ w, Calls Tryz.prog 95 #[.string nn] w fun e w' => e = Ending.returned (.int .i64 op) ∧ w' = w) : Calls Tryz.prog 49 #[.pointer (some ⟨s, 0, none⟩), .func (.func 50) #[] #[.pointer (some ⟨g1, 0, none⟩), .pointer (some ⟨g2, 0, none⟩)]] w fun e w' => e = Ending.returned (.tuple #[]) ∧ HasQ w' s b v c d bs nm I B t (caS bs I op Z) ∧ OnlyE (EQ s b v) w w' := by
  have HE := hide h
  have HB := hide hb
  replace KO := hide KO
  unfold caS
  have RI := hide (rk_in op (Z 20 0) (mV bs I Z) (Z 20 4)).1
  have E20 := hide (mS_20 I Z)
  obtain ⟨r, hr⟩ : ∃ r, rkV op (Z 20 0) (mV bs I Z) (Z 20 4) = r := ⟨_, rfl⟩
  have HR := hide hr
  rw [hr] at RI ⊢
  generalize hX : chS I r (rkS (mS I Z) op (Z 20 0) (mV bs I Z)) = X
  have HX := hide hX
  clear h hb hr hX
  go_enter Tryz.func49, Tryz.ntmps49
  go_wp2_with fail
  refine (m_is HE.out).mono ?_
  rintro e w1 ⟨rfl, h1, o1⟩
  have H1 := hide h1
  have O1 := hide o1
  have B1 := hide (HB.out.only o1)
  clear h1 o1 HE HB
  go_wp2_with fail
  refine (clo1_is H1.out B1.out op (mV bs I Z) KO.out).mono ?_
  rintro e w2 ⟨rfl, h2, o2⟩
  rw [E20.out] at h2; rw [E20.out, HR.out]
  have H2 := hide h2
  have O2 := hide (O1.out.trans o2)
  have c11 := h2.mode
  have c23 := h2.plac
  clear h2 o2 H1 O1 B1
  by_cases h1 : I 0 = 1
  · rw [h1] at c11
    have c0 := H2.out.reg 0 (by decide)
    have z0 := H2.out.frz 0
    have H3 := hide (H2.out.putR 0 (by decide) r (gz_up (H2.out.good 20) 0 (by decide) _ RI.out.1 RI.out.2))
    have O3 := hide (eq_set O2.out 0 (.int .i64 r))
    clear H2 O2
    go_wp2
    refine bodyPost_end (P := Tryz.prog) (fn := Tryz.f49) (results_none rfl _ _ _) (by rfl) ?_
    refine ⟨rfl, ?_, O3.out⟩
    rw [← HX.out]
    unfold chS
    rw [if_pos h1]
    exact H3.out
  · have hq : (I 0 == 1) = false := by simp [h1]
    go_wp2_with fail
    refine (write_is H2.out (I 6) r).mono ?_
    rintro e w3 ⟨rfl, h3, o3⟩
    have H3 := hide h3
    have O3 := hide (O2.out.trans o3)
    clear h3 o3 H2 O2
    go_wp2
    refine bodyPost_end (P := Tryz.prog) (fn := Tryz.f49) (results_none rfl _ _ _) (by rfl) ?_
    refine ⟨rfl, ?_, O3.out⟩
    rw [← HX.out]
    unfold chS
    rw [if_neg h1]
    exact H3.out
end Go.Proofs.YtoijhhbiknhlnaaGreatDoor.L25
