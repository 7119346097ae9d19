/- Texts put together. -/
import Derived.Test.YtoijhhbiknhlnaaGreatDoorCpuCountsJ37
import Derived.Test.YtoijhhbiknhlnaaGreatDoorCpuCountsJ28
import Derived.Test.YtoijhhbiknhlnaaGreatDoorRows
import Derived.Test.YtoijhhbiknhlnaaGreatDoorCpuCountsJ01
import Derived.ChangeSame
import Derived.ChangeVars
import Derived.JoinedOf
import Derived.RowKit
import Derived.RowKitTokens
import Derived.LaidLaws
import Derived.LaidHandle
import Derived.Stop.Joined
import Derived.Laws.Rows
import Derived.Laws.Tables
namespace Go.Proofs.YtoijhhbiknhlnaaGreatDoor.L25
set_option maxRecDepth 20000
open A2 B4 C3 G6 I11 J23 K9 L24 M5 N8 O7 P22 R15 T10 V12 W13
open Go.RowKit
set_option linter.unusedVariables false
theorem str_is {a : ByteArray} {l : List UInt8} {r : Bool} (h : (a.data.toList == l) = r) : (a.toList == l) = r := by
  rw [ByteArray.toList_eq]
  exact h
def gfS (I : Nat → Int) (Z : Nat → Nat → Int) : Nat → Nat → Int := setR Z 5 (wOf (Z 20 5) (signOf (I 5)))
set_option maxHeartbeats 1000000 in
theorem goFar_is {w : World} {s b v c d : Nat} {bs : List Int} {nm : ByteArray} {I B : Nat → Int} {t : Bool} {Z : Nat → Nat → Int} (h : HasQ w s b v c d bs nm I B t Z) : Calls Tryz.prog 98 #[.pointer (some ⟨s, 0, none⟩)] w fun e w' => e = Ending.returned (.tuple #[]) ∧ HasQ w' s b v c d bs nm I B t (gfS I Z) ∧ OnlyE (EQ s b v) w w' := by
  have HE := hide h
  unfold gfS
  have VI := hide (wOf_le (Z 20 5) (signOf (I 5)))
  have KT := hide (fun w => target_any (Z 20 5) (I 5) w)
  generalize wOf (Z 20 5) (signOf (I 5)) = V at *
  clear h
  go_enter Tryz.func98, Tryz.ntmps98
  go_wp2_with fail
  refine wp_region_state (ofList [.pointer (some ⟨s, 0, none⟩), .pointer (some ⟨s, 0, none⟩), .pointer (some ⟨s, 0, none⟩), .pointer (some ⟨s, 0, none⟩), .pointer (some ⟨s, 0, none⟩), .pointer (some ⟨s, 5, none⟩), .int .i64 (Z 20 5), .pointer (some ⟨s, 0, none⟩), .pointer (some ⟨s, 0, none⟩), .pointer (some ⟨s, 22, none⟩), .int .i64 (I 5), .int .i64 V, .pointer (some ⟨s, 0, none⟩), .pointer (some ⟨s, 0, none⟩), .pointer (some ⟨s, 0, none⟩), .pointer (some ⟨s, 5, none⟩), undef]) (fun dd ww => (stgs [QA w s b v c d bs nm I B t Z, QA w s b v c d bs nm I B t (setR Z 5 V)]) (cntD [16] dd) ww) _ (fun vals => by simp only [putAll, Act.put, List.setIfInBounds_toArray, List.set_cons_succ, List.set_cons_zero, Nat.reduceAdd]; rfl) (by kernel_rfl) (by kernel_rfl) (by kernel_rfl) (fun dn hd => stage_none (A := (stgs [QA w s b v c d bs nm I B t Z, QA w s b v c d bs nm I B t (setR Z 5 V)])) hd (QA.mk HE.out)) ?_ ?_
  · refine stepsS_cons (fun vals dn x hi hc hk hs => ?_) (stepsS_cons (fun vals dn x hi hc hk hs => ?_) (stepsS_cons (fun vals dn x hi hc hk hs => ?_) (stepsS_cons (fun vals dn x hi hc hk hs => ?_) (stepsS_cons (fun vals dn x hi hc hk hs => ?_) (stepsS_cons (fun vals dn x hi hc hk hs => ?_) (stepsS_cons (fun vals dn x hi hc hk hs => ?_) (stepsS_cons (fun vals dn x hi hc hk hs => ?_) (stepsS_cons (fun vals dn x hi hc hk hs => ?_) (stepsS_cons (fun vals dn x hi hc hk hs => ?_) (stepsS_cons (fun vals dn x hi hc hk hs => ?_) (stepsS_cons (fun vals dn x hi hc hk hs => ?_) (stepsS_cons (fun vals dn x hi hc hk hs => ?_) (stepsS_cons (fun vals dn x hi hc hk hs => ?_) (stepsS_cons (fun vals dn x hi hc hk hs => ?_) (stepsS_cons (fun vals dn x hi hc hk hs => ?_) (stepsS_cons (fun vals dn x hi hc hk hs => ?_) stepsS_nil))))))))))))))))
    · set_option maxRecDepth 20000 in
      go_wp2_with fail
      exact postS_mk _ rfl rfl (stage_keep (A := (stgs [QA w s b v c d bs nm I B t Z, QA w s b v c d bs nm I B t (setR Z 5 V)])) (ps := [16]) (i := 0) rfl hs)
    · set_option maxRecDepth 20000 in
      go_wp2_with fail
      exact postS_mk _ rfl rfl (stage_keep (A := (stgs [QA w s b v c d bs nm I B t Z, QA w s b v c d bs nm I B t (setR Z 5 V)])) (ps := [16]) (i := 1) rfl hs)
    · obtain ⟨⟨(h1 : vals 1 = .pointer (some ⟨s, 0, none⟩)), t1⟩, _⟩ := hk
      simp only [h1]
      clear h1
      go_wp2_with fail
      exact postS_mk _ rfl rfl (stage_keep (A := (stgs [QA w s b v c d bs nm I B t Z, QA w s b v c d bs nm I B t (setR Z 5 V)])) (ps := [16]) (i := 2) rfl hs)
    · obtain ⟨⟨(h2 : vals 2 = .pointer (some ⟨s, 0, none⟩)), t2⟩, _⟩ := hk
      simp only [h2]
      clear h2
      go_wp2_with fail
      exact postS_mk _ rfl rfl (stage_keep (A := (stgs [QA w s b v c d bs nm I B t Z, QA w s b v c d bs nm I B t (setR Z 5 V)])) (ps := [16]) (i := 3) rfl hs)
    · obtain ⟨⟨(h3 : vals 3 = .pointer (some ⟨s, 0, none⟩)), t3⟩, _⟩ := hk
      simp only [h3]
      clear h3
      go_wp2_with fail
      exact postS_mk _ rfl rfl (stage_keep (A := (stgs [QA w s b v c d bs nm I B t Z, QA w s b v c d bs nm I B t (setR Z 5 V)])) (ps := [16]) (i := 4) rfl hs)
    · obtain ⟨⟨(h4 : vals 4 = .pointer (some ⟨s, 0, none⟩)), t4⟩, _⟩ := hk
      simp only [h4]
      clear h4
      go_wp2_with fail
      exact postS_mk _ rfl rfl (stage_keep (A := (stgs [QA w s b v c d bs nm I B t Z, QA w s b v c d bs nm I B t (setR Z 5 V)])) (ps := [16]) (i := 5) rfl hs)
    · obtain ⟨⟨(h5 : vals 5 = .pointer (some ⟨s, 5, none⟩)), t5⟩, _⟩ := hk
      simp only [h5]
      clear h5
      have d16 := not_yet hc hi 16 60 (by kernel_rfl)
      have hn : cntD [16] dn = 0 := by show (if dn 16 = true then 1 else 0) + 0 = 0; rw [d16]; rfl
      have hs1 := stage_at (A := (stgs [QA w s b v c d bs nm I B t Z, QA w s b v c d bs nm I B t (setR Z 5 V)])) hn hs
      have q := (show QA w s b v c d bs nm I B t Z x from hs1).1.reg 5 (by decide)
      go_wp2_with fail
      exact postS_mk _ rfl rfl (stage_keep (A := (stgs [QA w s b v c d bs nm I B t Z, QA w s b v c d bs nm I B t (setR Z 5 V)])) (ps := [16]) (i := 6) rfl hs)
    · set_option maxRecDepth 20000 in
      go_wp2_with fail
      exact postS_mk _ rfl rfl (stage_keep (A := (stgs [QA w s b v c d bs nm I B t Z, QA w s b v c d bs nm I B t (setR Z 5 V)])) (ps := [16]) (i := 7) rfl hs)
    · obtain ⟨⟨(h7 : vals 7 = .pointer (some ⟨s, 0, none⟩)), t7⟩, _⟩ := hk
      simp only [h7]
      clear h7
      go_wp2_with fail
      exact postS_mk _ rfl rfl (stage_keep (A := (stgs [QA w s b v c d bs nm I B t Z, QA w s b v c d bs nm I B t (setR Z 5 V)])) (ps := [16]) (i := 8) rfl hs)
    · obtain ⟨⟨(h8 : vals 8 = .pointer (some ⟨s, 0, none⟩)), t8⟩, _⟩ := hk
      simp only [h8]
      clear h8
      go_wp2_with fail
      exact postS_mk _ rfl rfl (stage_keep (A := (stgs [QA w s b v c d bs nm I B t Z, QA w s b v c d bs nm I B t (setR Z 5 V)])) (ps := [16]) (i := 9) rfl hs)
    · obtain ⟨⟨(h9 : vals 9 = .pointer (some ⟨s, 22, none⟩)), t9⟩, _⟩ := hk
      simp only [h9]
      clear h9
      have d16 := not_yet hc hi 16 60 (by kernel_rfl)
      have hn : cntD [16] dn = 0 := by show (if dn 16 = true then 1 else 0) + 0 = 0; rw [d16]; rfl
      have hs1 := stage_at (A := (stgs [QA w s b v c d bs nm I B t Z, QA w s b v c d bs nm I B t (setR Z 5 V)])) hn hs
      have q := (show QA w s b v c d bs nm I B t Z x from hs1).1.farr
      go_wp2_with fail
      exact postS_mk _ rfl rfl (stage_keep (A := (stgs [QA w s b v c d bs nm I B t Z, QA w s b v c d bs nm I B t (setR Z 5 V)])) (ps := [16]) (i := 10) rfl hs)
    · obtain ⟨⟨(h6 : vals 6 = .int .i64 (Z 20 5)), t6⟩, ⟨(h10 : vals 10 = .int .i64 (I 5)), t10⟩, _⟩ := hk
      simp only [h6, h10]
      clear h6 h10
      have d16 := not_yet hc hi 16 60 (by kernel_rfl)
      have hn : cntD [16] dn = 0 := by show (if dn 16 = true then 1 else 0) + 0 = 0; rw [d16]; rfl
      have hs1 := stage_at (A := (stgs [QA w s b v c d bs nm I B t Z, QA w s b v c d bs nm I B t (setR Z 5 V)])) hn hs
      have HS := hide hs
      clear hs hs1
      go_wp2_with fail
      refine (KT.out _).mono ?_
      rintro e x2 ⟨rfl, hw⟩
      subst x2
      go_wp2_with fail
      exact postS_mk _ rfl rfl (stage_keep (A := (stgs [QA w s b v c d bs nm I B t Z, QA w s b v c d bs nm I B t (setR Z 5 V)])) (ps := [16]) (i := 11) rfl HS.out)
    · obtain ⟨⟨(h0 : vals 0 = .pointer (some ⟨s, 0, none⟩)), t0⟩, _, ⟨(h1 : vals 1 = .pointer (some ⟨s, 0, none⟩)), t1⟩, ⟨(h2 : vals 2 = .pointer (some ⟨s, 0, none⟩)), t2⟩, ⟨(h3 : vals 3 = .pointer (some ⟨s, 0, none⟩)), t3⟩, ⟨(h4 : vals 4 = .pointer (some ⟨s, 0, none⟩)), t4⟩, ⟨(h5 : vals 5 = .pointer (some ⟨s, 5, none⟩)), t5⟩, ⟨(h6 : vals 6 = .int .i64 (Z 20 5)), t6⟩, ⟨(h7 : vals 7 = .pointer (some ⟨s, 0, none⟩)), t7⟩, ⟨(h8 : vals 8 = .pointer (some ⟨s, 0, none⟩)), t8⟩, ⟨(h9 : vals 9 = .pointer (some ⟨s, 22, none⟩)), t9⟩, ⟨(h10 : vals 10 = .int .i64 (I 5)), t10⟩, ⟨(h11 : vals 11 = .int .i64 V), t11⟩, _⟩ := hk
      simp only [h0]
      clear h0 h1 h2 h3 h4 h5 h6 h7 h8 h9 h10 h11
      go_wp2_with fail
      exact postS_mk _ rfl rfl (stage_keep (A := (stgs [QA w s b v c d bs nm I B t Z, QA w s b v c d bs nm I B t (setR Z 5 V)])) (ps := [16]) (i := 12) rfl hs)
    · obtain ⟨⟨(h12 : vals 12 = .pointer (some ⟨s, 0, none⟩)), t12⟩, ⟨(h0 : vals 0 = .pointer (some ⟨s, 0, none⟩)), t0⟩, ⟨(h1 : vals 1 = .pointer (some ⟨s, 0, none⟩)), t1⟩, ⟨(h2 : vals 2 = .pointer (some ⟨s, 0, none⟩)), t2⟩, ⟨(h3 : vals 3 = .pointer (some ⟨s, 0, none⟩)), t3⟩, ⟨(h4 : vals 4 = .pointer (some ⟨s, 0, none⟩)), t4⟩, ⟨(h5 : vals 5 = .pointer (some ⟨s, 5, none⟩)), t5⟩, ⟨(h6 : vals 6 = .int .i64 (Z 20 5)), t6⟩, ⟨(h7 : vals 7 = .pointer (some ⟨s, 0, none⟩)), t7⟩, ⟨(h8 : vals 8 = .pointer (some ⟨s, 0, none⟩)), t8⟩, ⟨(h9 : vals 9 = .pointer (some ⟨s, 22, none⟩)), t9⟩, ⟨(h10 : vals 10 = .int .i64 (I 5)), t10⟩, ⟨(h11 : vals 11 = .int .i64 V), t11⟩, _⟩ := hk
      simp only [h12]
      clear h12 h0 h1 h2 h3 h4 h5 h6 h7 h8 h9 h10 h11
      go_wp2_with fail
      exact postS_mk _ rfl rfl (stage_keep (A := (stgs [QA w s b v c d bs nm I B t Z, QA w s b v c d bs nm I B t (setR Z 5 V)])) (ps := [16]) (i := 13) rfl hs)
    · obtain ⟨⟨(h13 : vals 13 = .pointer (some ⟨s, 0, none⟩)), t13⟩, ⟨(h0 : vals 0 = .pointer (some ⟨s, 0, none⟩)), t0⟩, ⟨(h1 : vals 1 = .pointer (some ⟨s, 0, none⟩)), t1⟩, ⟨(h2 : vals 2 = .pointer (some ⟨s, 0, none⟩)), t2⟩, ⟨(h3 : vals 3 = .pointer (some ⟨s, 0, none⟩)), t3⟩, ⟨(h4 : vals 4 = .pointer (some ⟨s, 0, none⟩)), t4⟩, ⟨(h5 : vals 5 = .pointer (some ⟨s, 5, none⟩)), t5⟩, ⟨(h6 : vals 6 = .int .i64 (Z 20 5)), t6⟩, ⟨(h7 : vals 7 = .pointer (some ⟨s, 0, none⟩)), t7⟩, ⟨(h8 : vals 8 = .pointer (some ⟨s, 0, none⟩)), t8⟩, ⟨(h9 : vals 9 = .pointer (some ⟨s, 22, none⟩)), t9⟩, ⟨(h10 : vals 10 = .int .i64 (I 5)), t10⟩, ⟨(h11 : vals 11 = .int .i64 V), t11⟩, _⟩ := hk
      simp only [h13]
      clear h13 h0 h1 h2 h3 h4 h5 h6 h7 h8 h9 h10 h11
      go_wp2_with fail
      exact postS_mk _ rfl rfl (stage_keep (A := (stgs [QA w s b v c d bs nm I B t Z, QA w s b v c d bs nm I B t (setR Z 5 V)])) (ps := [16]) (i := 14) rfl hs)
    · obtain ⟨⟨(h14 : vals 14 = .pointer (some ⟨s, 0, none⟩)), t14⟩, ⟨(h0 : vals 0 = .pointer (some ⟨s, 0, none⟩)), t0⟩, ⟨(h1 : vals 1 = .pointer (some ⟨s, 0, none⟩)), t1⟩, ⟨(h2 : vals 2 = .pointer (some ⟨s, 0, none⟩)), t2⟩, ⟨(h3 : vals 3 = .pointer (some ⟨s, 0, none⟩)), t3⟩, ⟨(h4 : vals 4 = .pointer (some ⟨s, 0, none⟩)), t4⟩, ⟨(h5 : vals 5 = .pointer (some ⟨s, 5, none⟩)), t5⟩, ⟨(h6 : vals 6 = .int .i64 (Z 20 5)), t6⟩, ⟨(h7 : vals 7 = .pointer (some ⟨s, 0, none⟩)), t7⟩, ⟨(h8 : vals 8 = .pointer (some ⟨s, 0, none⟩)), t8⟩, ⟨(h9 : vals 9 = .pointer (some ⟨s, 22, none⟩)), t9⟩, ⟨(h10 : vals 10 = .int .i64 (I 5)), t10⟩, ⟨(h11 : vals 11 = .int .i64 V), t11⟩, _⟩ := hk
      simp only [h14]
      clear h14 h0 h1 h2 h3 h4 h5 h6 h7 h8 h9 h10 h11
      go_wp2_with fail
      exact postS_mk _ rfl rfl (stage_keep (A := (stgs [QA w s b v c d bs nm I B t Z, QA w s b v c d bs nm I B t (setR Z 5 V)])) (ps := [16]) (i := 15) rfl hs)
    · obtain ⟨⟨(h15 : vals 15 = .pointer (some ⟨s, 5, none⟩)), t15⟩, ⟨(h11 : vals 11 = .int .i64 V), t11⟩, _, ⟨(h0 : vals 0 = .pointer (some ⟨s, 0, none⟩)), t0⟩, ⟨(h1 : vals 1 = .pointer (some ⟨s, 0, none⟩)), t1⟩, ⟨(h2 : vals 2 = .pointer (some ⟨s, 0, none⟩)), t2⟩, ⟨(h3 : vals 3 = .pointer (some ⟨s, 0, none⟩)), t3⟩, ⟨(h4 : vals 4 = .pointer (some ⟨s, 0, none⟩)), t4⟩, ⟨(h5 : vals 5 = .pointer (some ⟨s, 5, none⟩)), t5⟩, ⟨(h6 : vals 6 = .int .i64 (Z 20 5)), t6⟩, ⟨(h7 : vals 7 = .pointer (some ⟨s, 0, none⟩)), t7⟩, ⟨(h8 : vals 8 = .pointer (some ⟨s, 0, none⟩)), t8⟩, ⟨(h9 : vals 9 = .pointer (some ⟨s, 22, none⟩)), t9⟩, ⟨(h10 : vals 10 = .int .i64 (I 5)), t10⟩, _, _⟩ := hk
      simp only [h15, h11]
      clear h15 h11 h0 h1 h2 h3 h4 h5 h6 h7 h8 h9 h10
      have d16 := hi
      have hn : cntD [16] dn = 0 := by show (if dn 16 = true then 1 else 0) + 0 = 0; rw [d16]; rfl
      have hs1 := stage_at (A := (stgs [QA w s b v c d bs nm I B t Z, QA w s b v c d bs nm I B t (setR Z 5 V)])) hn hs
      have hn2 : cntD [16] (updD dn 16) = 1 := by show (if updD dn 16 16 = true then 1 else 0) + 0 = 1; rw [updD_same]; rfl
      have HN2 := hide hn2
      clear hn hn2 
      have q := (fun h : QA w s b v c d bs nm I B t Z x => h.1.reg 5 (by decide)) hs1
      have z := (fun h : QA w s b v c d bs nm I B t Z x => h.1.frz 5) hs1
      have H2 := hide ((fun h : QA w s b v c d bs nm I B t Z x => show QA w s b v c d bs nm I B t (setR Z 5 V) _ from ⟨h.1.putR 5 (by decide) V (gz_up5 (h.1.good 20) _ VI.out.1 (by have := VI.out.2; omega)), eq_set h.2 5 _⟩) hs1)
      clear hs hs1
      go_wp2_with fail
      exact postS_mk _ rfl rfl (stage_of (A := (stgs [QA w s b v c d bs nm I B t Z, QA w s b v c d bs nm I B t (setR Z 5 V)])) HN2.out H2.out)
  rintro vals dn x hall hs hv
  clear hv
  have hn : cntD [16] dn = 1 := by show (if dn 16 = true then 1 else 0) + 0 = 1; rw [hall 16 (by decide)]; rfl
  have hs := stage_at (A := (stgs [QA w s b v c d bs nm I B t Z, QA w s b v c d bs nm I B t (setR Z 5 V)])) hn hs
  clear hn hall
  obtain ⟨h2, o2⟩ : QA w s b v c d bs nm I B t (setR Z 5 V) x := hs
  have H2 := hide h2
  have O2 := hide o2
  clear h2 o2
  go_wp2
  go_end0
  exact ⟨rfl, H2.out, O2.out⟩
def brS (I : Nat → Int) (on asked : Bool) (Z : Nat → Nat → Int) : Nat → Nat → Int := if on = asked then gfS I (cyc Z 2) else Z
set_option maxHeartbeats 1000000 in
theorem branchWhere_is {w : World} {s b v c d : Nat} {bs : List Int} {nm : ByteArray} {I B : Nat → Int} {t : Bool} {Z : Nat → Nat → Int} (h : HasQ w s b v c d bs nm I B t Z) (on asked : Bool) : Calls Tryz.prog 55 #[.pointer (some ⟨s, 0, none⟩), .bool on, .bool asked] w fun e w' => e = Ending.returned (.tuple #[]) ∧ HasQ w' s b v c d bs nm I B t (brS I on asked Z) ∧ OnlyE (EQ s b v) w w' := by
  have HE := hide h
  unfold brS
  by_cases ho : on = asked
  · rw [if_pos ho]
    subst ho
    have c9 := h.cycs
    have z9 := h.frz 9
    have H1 := hide (h.putC (wrap64 (Z 23 0 + 2)))
    have O1 := hide (eq_set (eq_of (s := s) (b := b) (v := v) (Below.refl _ w)) 9 (.int .i64 (wrap64 (Z 23 0 + 2))))
    clear h HE
    go_enter Tryz.func55, Tryz.ntmps55
    go_wp2_with fail
    refine (goFar_is (Z := cyc Z 2) H1.out).mono ?_
    rintro e w1 ⟨rfl, h1, o1⟩
    have H2 := hide h1
    have O2 := hide (O1.out.trans o1)
    clear h1 o1 H1 O1
    go_wp2
    go_end0
    exact ⟨rfl, H2.out, O2.out⟩
  · rw [if_neg ho]
    have ho2 : (on == asked) = false := by simp [ho]
    clear h
    go_enter Tryz.func55, Tryz.ntmps55
    go_wp2
    go_end0
    exact ⟨rfl, HE.out, eq_of (Below.refl _ _)⟩
end Go.Proofs.YtoijhhbiknhlnaaGreatDoor.L25
namespace Go.Proofs.YtoijhhbiknhlnaaGreatDoor.L25
set_option maxRecDepth 20000
open A2 B4 C3 G6 I11 J23 K9 L24 M5 N8 O7 P22 R15 T10 V12 W13
open Go.RowKit
set_option linter.unusedVariables false
set_option maxHeartbeats 1000000 in
theorem flag_BNE {w : World} {s b v c d : Nat} {bs : List Int} {nm : ByteArray} {I B : Nat → Int} {t : Bool} {Z : Nat → Nat → Int} (h : HasQ w s b v c d bs nm I B t Z) (nn : ByteArray) (j0 : (nn.toList == [66, 80, 76]) = false) (j1 : (nn.toList == [66, 77, 73]) = false) (j2 : (nn.toList == [66, 86, 67]) = false) (j3 : (nn.toList == [66, 86, 83]) = false) (j4 : (nn.toList == [66, 67, 67]) = false) (j5 : (nn.toList == [66, 67, 83]) = false) (j6 : (nn.toList == [66, 78, 69]) = true) : Calls Tryz.prog 57 #[.pointer (some ⟨s, 0, none⟩), .string nn] w fun e w' => e = Ending.returned (.tuple #[]) ∧ HasQ w' s b v c d bs nm I B t (brS I (hasF (Z 20 4) 2) false Z) ∧ OnlyE (EQ s b v) w w' := by
  have HE := hide h
  have KH := hide (has_is h 2)
  clear h
  go_enter Tryz.func57, Tryz.ntmps57
  go_wp2_with (first | (go_at_call 39; refine KH.out.mono ?_; rintro e w' ⟨rfl, hw⟩; subst w') | fail)
  refine (branchWhere_is HE.out _ _).mono ?_
  rintro e w1 ⟨rfl, h1, o1⟩
  have H1 := hide h1
  have O1 := hide o1
  clear h1 o1 HE
  go_wp2
  refine bodyPost_end (P := Tryz.prog) (fn := Tryz.f57) (results_none rfl _ _ _) (by rfl) ?_
  exact ⟨rfl, H1.out, O1.out⟩
end Go.Proofs.YtoijhhbiknhlnaaGreatDoor.L25
namespace Go.Proofs.YtoijhhbiknhlnaaGreatDoor.K9
set_option maxRecDepth 20000
open Go.RowKit
set_option linter.unusedVariables false
theorem under_name {P : Program} {c : Code} {Q : Exit → Act → World → Prop} {a : Act} {w : World} (h : ∀ wa, wa = w → Code.wp P c Q a wa) : Code.wp P c Q a w := h w rfl
end Go.Proofs.YtoijhhbiknhlnaaGreatDoor.K9
namespace Go.Proofs.YtoijhhbiknhlnaaGreatDoor.K9
set_option maxRecDepth 20000
open Go.ChangeShapes Go.WideShapes Go.RowKit
set_option linter.unusedVariables false
def nameCells : Array Value := #[.string ⟨#[84, 73, 73]⟩, .string ⟨#[84, 68, 68]⟩, .string ⟨#[84, 73, 78]⟩, .string ⟨#[84, 73, 65]⟩, .string ⟨#[84, 65, 73]⟩]
abbrev laidPaths : List (String × DataW Unit) := [("phosphor/block.paths", Rows.laid_phosphor_block_paths)]
theorem Tryz.gPaths : Tryz.prog.globalNamed "phosphor/block.paths" = some 3 := by kernel_rfl
theorem Tryz.tPaths : (Tryz.prog.globals[3]?).map (·.type) = some 202 := by kernel_rfl
theorem paths_flat : flat Tryz.prog 40 202 Rows.laid_phosphor_block_paths = some pathCells.toList := by kernel_rfl
theorem Tryz.gNames : Tryz.prog.globalNamed "phosphor/block.names" = some 2 := by kernel_rfl
theorem Tryz.tNames : (Tryz.prog.globals[2]?).map (·.type) = some 201 := by kernel_rfl
theorem names_flat : flat Tryz.prog 40 201 Rows.laid_phosphor_block_names = some nameCells.toList := by kernel_rfl
theorem laid_paths {W : World} (h : laidMetH Tryz.prog laidPaths W) : HasPaths W := by
  have h : laidMet Tryz.prog laidPaths W := h
  obtain ⟨ps, ⟨g, t, cs, fuel, p, q, e1, e2, e3, e4, _, _⟩, _⟩ := h
  obtain rfl := Option.some.inj (Tryz.gPaths.symm.trans e1)
  obtain rfl := Option.some.inj (Tryz.tPaths.symm.trans e2)
  have hc := flat_at 40 fuel 202 _ _ _ _ paths_flat e4
  have hc2 : cs = pathCells := Array.toList_inj.1 hc
  subst hc2
  simp only [World.var?, Tryz.gPaths, Option.bind_some] at e3
  split at e3
  · rename_i cs' t' fr hh
    obtain rfl := Option.some.inj e3
    exact ⟨t', fr, hh⟩
  · cases e3
noncomputable def laidWorld (os : Os) : World :=
  let w0 := World.holding Tryz.prog os ⟨#[], #[], []⟩
  { w0 with heap := (w0.heap.modify 3 fun
      | .cells _ t frozen => .cells pathCells t frozen
      | o => o).modify 2 fun
      | .cells _ t frozen => .cells nameCells t frozen
      | o => o }
end Go.Proofs.YtoijhhbiknhlnaaGreatDoor.K9
namespace Go.Proofs.YtoijhhbiknhlnaaGreatDoor.K9
set_option maxRecDepth 20000
open Go.RowKit
set_option linter.unusedVariables false
theorem toList_eq {s y : ByteArray} (h : s.toList = y.toList) : s = y := by
  obtain ⟨⟨a⟩⟩ := s
  obtain ⟨⟨b⟩⟩ := y
  have k : (ByteArray.mk a.toArray).toList = (ByteArray.mk b.toArray).toList := h
  rw [ByteArray.toList_mk, ByteArray.toList_mk] at k
  rw [k]
end Go.Proofs.YtoijhhbiknhlnaaGreatDoor.K9
