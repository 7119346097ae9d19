/- The program's processor: how it reaches a place, reads and writes there, pushes and pulls. -/
import Derived.Test.YtnoggfnidaifkaaGreatDoorConsoleNobodyJ27
import Derived.Test.YtnoggfnidaifkaaGreatDoorConsoleNobodyJ28
namespace Go.Proofs.YtnoggfnidaifkaaGreatDoor.L25
set_option maxRecDepth 20000
open B4 C3 G6 I11 J23 K9 L24 M5 N8 O7 P22 R15 T10 V12 W13
open Go.RowKit
set_option linter.unusedVariables false
def QA (W : World) (s b v c d : Nat) (bs : List Int) (nm : ByteArray) (I B : Nat → Int) (t : Bool) (Z : Nat → Nat → Int) (x : World) : Prop := HasQ x s b v c d bs nm I B t Z ∧ OnlyE (EQ s b v) W x
theorem QA.stab {W : World} {s b v c d : Nat} {bs : List Int} {nm : ByteArray} {I B : Nat → Int} {t : Bool} {Z : Nat → Nat → Int} : Stab (QA W s b v c d bs nm I B t Z) := fun x y h k => ⟨h.1.next k, h.2.trans (eq_of k)⟩
theorem QA.mk {w : World} {s b v c d : Nat} {bs : List Int} {nm : ByteArray} {I B : Nat → Int} {t : Bool} {Z : Nat → Nat → Int} (h : HasQ w s b v c d bs nm I B t Z) : QA w s b v c d bs nm I B t Z w.drew := ⟨h.next (Below.refl _ w).drew, eq_of (Below.refl _ w).drew⟩
theorem seg_file (v c : Nat) (Z : Nat → Nat → Int) : ∀ j, j < 8 → segs (XP v c Z) (8475 + j) = iv (Z 9) j := fun j hj => by
  have q := segs_get (XP v c Z) 9 8 (iv (Z 9)) j rfl hj
  rw [IsB.off (show IsB (XP v c Z) from rfl) 9 (a := 8475) rfl] at q
  exact q
theorem reach_is {w : World} {s b v c d : Nat} {bs : List Int} {nm : ByteArray} {I B : Nat → Int} {t : Bool} {Z : Nat → Nat → Int} (h : HasQ w s b v c d bs nm I B t Z) (a : Int) : Calls Tryz.prog 153 #[.pointer (some ⟨s, 0, none⟩), .int .i64 a] w fun e w' => e = Ending.returned (.int .i64 (phZ Z a)) ∧ HasQ w' s b v c d bs nm I B t (cyc Z (slZ Z a)) ∧ OnlyE (EQ s b v) w w' := by
  have HE := hide h
  have c8 := h.buss
  have HB := hide h.2.1.1
  have SEG := hide (seg_file v c Z)
  obtain ⟨P, hP⟩ : ∃ P, phZ Z a = P := ⟨_, rfl⟩
  have KP : Hid (∀ w, Calls Tryz.prog 211 #[.agg (rowF (iv (Z 9)) 8), .int .i64 a] w fun e w' => e = Ending.returned (.int .i64 P) ∧ Below w.heap.size w w') := hide (fun w => by rw [← hP]; exact phys_any (Z 9) a w)
  have KW : Hid (∀ w, HasPorts w → Calls Tryz.prog 95 #[.int .i64 P] w fun e w' => e = Ending.returned (.agg #[.int .i64 (kindW P), .int .i64 (pageW P), .int .i64 (atW P)]) ∧ Below w.heap.size w w') := hide (fun w hT => where_any P w hT)
  obtain ⟨y, hy⟩ : ∃ y, slowK (kindW P) = y := ⟨_, rfl⟩
  have KS : Hid (∀ w, Calls Tryz.prog 212 #[.int .i64 (kindW P)] w fun e w' => e = Ending.returned (.int .i64 y) ∧ w' = w) := hide (fun w => by rw [← hy]; exact slow_any _ w)
  have pk := place_kind (.int .i64 (kindW P)) (.int .i64 (pageW P)) (.int .i64 (atW P))
  have HZ : Hid (slZ Z a = y) := hide (by unfold slZ; rw [hP, hy])
  rw [hP]
  clear h hP hy
  go_enter Tryz.func153, Tryz.ntmps153
  go_wp2_with (first
    | (refine wpList_load_part rfl 50 (.tmp 11) rfl b 8475 rfl HB.out 8 (by decide) (iv (Z 9)) SEG.out _ Tryz.underlying50 rfl (by kernel_rfl) ?_)
    | (go_at_call 211; refine (KP.out _).mono ?_; rintro e w1 ⟨rfl, b1⟩; have H1 := hide (HE.out.next b1); have O1 := hide (eq_of (s := s) (b := b) (v := v) b1); clear b1 HE HB SEG KP c8))
  refine wp_region_state (ofList [.pointer (some ⟨s, 0, none⟩), .pointer (some ⟨s, 0, none⟩), .pointer (some ⟨s, 9, none⟩), .int .i64 (Z 23 0), .int .i64 P, .agg #[.int .i64 (kindW P), .int .i64 (pageW P), .int .i64 (atW P)], .int .i64 (kindW P), .int .i64 y, .int .i64 (wrap64 (Z 23 0 + y)), .pointer (some ⟨s, 0, none⟩), .pointer (some ⟨s, 9, none⟩), undef]) (fun dd ww => (stgs [QA w1 s b v c d bs nm I B t Z, QA w1 s b v c d bs nm I B t (upZ Z 23 (oneV (wrap64 (Z 23 0 + y))))]) (cntD [11] dd) ww) _ (fun vals => by simp only [putAll, Act.put, List.setIfInBounds_toArray, List.set_cons_succ, List.set_cons_zero, Nat.reduceAdd]; rfl) (by kernel_rfl) (by kernel_rfl) (by kernel_rfl) (fun dn hd => stage_none (A := (stgs [QA w1 s b v c d bs nm I B t Z, QA w1 s b v c d bs nm I B t (upZ Z 23 (oneV (wrap64 (Z 23 0 + y))))])) hd (QA.mk H1.out)) ?_ ?_
  · refine stepsS_cons (fun vals dn x hi hc hk hs => ?_) (stepsS_cons (fun vals dn x hi hc hk hs => ?_) (stepsS_cons (fun vals dn x hi hc hk hs => ?_) (stepsS_cons (fun vals dn x hi hc hk hs => ?_) (stepsS_cons (fun vals dn x hi hc hk hs => ?_) (stepsS_cons (fun vals dn x hi hc hk hs => ?_) (stepsS_cons (fun vals dn x hi hc hk hs => ?_) (stepsS_cons (fun vals dn x hi hc hk hs => ?_) (stepsS_cons (fun vals dn x hi hc hk hs => ?_) (stepsS_cons (fun vals dn x hi hc hk hs => ?_) (stepsS_cons (fun vals dn x hi hc hk hs => ?_) (stepsS_cons (fun vals dn x hi hc hk hs => ?_) stepsS_nil)))))))))))
    · set_option maxRecDepth 20000 in
      go_wp2_with fail
      exact postS_mk _ rfl rfl (stage_keep (A := (stgs [QA w1 s b v c d bs nm I B t Z, QA w1 s b v c d bs nm I B t (upZ Z 23 (oneV (wrap64 (Z 23 0 + y))))])) (ps := [11]) (i := 0) rfl hs)
    · obtain ⟨⟨(h0 : vals 0 = .pointer (some ⟨s, 0, none⟩)), t0⟩, _⟩ := hk
      simp only [h0]
      clear h0
      go_wp2_with fail
      exact postS_mk _ rfl rfl (stage_keep (A := (stgs [QA w1 s b v c d bs nm I B t Z, QA w1 s b v c d bs nm I B t (upZ Z 23 (oneV (wrap64 (Z 23 0 + y))))])) (ps := [11]) (i := 1) rfl hs)
    · obtain ⟨⟨(h1 : vals 1 = .pointer (some ⟨s, 0, none⟩)), t1⟩, _⟩ := hk
      simp only [h1]
      clear h1
      go_wp2_with fail
      exact postS_mk _ rfl rfl (stage_keep (A := (stgs [QA w1 s b v c d bs nm I B t Z, QA w1 s b v c d bs nm I B t (upZ Z 23 (oneV (wrap64 (Z 23 0 + y))))])) (ps := [11]) (i := 2) rfl hs)
    · obtain ⟨⟨(h2 : vals 2 = .pointer (some ⟨s, 9, none⟩)), t2⟩, _⟩ := hk
      simp only [h2]
      clear h2
      have d11 := not_yet hc hi 11 60 (by kernel_rfl)
      have hn : cntD [11] dn = 0 := by show (if dn 11 = true then 1 else 0) + 0 = 0; rw [d11]; rfl
      have hs1 := stage_at (A := (stgs [QA w1 s b v c d bs nm I B t Z, QA w1 s b v c d bs nm I B t (upZ Z 23 (oneV (wrap64 (Z 23 0 + y))))])) hn hs
      have q := (fun h : QA w1 s b v c d bs nm I B t Z _ => h.1.cycs) hs1
      go_wp2_with fail
      exact postS_mk _ rfl rfl (stage_keep (A := (stgs [QA w1 s b v c d bs nm I B t Z, QA w1 s b v c d bs nm I B t (upZ Z 23 (oneV (wrap64 (Z 23 0 + y))))])) (ps := [11]) (i := 3) rfl hs)
    · set_option maxRecDepth 20000 in
      go_wp2_with fail
      exact postS_mk _ rfl rfl (stage_keep (A := (stgs [QA w1 s b v c d bs nm I B t Z, QA w1 s b v c d bs nm I B t (upZ Z 23 (oneV (wrap64 (Z 23 0 + y))))])) (ps := [11]) (i := 4) rfl hs)
    · obtain ⟨⟨(h4 : vals 4 = .int .i64 P), t4⟩, _⟩ := hk
      simp only [h4]
      clear h4
      have d11 := not_yet hc hi 11 60 (by kernel_rfl)
      have hn : cntD [11] dn = 0 := by show (if dn 11 = true then 1 else 0) + 0 = 0; rw [d11]; rfl
      have hs1 := stage_at (A := (stgs [QA w1 s b v c d bs nm I B t Z, QA w1 s b v c d bs nm I B t (upZ Z 23 (oneV (wrap64 (Z 23 0 + y))))])) hn hs
      have HS := hide hs
      have HS1 := hide hs1
      clear hs hs1
      go_wp2_with fail
      refine (KW.out _ (show QA w1 s b v c d bs nm I B t Z _ from HS1.out).1.2.1.tabs.2.1).mono ?_
      rintro e x2 ⟨rfl, b2⟩
      have H2 := hide (stgs_next (stab2 QA.stab QA.stab) HS.out b2)
      clear b2 HS HS1
      go_wp2_with fail
      exact postS_mk _ rfl rfl (stage_keep (A := (stgs [QA w1 s b v c d bs nm I B t Z, QA w1 s b v c d bs nm I B t (upZ Z 23 (oneV (wrap64 (Z 23 0 + y))))])) (ps := [11]) (i := 5) rfl H2.out)
    · obtain ⟨⟨(h5 : vals 5 = .agg #[.int .i64 (kindW P), .int .i64 (pageW P), .int .i64 (atW P)]), t5⟩, _⟩ := hk
      simp only [h5]
      clear h5
      go_wp2_with fail
      exact postS_mk _ rfl rfl (stage_keep (A := (stgs [QA w1 s b v c d bs nm I B t Z, QA w1 s b v c d bs nm I B t (upZ Z 23 (oneV (wrap64 (Z 23 0 + y))))])) (ps := [11]) (i := 6) rfl hs)
    · obtain ⟨⟨(h6 : vals 6 = .int .i64 (kindW P)), t6⟩, ⟨(h5 : vals 5 = .agg #[.int .i64 (kindW P), .int .i64 (pageW P), .int .i64 (atW P)]), t5⟩, _⟩ := hk
      simp only [h6]
      clear h6 h5
      have d11 := not_yet hc hi 11 60 (by kernel_rfl)
      have hn : cntD [11] dn = 0 := by show (if dn 11 = true then 1 else 0) + 0 = 0; rw [d11]; rfl
      have hs1 := stage_at (A := (stgs [QA w1 s b v c d bs nm I B t Z, QA w1 s b v c d bs nm I B t (upZ Z 23 (oneV (wrap64 (Z 23 0 + y))))])) hn hs
      have HS := hide hs
      clear hs hs1
      go_wp2_with fail
      refine (KS.out _).mono ?_
      rintro e x2 ⟨rfl, hw⟩
      subst x2
      go_wp2_with fail
      exact postS_mk _ rfl rfl (stage_keep (A := (stgs [QA w1 s b v c d bs nm I B t Z, QA w1 s b v c d bs nm I B t (upZ Z 23 (oneV (wrap64 (Z 23 0 + y))))])) (ps := [11]) (i := 7) rfl HS.out)
    · obtain ⟨⟨(h3 : vals 3 = .int .i64 (Z 23 0)), t3⟩, ⟨(h7 : vals 7 = .int .i64 y), t7⟩, _⟩ := hk
      simp only [h3, h7]
      clear h3 h7
      go_wp2_with fail
      exact postS_mk _ rfl rfl (stage_keep (A := (stgs [QA w1 s b v c d bs nm I B t Z, QA w1 s b v c d bs nm I B t (upZ Z 23 (oneV (wrap64 (Z 23 0 + y))))])) (ps := [11]) (i := 8) rfl hs)
    · obtain ⟨⟨(h0 : vals 0 = .pointer (some ⟨s, 0, none⟩)), t0⟩, _, ⟨(h1 : vals 1 = .pointer (some ⟨s, 0, none⟩)), t1⟩, ⟨(h2 : vals 2 = .pointer (some ⟨s, 9, none⟩)), t2⟩, ⟨(h3 : vals 3 = .int .i64 (Z 23 0)), t3⟩, ⟨(h4 : vals 4 = .int .i64 P), t4⟩, ⟨(h5 : vals 5 = .agg #[.int .i64 (kindW P), .int .i64 (pageW P), .int .i64 (atW P)]), t5⟩, ⟨(h6 : vals 6 = .int .i64 (kindW P)), t6⟩, ⟨(h7 : vals 7 = .int .i64 y), t7⟩, ⟨(h8 : vals 8 = .int .i64 (wrap64 (Z 23 0 + y))), t8⟩, _⟩ := hk
      simp only [h0]
      clear h0 h1 h2 h3 h4 h5 h6 h7 h8
      go_wp2_with fail
      exact postS_mk _ rfl rfl (stage_keep (A := (stgs [QA w1 s b v c d bs nm I B t Z, QA w1 s b v c d bs nm I B t (upZ Z 23 (oneV (wrap64 (Z 23 0 + y))))])) (ps := [11]) (i := 9) rfl hs)
    · obtain ⟨⟨(h9 : vals 9 = .pointer (some ⟨s, 0, none⟩)), t9⟩, ⟨(h0 : vals 0 = .pointer (some ⟨s, 0, none⟩)), t0⟩, ⟨(h1 : vals 1 = .pointer (some ⟨s, 0, none⟩)), t1⟩, ⟨(h2 : vals 2 = .pointer (some ⟨s, 9, none⟩)), t2⟩, ⟨(h3 : vals 3 = .int .i64 (Z 23 0)), t3⟩, ⟨(h4 : vals 4 = .int .i64 P), t4⟩, ⟨(h5 : vals 5 = .agg #[.int .i64 (kindW P), .int .i64 (pageW P), .int .i64 (atW P)]), t5⟩, ⟨(h6 : vals 6 = .int .i64 (kindW P)), t6⟩, ⟨(h7 : vals 7 = .int .i64 y), t7⟩, ⟨(h8 : vals 8 = .int .i64 (wrap64 (Z 23 0 + y))), t8⟩, _⟩ := hk
      simp only [h9]
      clear h9 h0 h1 h2 h3 h4 h5 h6 h7 h8
      go_wp2_with fail
      exact postS_mk _ rfl rfl (stage_keep (A := (stgs [QA w1 s b v c d bs nm I B t Z, QA w1 s b v c d bs nm I B t (upZ Z 23 (oneV (wrap64 (Z 23 0 + y))))])) (ps := [11]) (i := 10) rfl hs)
    · obtain ⟨⟨(h10 : vals 10 = .pointer (some ⟨s, 9, none⟩)), t10⟩, ⟨(h8 : vals 8 = .int .i64 (wrap64 (Z 23 0 + y))), t8⟩, ⟨(h7 : vals 7 = .int .i64 y), t7⟩, ⟨(h0 : vals 0 = .pointer (some ⟨s, 0, none⟩)), t0⟩, ⟨(h1 : vals 1 = .pointer (some ⟨s, 0, none⟩)), t1⟩, ⟨(h2 : vals 2 = .pointer (some ⟨s, 9, none⟩)), t2⟩, ⟨(h3 : vals 3 = .int .i64 (Z 23 0)), t3⟩, ⟨(h4 : vals 4 = .int .i64 P), t4⟩, ⟨(h5 : vals 5 = .agg #[.int .i64 (kindW P), .int .i64 (pageW P), .int .i64 (atW P)]), t5⟩, ⟨(h6 : vals 6 = .int .i64 (kindW P)), t6⟩, _, _, _⟩ := hk
      simp only [h10, h8]
      clear h10 h8 h7 h0 h1 h2 h3 h4 h5 h6
      have d11 := hi
      have hn : cntD [11] dn = 0 := by show (if dn 11 = true then 1 else 0) + 0 = 0; rw [d11]; rfl
      have hs1 := stage_at (A := (stgs [QA w1 s b v c d bs nm I B t Z, QA w1 s b v c d bs nm I B t (upZ Z 23 (oneV (wrap64 (Z 23 0 + y))))])) hn hs
      have hn2 : cntD [11] (updD dn 11) = 1 := by show (if updD dn 11 11 = true then 1 else 0) + 0 = 1; rw [updD_same]; rfl
      have HN2 := hide hn2
      clear hn hn2 
      have q := (fun h : QA w1 s b v c d bs nm I B t Z _ => h.1.cycs) hs1
      have z := (fun h : QA w1 s b v c d bs nm I B t Z _ => h.1.frz 9) hs1
      have H2 := hide ((fun h : QA w1 s b v c d bs nm I B t Z _ => show QA w1 s b v c d bs nm I B t (upZ Z 23 (oneV (wrap64 (Z 23 0 + y)))) _ from ⟨h.1.putC (wrap64 (Z 23 0 + y)), eq_set h.2 9 _⟩) hs1)
      clear hs hs1
      go_wp2_with fail
      exact postS_mk _ rfl rfl (stage_of (A := (stgs [QA w1 s b v c d bs nm I B t Z, QA w1 s b v c d bs nm I B t (upZ Z 23 (oneV (wrap64 (Z 23 0 + y))))])) HN2.out H2.out)
  rintro vals dn x hall hs hv
  clear hv
  have hn : cntD [11] dn = 1 := by show (if dn 11 = true then 1 else 0) + 0 = 1; rw [hall 11 (by decide)]; rfl
  have hs := stage_at (A := (stgs [QA w1 s b v c d bs nm I B t Z, QA w1 s b v c d bs nm I B t (upZ Z 23 (oneV (wrap64 (Z 23 0 + y))))])) hn hs
  clear hn hall
  obtain ⟨h2, o2⟩ : QA w1 s b v c d bs nm I B t (upZ Z 23 (oneV (wrap64 (Z 23 0 + y)))) x := hs
  have H2 := hide h2
  have O2 := hide (O1.out.trans o2)
  clear h2 o2 hs H1 O1
  go_wp2
  go_ret
  refine ⟨rfl, ?_, O2.out⟩
  unfold cyc
  rw [HZ.out]
  exact H2.out
theorem HasQ.bytes {w : World} {s b v c d : Nat} {bs : List Int} {nm : ByteArray} {I B : Nat → Int} {t : Bool} {Z : Nat → Nat → Int} (h : HasQ w s b v c d bs nm I B t Z) : ∀ z, z ∈ bs → 0 ≤ z ∧ z < 256 := h.2.1.2.2.1.2.1.2
theorem rV_in {w : World} {s b v c d : Nat} {bs : List Int} {nm : ByteArray} {I B : Nat → Int} {t : Bool} {Z : Nat → Nat → Int} (h : HasQ w s b v c d bs nm I B t Z) (a : Int) : 0 ≤ rV bs Z a ∧ rV bs Z a < 256 := rdV_in h.good h.bytes _
theorem read_is {w : World} {s b v c d : Nat} {bs : List Int} {nm : ByteArray} {I B : Nat → Int} {t : Bool} {Z : Nat → Nat → Int} (h : HasQ w s b v c d bs nm I B t Z) (a : Int) : Calls Tryz.prog 106 #[.pointer (some ⟨s, 0, none⟩), .int .i64 a] w fun e w' => e = Ending.returned (.int .i64 (rV bs Z a)) ∧ HasQ w' s b v c d bs nm I B t (rS Z a) ∧ OnlyE (EQ s b v) w w' := by
  have HE := hide h
  have x0 := rV_in h a
  obtain ⟨u, hx⟩ : ∃ u, rV bs Z a = u := ⟨_, rfl⟩
  obtain ⟨P, hP⟩ : ∃ P, phZ Z a = P := ⟨_, rfl⟩
  rw [hx] at x0
  have KR : Hid (∀ y, QA w s b v c d bs nm I B t Z y → Calls Tryz.prog 153 #[.pointer (some ⟨s, 0, none⟩), .int .i64 a] y fun e y' => e = Ending.returned (.int .i64 P) ∧ QA w s b v c d bs nm I B t (cyc Z (slZ Z a)) y') := hide (fun y q => by rw [← hP]; exact (reach_is q.1 a).mono fun e y' ⟨e1, q1, o1⟩ => ⟨e1, q1, q.2.trans o1⟩)
  have KB : Hid (∀ y, QA w s b v c d bs nm I B t (cyc Z (slZ Z a)) y → Calls Tryz.prog 58 #[.pointer (some ⟨b, 0, none⟩), .int .i64 P] y fun e y' => e = Ending.returned (.int .i64 u) ∧ QA w s b v c d bs nm I B t (rS Z a) y') := hide (fun y q => by
    have k := sim_rd q.1.good b v c d bs q.1.2.2.2.2.2.1 P (x := u) (Z' := rS Z a) (by rw [← hx, ← hP]; exact rdV_out (by decide) bs Z _ _) (by rw [← hP]; rfl)
    exact (k.2.2 y q.1.2.1).mono fun e y' ⟨e1, p1, o1⟩ => ⟨e1, q.1.bus p1 o1 k.1 (rdZ_keep (by decide) _ _) (rdZ_keep (by decide) _ _) (rdZ_keep (by decide) _ _) (rdZ_keep (by decide) _ _), q.2.trans (eq_ex o1)⟩)
  have KY : Hid (∀ w, Calls Tryz.prog 60 #[.int .i64 u] w fun e w' => e = Ending.returned (.int .i64 u) ∧ w' = w) := hide (fun w => by
    have k := byte_any u w
    rw [show u % 256 = u by omega] at k
    exact k)
  rw [hx]
  clear h hx hP x0
  go_enter Tryz.func106, Tryz.ntmps106
  go_wp2_with fail
  refine wp_region_state (ofList [.pointer (some ⟨s, 0, none⟩), .pointer (some ⟨s, 0, none⟩), .pointer (some ⟨s, 8, none⟩), .pointer (some ⟨b, 0, none⟩), .pointer (some ⟨s, 0, none⟩), .int .i64 a, .int .i64 P, .int .i64 u, .int .i64 u, .int .i64 u]) (fun dd ww => (stgs [QA w s b v c d bs nm I B t Z, QA w s b v c d bs nm I B t (cyc Z (slZ Z a)), QA w s b v c d bs nm I B t (rS Z a)]) (cntD [6, 7] dd) ww) _ (fun vals => by simp only [putAll, Act.put, List.setIfInBounds_toArray, List.set_cons_succ, List.set_cons_zero, Nat.reduceAdd]; rfl) (by kernel_rfl) (by kernel_rfl) (by kernel_rfl) (fun dn hd => stage_none (A := (stgs [QA w s b v c d bs nm I B t Z, QA w s b v c d bs nm I B t (cyc Z (slZ Z a)), QA w s b v c d bs nm I B t (rS Z a)])) hd (QA.mk HE.out)) ?_ ?_
  · refine stepsS_cons (fun vals dn x hi hc hk hs => ?_) (stepsS_cons (fun vals dn x hi hc hk hs => ?_) (stepsS_cons (fun vals dn x hi hc hk hs => ?_) (stepsS_cons (fun vals dn x hi hc hk hs => ?_) (stepsS_cons (fun vals dn x hi hc hk hs => ?_) (stepsS_cons (fun vals dn x hi hc hk hs => ?_) (stepsS_cons (fun vals dn x hi hc hk hs => ?_) (stepsS_cons (fun vals dn x hi hc hk hs => ?_) (stepsS_cons (fun vals dn x hi hc hk hs => ?_) (stepsS_cons (fun vals dn x hi hc hk hs => ?_) stepsS_nil)))))))))
    · set_option maxRecDepth 20000 in
      go_wp2_with fail
      exact postS_mk _ rfl rfl (stage_keep (A := (stgs [QA w s b v c d bs nm I B t Z, QA w s b v c d bs nm I B t (cyc Z (slZ Z a)), QA w s b v c d bs nm I B t (rS Z a)])) (ps := [6, 7]) (i := 0) rfl hs)
    · obtain ⟨⟨(h0 : vals 0 = .pointer (some ⟨s, 0, none⟩)), t0⟩, _⟩ := hk
      simp only [h0]
      clear h0
      go_wp2_with fail
      exact postS_mk _ rfl rfl (stage_keep (A := (stgs [QA w s b v c d bs nm I B t Z, QA w s b v c d bs nm I B t (cyc Z (slZ Z a)), QA w s b v c d bs nm I B t (rS Z a)])) (ps := [6, 7]) (i := 1) rfl hs)
    · obtain ⟨⟨(h1 : vals 1 = .pointer (some ⟨s, 0, none⟩)), t1⟩, _⟩ := hk
      simp only [h1]
      clear h1
      go_wp2_with fail
      exact postS_mk _ rfl rfl (stage_keep (A := (stgs [QA w s b v c d bs nm I B t Z, QA w s b v c d bs nm I B t (cyc Z (slZ Z a)), QA w s b v c d bs nm I B t (rS Z a)])) (ps := [6, 7]) (i := 2) rfl hs)
    · obtain ⟨⟨(h2 : vals 2 = .pointer (some ⟨s, 8, none⟩)), t2⟩, _⟩ := hk
      simp only [h2]
      clear h2
      have hs1 := hs
      have q := stgs_case3 hs1 (cntD_le [6, 7] dn) (fun q => q.1.buss) (fun q => q.1.buss) (fun q => q.1.buss)
      go_wp2_with fail
      exact postS_mk _ rfl rfl (stage_keep (A := (stgs [QA w s b v c d bs nm I B t Z, QA w s b v c d bs nm I B t (cyc Z (slZ Z a)), QA w s b v c d bs nm I B t (rS Z a)])) (ps := [6, 7]) (i := 3) rfl hs)
    · set_option maxRecDepth 20000 in
      go_wp2_with fail
      exact postS_mk _ rfl rfl (stage_keep (A := (stgs [QA w s b v c d bs nm I B t Z, QA w s b v c d bs nm I B t (cyc Z (slZ Z a)), QA w s b v c d bs nm I B t (rS Z a)])) (ps := [6, 7]) (i := 4) rfl hs)
    · set_option maxRecDepth 20000 in
      go_wp2_with fail
      exact postS_mk _ rfl rfl (stage_keep (A := (stgs [QA w s b v c d bs nm I B t Z, QA w s b v c d bs nm I B t (cyc Z (slZ Z a)), QA w s b v c d bs nm I B t (rS Z a)])) (ps := [6, 7]) (i := 5) rfl hs)
    · obtain ⟨⟨(h4 : vals 4 = .pointer (some ⟨s, 0, none⟩)), t4⟩, ⟨(h5 : vals 5 = .int .i64 a), t5⟩, _⟩ := hk
      simp only [h4, h5]
      clear h4 h5
      have d6 := hi
      have d7 := not_yet hc hi 7 60 (by kernel_rfl)
      have hn : cntD [6, 7] dn = 0 := by show (if dn 6 = true then 1 else 0) + ((if dn 7 = true then 1 else 0) + 0) = 0; rw [d6, d7]; rfl
      have hs1 := stage_at (A := (stgs [QA w s b v c d bs nm I B t Z, QA w s b v c d bs nm I B t (cyc Z (slZ Z a)), QA w s b v c d bs nm I B t (rS Z a)])) hn hs
      have hn2 : cntD [6, 7] (updD dn 6) = 1 := by show (if updD dn 6 6 = true then 1 else 0) + ((if updD dn 6 7 = true then 1 else 0) + 0) = 1; rw [updD_same, updD_other dn (show ¬ 7 = 6 by decide), d7]; rfl
      have HN2 := hide hn2
      clear hn hn2 d7
      have HS := hide hs1
      clear hs hs1
      go_wp2_with fail
      refine (KR.out _ HS.out).mono ?_
      rintro e x2 ⟨rfl, h2⟩
      have H2 := hide h2
      clear h2 HS
      go_wp2_with fail
      exact postS_mk _ rfl rfl (stage_of (A := (stgs [QA w s b v c d bs nm I B t Z, QA w s b v c d bs nm I B t (cyc Z (slZ Z a)), QA w s b v c d bs nm I B t (rS Z a)])) HN2.out H2.out)
    · obtain ⟨⟨(h3 : vals 3 = .pointer (some ⟨b, 0, none⟩)), t3⟩, ⟨(h6 : vals 6 = .int .i64 P), t6⟩, _, _⟩ := hk
      simp only [h3, h6]
      clear h3 h6
      have d6 := t6
      have d7 := hi
      have hn : cntD [6, 7] dn = 1 := by show (if dn 6 = true then 1 else 0) + ((if dn 7 = true then 1 else 0) + 0) = 1; rw [d6, d7]; rfl
      have hs1 := stage_at (A := (stgs [QA w s b v c d bs nm I B t Z, QA w s b v c d bs nm I B t (cyc Z (slZ Z a)), QA w s b v c d bs nm I B t (rS Z a)])) hn hs
      have hn2 : cntD [6, 7] (updD dn 7) = 2 := by show (if updD dn 7 6 = true then 1 else 0) + ((if updD dn 7 7 = true then 1 else 0) + 0) = 2; rw [updD_other dn (show ¬ 6 = 7 by decide), updD_same, d6]; rfl
      have HN2 := hide hn2
      clear hn hn2 d6
      have HS := hide hs1
      clear hs hs1
      go_wp2_with fail
      refine (KB.out _ HS.out).mono ?_
      rintro e x2 ⟨rfl, h2⟩
      have H2 := hide h2
      clear h2 HS
      go_wp2_with fail
      exact postS_mk _ rfl rfl (stage_of (A := (stgs [QA w s b v c d bs nm I B t Z, QA w s b v c d bs nm I B t (cyc Z (slZ Z a)), QA w s b v c d bs nm I B t (rS Z a)])) HN2.out H2.out)
    · obtain ⟨⟨(h7 : vals 7 = .int .i64 u), t7⟩, _, _⟩ := hk
      simp only [h7]
      clear h7
      have d6 := reach_done hc 60 6 7 t7 (by kernel_rfl)
      have d7 := t7
      have hn : cntD [6, 7] dn = 2 := by show (if dn 6 = true then 1 else 0) + ((if dn 7 = true then 1 else 0) + 0) = 2; rw [d6, d7]; rfl
      have hs1 := stage_at (A := (stgs [QA w s b v c d bs nm I B t Z, QA w s b v c d bs nm I B t (cyc Z (slZ Z a)), QA w s b v c d bs nm I B t (rS Z a)])) hn hs
      have HS := hide hs
      clear hs hs1
      go_wp2_with fail
      refine (KY.out _).mono ?_
      rintro e x2 ⟨rfl, hw⟩
      subst x2
      go_wp2_with fail
      exact postS_mk _ rfl rfl (stage_keep (A := (stgs [QA w s b v c d bs nm I B t Z, QA w s b v c d bs nm I B t (cyc Z (slZ Z a)), QA w s b v c d bs nm I B t (rS Z a)])) (ps := [6, 7]) (i := 8) rfl HS.out)
    · obtain ⟨⟨(h8 : vals 8 = .int .i64 u), t8⟩, _, ⟨(h0 : vals 0 = .pointer (some ⟨s, 0, none⟩)), t0⟩, ⟨(h1 : vals 1 = .pointer (some ⟨s, 0, none⟩)), t1⟩, ⟨(h2 : vals 2 = .pointer (some ⟨s, 8, none⟩)), t2⟩, ⟨(h3 : vals 3 = .pointer (some ⟨b, 0, none⟩)), t3⟩, ⟨(h4 : vals 4 = .pointer (some ⟨s, 0, none⟩)), t4⟩, ⟨(h5 : vals 5 = .int .i64 a), t5⟩, ⟨(h6 : vals 6 = .int .i64 P), t6⟩, ⟨(h7 : vals 7 = .int .i64 u), t7⟩, _, _⟩ := hk
      simp only [h8]
      clear h8 h0 h1 h2 h3 h4 h5 h6 h7
      go_wp2_with fail
      exact postS_mk _ rfl rfl (stage_keep (A := (stgs [QA w s b v c d bs nm I B t Z, QA w s b v c d bs nm I B t (cyc Z (slZ Z a)), QA w s b v c d bs nm I B t (rS Z a)])) (ps := [6, 7]) (i := 9) rfl hs)
  rintro vals dn x hall hs hv
  obtain ⟨_, _, _, _, _, _, _, _, _, (h9 : vals 9 = .int .i64 u), _⟩ := hv
  simp only [h9]
  clear h9
  have hn : cntD [6, 7] dn = 2 := by show (if dn 6 = true then 1 else 0) + ((if dn 7 = true then 1 else 0) + 0) = 2; rw [hall 6 (by decide), hall 7 (by decide)]; rfl
  have hs := stage_at (A := (stgs [QA w s b v c d bs nm I B t Z, QA w s b v c d bs nm I B t (cyc Z (slZ Z a)), QA w s b v c d bs nm I B t (rS Z a)])) hn hs
  clear hn hall
  obtain ⟨h2, o2⟩ : QA w s b v c d bs nm I B t (rS Z a) x := hs
  have H2 := hide h2
  have O2 := hide o2
  clear h2 o2 hs
  go_wp2
  go_ret
  exact ⟨rfl, H2.out, O2.out⟩
theorem readPair_is {w : World} {s b v c d : Nat} {bs : List Int} {nm : ByteArray} {I B : Nat → Int} {t : Bool} {Z : Nat → Nat → Int} (h : HasQ w s b v c d bs nm I B t Z) (x y : Int) : Calls Tryz.prog 61 #[.pointer (some ⟨s, 0, none⟩), .int .i64 x, .int .i64 y] w fun e w' => e = Ending.returned (.int .i64 (pV bs Z x y)) ∧ HasQ w' s b v c d bs nm I B t (pS Z x y) ∧ OnlyE (EQ s b v) w w' := by
  have HE := hide h
  clear h
  go_enter Tryz.func61, Tryz.ntmps61
  go_wp2_with fail
  refine (read_is HE.out x).mono ?_
  rintro e w1 ⟨rfl, h1, o1⟩
  have H1 := hide h1
  have O1 := hide o1
  clear h1 o1 HE
  go_wp2_with fail
  refine (read_is H1.out y).mono ?_
  rintro e w2 ⟨rfl, h2, o2⟩
  have H2 := hide h2
  have O2 := hide (O1.out.trans o2)
  clear h2 o2 H1 O1
  go_wp2_with (first | (go_at_call 107; refine (join_any _ _ _).mono ?_; rintro e w9 ⟨rfl, b9⟩; have H3 := hide (H2.out.next b9); have O3 := hide (O2.out.trans (eq_of (s := s) (b := b) (v := v) b9)); clear b9 H2 O2))
  go_ret
  exact ⟨rfl, H3.out, O3.out⟩
theorem readWord_is {w : World} {s b v c d : Nat} {bs : List Int} {nm : ByteArray} {I B : Nat → Int} {t : Bool} {Z : Nat → Nat → Int} (h : HasQ w s b v c d bs nm I B t Z) (x : Int) : Calls Tryz.prog 36 #[.pointer (some ⟨s, 0, none⟩), .int .i64 x] w fun e w' => e = Ending.returned (.int .i64 (pV bs Z x (wOf x 1))) ∧ HasQ w' s b v c d bs nm I B t (pS Z x (wOf x 1)) ∧ OnlyE (EQ s b v) w w' := by
  have HE := hide h
  clear h
  go_enter Tryz.func36, Tryz.ntmps36
  go_wp2_with fail
  refine (after_not x _).mono ?_
  rintro e w1 ⟨rfl, b1⟩
  have H1 := hide (HE.out.next b1)
  have O1 := hide (eq_of (s := s) (b := b) (v := v) b1)
  clear b1 HE
  go_wp2_with fail
  refine (readPair_is H1.out x _).mono ?_
  rintro e w2 ⟨rfl, h2, o2⟩
  have H2 := hide h2
  have O2 := hide (O1.out.trans o2)
  clear h2 o2 H1 O1
  go_wp2
  go_ret
  exact ⟨rfl, H2.out, O2.out⟩
end Go.Proofs.YtnoggfnidaifkaaGreatDoor.L25
