/- The program's processor: how it enters an interrupt, and what an instruction's bytes mean. -/
import Derived.Test.YtoijhhbiknhlnaaGreatDoorCpuTakesJ34
import Derived.Test.YtoijhhbiknhlnaaGreatDoorCpuTakesJ36
namespace Go.Proofs.YtoijhhbiknhlnaaGreatDoor.L25
set_option maxRecDepth 20000
open B4 C3 G6 I11 J23 K9 L24 M5 N8 O7 P22 R15 T10 V12 W13
open Go.RowKit
set_option linter.unusedVariables false
theorem jn_in (x y : Int) : 0 ≤ jn x y ∧ jn x y < 65536 := by unfold jn; omega
theorem psS_20 (Z : Nat → Nat → Int) (y : Int) : psS Z y 20 = up (Z 20) 3 ((Z 20 3 - 1) % 256) := by
  unfold psS
  rw [setR_20, wS_keep _ _ _ _ (by decide)]
theorem psS_reg (Z : Nat → Nat → Int) (y : Int) (k : Nat) (hk : ¬ k = 3) : psS Z y 20 k = Z 20 k := by rw [psS_20, up_other _ _ _ _ hk]
def enZ (Z : Nat → Nat → Int) (back fl : Int) : Nat → Nat → Int := setR (psS (pwS Z back) fl) 4 (entP (Z 20 4))
def enS (bs : List Int) (Z : Nat → Nat → Int) (vec back fl : Int) : Nat → Nat → Int := setR (pS (enZ Z back fl) vec (wOf vec 1)) 5 (pV bs (enZ Z back fl) vec (wOf vec 1))
theorem enter_is {w : World} {s b v c d : Nat} {bs : List Int} {nm : ByteArray} {I B : Nat → Int} {t : Bool} {Z : Nat → Nat → Int} (h : HasQ w s b v c d bs nm I B t Z) (vec back fl : Int) : Calls Tryz.prog 21 #[.pointer (some ⟨s, 0, none⟩), .int .i64 vec, .int .i64 back, .int .i64 fl] w fun e w' => e = Ending.returned (.tuple #[]) ∧ HasQ w' s b v c d bs nm I B t (enS bs Z vec back fl) ∧ OnlyE (EQ s b v) w w' := by
  have HE := hide h
  have E4 : Hid (psS (pwS Z back) fl 20 4 = Z 20 4) := hide (by unfold pwS; rw [psS_reg _ _ _ (by decide), psS_reg _ _ _ (by decide), psS_reg _ _ _ (by decide)])
  have R4 := hide (gz_reg h.good 4 (by decide))
  clear h
  go_enter Tryz.func21, Tryz.ntmps21
  go_wp2_with fail
  refine (pushWord_is HE.out back).mono ?_
  rintro e w1 ⟨rfl, h1, o1⟩
  have H1 := hide h1
  have O1 := hide o1
  clear h1 o1 HE
  go_wp2_with fail
  refine (push_is H1.out fl).mono ?_
  rintro e w2 ⟨rfl, h2, o2⟩
  have c4 := h2.reg 4 (by decide)
  rw [E4.out] at c4
  have z4 := h2.frz 4
  have e4 := entP_in R4.out
  have H2 := hide (h2.putR 4 (by decide) (entP (Z 20 4)) (gz_up (h2.good 20) 4 (by decide) _ e4.1 e4.2))
  have O2 := hide (eq_set (O1.out.trans o2) 4 (.int .i64 (entP (Z 20 4))))
  clear h2 o2 e4 H1 O1
  go_wp2_with fail
  refine (readWord_is H2.out vec).mono ?_
  rintro e w3 ⟨rfl, h3, o3⟩
  have c5 := h3.reg 5 (by decide)
  have z5 := h3.frz 5
  have j5 := jn_in (rV bs (enZ Z back fl) vec) (rV bs (rS (enZ Z back fl) vec) (wOf vec 1))
  have H3 := hide (h3.putR 5 (by decide) (pV bs (enZ Z back fl) vec (wOf vec 1)) (gz_up5 (h3.good 20) _ j5.1 j5.2))
  have O3 := hide (eq_set (O2.out.trans o3) 5 (.int .i64 (pV bs (enZ Z back fl) vec (wOf vec 1))))
  clear h3 o3 j5 H2 O2
  go_wp2
  go_end0
  exact ⟨rfl, H3.out, O3.out⟩
theorem HasQ.ext {w : World} {s b v c d : Nat} {bs : List Int} {nm : ByteArray} {I B : Nat → Int} {t : Bool} {Z : Nat → Nat → Int} (h : HasQ w s b v c d bs nm I B t Z) {I' B' : Nat → Int} (hI : ∀ j, j < 7 → I j = I' j) (hB : ∀ j, j < 6 → B j = B' j) : HasQ w s b v c d bs nm I' B' t Z := by
  refine ⟨h.1.ext fun j hj => ?_, h.2⟩
  unfold SP
  simp only [segs_cons]
  by_cases j0 : j < 6
  · rw [if_pos j0, if_pos j0]
  rw [if_neg j0, if_neg j0]
  by_cases j1 : j - 6 < 1
  · rw [if_pos j1, if_pos j1]
  rw [if_neg j1, if_neg j1]
  by_cases j2 : j - 6 - 1 < 1
  · rw [if_pos j2, if_pos j2]
  rw [if_neg j2, if_neg j2]
  by_cases j3 : j - 6 - 1 - 1 < 1
  · rw [if_pos j3, if_pos j3]
  rw [if_neg j3, if_neg j3]
  by_cases j4 : j - 6 - 1 - 1 - 1 < 1
  · rw [if_pos j4, if_pos j4]
  rw [if_neg j4, if_neg j4]
  by_cases j5 : j - 6 - 1 - 1 - 1 - 1 < 4
  · rw [if_pos j5, if_pos j5, hI 0 (by decide), hI 1 (by decide), hI 2 (by decide)]
  rw [if_neg j5, if_neg j5]
  by_cases j6 : j - 6 - 1 - 1 - 1 - 1 - 4 < 6
  · rw [if_pos j6, if_pos j6]
    unfold iv
    rw [hB _ j6]
  rw [if_neg j6, if_neg j6]
  by_cases j7 : j - 6 - 1 - 1 - 1 - 1 - 4 - 6 < 4
  · rw [if_pos j7, if_pos j7]
    exact congrArg (Value.int .i64) (hI _ (by omega))
  rw [if_neg j7, if_neg j7]
theorem seg_beh (b : Nat) (nm : ByteArray) (I B : Nat → Int) (t : Bool) (Z : Nat → Nat → Int) : ∀ j, j < 6 → segs (SP b nm I B t Z) (14 + j) = iv B j := fun j hj => segs_get (SP b nm I B t Z) 6 6 (iv B) j rfl hj
set_option maxHeartbeats 4000000 in
theorem part_hi {w : World} {s b v c d : Nat} {bs : List Int} {nm : ByteArray} {I B : Nat → Int} {t : Bool} {Z : Nat → Nat → Int} (h : HasQ w s b v c d bs nm I B t Z) (hm : I 0 = 17 ∨ I 0 = 18 ∨ I 0 = 19 ∨ I 0 = 20) : Calls Tryz.prog 41 #[.pointer (some ⟨s, 0, none⟩)] w fun e w' => e = Ending.returned (.tuple #[]) ∧ HasQ w' s b v c d bs nm (up (up I 4 (B 0)) 3 (jn (B 1) (B 2))) B t Z ∧ OnlyE (EQ s b v) w w' := by
  rcases hm with hm | hm | hm | hm
  all_goals
    have HE := hide h
    have HF := hide h.1
    have SEG := hide (seg_beh b nm I B t Z)
    have HL := hide h.lt
    have HLB := hide h.2.1.1.lt
    have HLV := hide (lt_of_block h.2.1.2.1)
    clear h
    go_enter Tryz.func41, Tryz.ntmps41
    go_upto_region 1 with (first
      | (refine wpList_load_part rfl 83 (.tmp 5) rfl s 14 rfl HF.out 6 (by decide) (iv B) SEG.out _ Tryz.underlying83 rfl (by kernel_rfl) ?_; rw [show rowF (iv B) 6 = #[.int .i64 (B 0), .int .i64 (B 1), .int .i64 (B 2), .int .i64 (B 3), .int .i64 (B 4), .int .i64 (B 5)] from rfl]))
    refine under_name fun wa hwa => ?_
    have GA : Hid (wa.heap[w.heap.size]? = some (.cells #[.int .i64 (B 0), .int .i64 (B 1), .int .i64 (B 2), .int .i64 (B 3), .int .i64 (B 4), .int .i64 (B 5)] 83 (0, 0))) := hide (by rw [hwa]; exact heap_alloc_new _ _)
    have BA : Hid (Below w.heap.size w wa) := hide (by rw [hwa]; exact (Below.refl _ w).alloc (Nat.le_refl _) _)
    have HA := hide (HE.out.next BA.out)
    have OA := hide (eq_of (s := s) (b := b) (v := v) BA.out)
    have NE : Hid (¬ EQ s b v w.heap.size) := hide (fun e => by have := HL.out; have := HLB.out; have := HLV.out; rcases e with e | e | e <;> omega)
    have GF : Hid (∀ (x : World) (k : Nat), OnlyE (EQ s b v) wa x → x.cell? ⟨w.heap.size, k, none⟩ = #[.int .i64 (B 0), .int .i64 (B 1), .int .i64 (B 2), .int .i64 (B 3), .int .i64 (B 4), .int .i64 (B 5)][k]?) := hide (fun x k o => cell_of_row x w.heap.size k _ _ _ (o.obj GA.out NE.out))
    generalize w.heap.size = g at *
    have c11 := HA.out.mode
    rw [hm] at c11
    clear hwa HE HF SEG BA
    go_wp2_with fail
    refine wp_region_state (ofList [.pointer (some ⟨s, 0, none⟩), .pointer (some ⟨s, 0, none⟩), .pointer (some ⟨g, 0, none⟩), .int .i64 (B 0), .pointer (some ⟨g, 1, none⟩), .int .i64 (B 1), .pointer (some ⟨g, 2, none⟩), .int .i64 (B 2), .int .i64 (jn (B 1) (B 2)), .pointer (some ⟨s, 0, none⟩), .pointer (some ⟨s, 21, none⟩), undef, .pointer (some ⟨s, 0, none⟩), .pointer (some ⟨s, 20, none⟩), undef]) (fun dd ww => (stgs [QA wa s b v c d bs nm I B t Z, QA wa s b v c d bs nm (up I 4 (B 0)) B t Z, QA wa s b v c d bs nm (up (up I 4 (B 0)) 3 (jn (B 1) (B 2))) B t Z]) (cntD [11, 14] dd) ww) _ (fun vals => by simp only [putAll, Act.put, List.setIfInBounds_toArray, List.set_cons_succ, List.set_cons_zero, Nat.reduceAdd]; rfl) (by kernel_rfl) (by kernel_rfl) (by kernel_rfl) (fun dn hd => stage_none (A := (stgs [QA wa s b v c d bs nm I B t Z, QA wa s b v c d bs nm (up I 4 (B 0)) B t Z, QA wa s b v c d bs nm (up (up I 4 (B 0)) 3 (jn (B 1) (B 2))) B t Z])) hd (QA.mk HA.out)) ?_ ?_
    · refine stepsS_cons (fun vals dn x hi hc hk hs => ?_) (stepsS_cons (fun vals dn x hi hc hk hs => ?_) (stepsS_cons (fun vals dn x hi hc hk hs => ?_) (stepsS_cons (fun vals dn x hi hc hk hs => ?_) (stepsS_cons (fun vals dn x hi hc hk hs => ?_) (stepsS_cons (fun vals dn x hi hc hk hs => ?_) (stepsS_cons (fun vals dn x hi hc hk hs => ?_) (stepsS_cons (fun vals dn x hi hc hk hs => ?_) (stepsS_cons (fun vals dn x hi hc hk hs => ?_) (stepsS_cons (fun vals dn x hi hc hk hs => ?_) (stepsS_cons (fun vals dn x hi hc hk hs => ?_) (stepsS_cons (fun vals dn x hi hc hk hs => ?_) (stepsS_cons (fun vals dn x hi hc hk hs => ?_) (stepsS_cons (fun vals dn x hi hc hk hs => ?_) (stepsS_cons (fun vals dn x hi hc hk hs => ?_) stepsS_nil))))))))))))))
      · set_option maxRecDepth 20000 in
        go_wp2_with fail
        exact postS_mk _ rfl rfl (stage_keep (A := (stgs [QA wa s b v c d bs nm I B t Z, QA wa s b v c d bs nm (up I 4 (B 0)) B t Z, QA wa s b v c d bs nm (up (up I 4 (B 0)) 3 (jn (B 1) (B 2))) B t Z])) (ps := [11, 14]) (i := 0) rfl hs)
      · obtain ⟨_, _⟩ := hk
        go_wp2_with fail
        exact postS_mk _ rfl rfl (stage_keep (A := (stgs [QA wa s b v c d bs nm I B t Z, QA wa s b v c d bs nm (up I 4 (B 0)) B t Z, QA wa s b v c d bs nm (up (up I 4 (B 0)) 3 (jn (B 1) (B 2))) B t Z])) (ps := [11, 14]) (i := 1) rfl hs)
      · set_option maxRecDepth 20000 in
        go_wp2_with fail
        exact postS_mk _ rfl rfl (stage_keep (A := (stgs [QA wa s b v c d bs nm I B t Z, QA wa s b v c d bs nm (up I 4 (B 0)) B t Z, QA wa s b v c d bs nm (up (up I 4 (B 0)) 3 (jn (B 1) (B 2))) B t Z])) (ps := [11, 14]) (i := 2) rfl hs)
      · obtain ⟨⟨(h2 : vals 2 = .pointer (some ⟨g, 0, none⟩)), t2⟩, _⟩ := hk
        simp only [h2]
        clear h2
        have d11 := not_yet hc hi 11 60 (by kernel_rfl)
        have d14 := not_yet hc hi 14 60 (by kernel_rfl)
        have hn : cntD [11, 14] dn = 0 := by show (if dn 11 = true then 1 else 0) + ((if dn 14 = true then 1 else 0) + 0) = 0; rw [d11, d14]; rfl
        have hs1 := stage_at (A := (stgs [QA wa s b v c d bs nm I B t Z, QA wa s b v c d bs nm (up I 4 (B 0)) B t Z, QA wa s b v c d bs nm (up (up I 4 (B 0)) 3 (jn (B 1) (B 2))) B t Z])) hn hs
        have q := (GF.out x 0 (show QA wa s b v c d bs nm I B t Z x from hs1).2).trans rfl
        go_wp2_with fail
        exact postS_mk _ rfl rfl (stage_keep (A := (stgs [QA wa s b v c d bs nm I B t Z, QA wa s b v c d bs nm (up I 4 (B 0)) B t Z, QA wa s b v c d bs nm (up (up I 4 (B 0)) 3 (jn (B 1) (B 2))) B t Z])) (ps := [11, 14]) (i := 3) rfl hs)
      · set_option maxRecDepth 20000 in
        go_wp2_with fail
        exact postS_mk _ rfl rfl (stage_keep (A := (stgs [QA wa s b v c d bs nm I B t Z, QA wa s b v c d bs nm (up I 4 (B 0)) B t Z, QA wa s b v c d bs nm (up (up I 4 (B 0)) 3 (jn (B 1) (B 2))) B t Z])) (ps := [11, 14]) (i := 4) rfl hs)
      · obtain ⟨⟨(h4 : vals 4 = .pointer (some ⟨g, 1, none⟩)), t4⟩, _⟩ := hk
        simp only [h4]
        clear h4
        have d11 := not_yet hc hi 11 60 (by kernel_rfl)
        have d14 := not_yet hc hi 14 60 (by kernel_rfl)
        have hn : cntD [11, 14] dn = 0 := by show (if dn 11 = true then 1 else 0) + ((if dn 14 = true then 1 else 0) + 0) = 0; rw [d11, d14]; rfl
        have hs1 := stage_at (A := (stgs [QA wa s b v c d bs nm I B t Z, QA wa s b v c d bs nm (up I 4 (B 0)) B t Z, QA wa s b v c d bs nm (up (up I 4 (B 0)) 3 (jn (B 1) (B 2))) B t Z])) hn hs
        have q := (GF.out x 1 (show QA wa s b v c d bs nm I B t Z x from hs1).2).trans rfl
        go_wp2_with fail
        exact postS_mk _ rfl rfl (stage_keep (A := (stgs [QA wa s b v c d bs nm I B t Z, QA wa s b v c d bs nm (up I 4 (B 0)) B t Z, QA wa s b v c d bs nm (up (up I 4 (B 0)) 3 (jn (B 1) (B 2))) B t Z])) (ps := [11, 14]) (i := 5) rfl hs)
      · set_option maxRecDepth 20000 in
        go_wp2_with fail
        exact postS_mk _ rfl rfl (stage_keep (A := (stgs [QA wa s b v c d bs nm I B t Z, QA wa s b v c d bs nm (up I 4 (B 0)) B t Z, QA wa s b v c d bs nm (up (up I 4 (B 0)) 3 (jn (B 1) (B 2))) B t Z])) (ps := [11, 14]) (i := 6) rfl hs)
      · obtain ⟨⟨(h6 : vals 6 = .pointer (some ⟨g, 2, none⟩)), t6⟩, _⟩ := hk
        simp only [h6]
        clear h6
        have d11 := not_yet hc hi 11 60 (by kernel_rfl)
        have d14 := not_yet hc hi 14 60 (by kernel_rfl)
        have hn : cntD [11, 14] dn = 0 := by show (if dn 11 = true then 1 else 0) + ((if dn 14 = true then 1 else 0) + 0) = 0; rw [d11, d14]; rfl
        have hs1 := stage_at (A := (stgs [QA wa s b v c d bs nm I B t Z, QA wa s b v c d bs nm (up I 4 (B 0)) B t Z, QA wa s b v c d bs nm (up (up I 4 (B 0)) 3 (jn (B 1) (B 2))) B t Z])) hn hs
        have q := (GF.out x 2 (show QA wa s b v c d bs nm I B t Z x from hs1).2).trans rfl
        go_wp2_with fail
        exact postS_mk _ rfl rfl (stage_keep (A := (stgs [QA wa s b v c d bs nm I B t Z, QA wa s b v c d bs nm (up I 4 (B 0)) B t Z, QA wa s b v c d bs nm (up (up I 4 (B 0)) 3 (jn (B 1) (B 2))) B t Z])) (ps := [11, 14]) (i := 7) rfl hs)
      · obtain ⟨⟨(h5 : vals 5 = .int .i64 (B 1)), t5⟩, ⟨(h7 : vals 7 = .int .i64 (B 2)), t7⟩, _⟩ := hk
        simp only [h5, h7]
        clear h5 h7
        have d11 := not_yet hc hi 11 60 (by kernel_rfl)
        have d14 := not_yet hc hi 14 60 (by kernel_rfl)
        have hn : cntD [11, 14] dn = 0 := by show (if dn 11 = true then 1 else 0) + ((if dn 14 = true then 1 else 0) + 0) = 0; rw [d11, d14]; rfl
        have hs1 := stage_at (A := (stgs [QA wa s b v c d bs nm I B t Z, QA wa s b v c d bs nm (up I 4 (B 0)) B t Z, QA wa s b v c d bs nm (up (up I 4 (B 0)) 3 (jn (B 1) (B 2))) B t Z])) hn hs
        have HS := hide hs
        have HS1 := hide hs1
        clear hs hs1
        go_wp2_with fail
        refine (join_any (B 1) (B 2) _).mono ?_
        rintro e x2 ⟨rfl, b2⟩
        have H2 := hide (stgs_next (stab3 QA.stab QA.stab QA.stab) HS.out b2)
        clear b2 HS HS1
        go_wp2_with fail
        exact postS_mk _ rfl rfl (stage_keep (A := (stgs [QA wa s b v c d bs nm I B t Z, QA wa s b v c d bs nm (up I 4 (B 0)) B t Z, QA wa s b v c d bs nm (up (up I 4 (B 0)) 3 (jn (B 1) (B 2))) B t Z])) (ps := [11, 14]) (i := 8) rfl H2.out)
      · obtain ⟨⟨(h0 : vals 0 = .pointer (some ⟨s, 0, none⟩)), t0⟩, _, _, ⟨(h2 : vals 2 = .pointer (some ⟨g, 0, none⟩)), t2⟩, ⟨(h3 : vals 3 = .int .i64 (B 0)), t3⟩, _, _, _, _, ⟨(h8 : vals 8 = .int .i64 (jn (B 1) (B 2))), t8⟩, _⟩ := hk
        simp only [h0]
        clear h0 h2 h3 h8
        go_wp2_with fail
        exact postS_mk _ rfl rfl (stage_keep (A := (stgs [QA wa s b v c d bs nm I B t Z, QA wa s b v c d bs nm (up I 4 (B 0)) B t Z, QA wa s b v c d bs nm (up (up I 4 (B 0)) 3 (jn (B 1) (B 2))) B t Z])) (ps := [11, 14]) (i := 9) rfl hs)
      · obtain ⟨⟨(h9 : vals 9 = .pointer (some ⟨s, 0, none⟩)), t9⟩, ⟨(h0 : vals 0 = .pointer (some ⟨s, 0, none⟩)), t0⟩, _, ⟨(h2 : vals 2 = .pointer (some ⟨g, 0, none⟩)), t2⟩, ⟨(h3 : vals 3 = .int .i64 (B 0)), t3⟩, _, _, _, _, ⟨(h8 : vals 8 = .int .i64 (jn (B 1) (B 2))), t8⟩, _⟩ := hk
        simp only [h9]
        clear h9 h0 h2 h3 h8
        go_wp2_with fail
        exact postS_mk _ rfl rfl (stage_keep (A := (stgs [QA wa s b v c d bs nm I B t Z, QA wa s b v c d bs nm (up I 4 (B 0)) B t Z, QA wa s b v c d bs nm (up (up I 4 (B 0)) 3 (jn (B 1) (B 2))) B t Z])) (ps := [11, 14]) (i := 10) rfl hs)
      · obtain ⟨⟨(h10 : vals 10 = .pointer (some ⟨s, 21, none⟩)), t10⟩, ⟨(h3 : vals 3 = .int .i64 (B 0)), t3⟩, ⟨(h8 : vals 8 = .int .i64 (jn (B 1) (B 2))), t8⟩, ⟨(h0 : vals 0 = .pointer (some ⟨s, 0, none⟩)), t0⟩, _, ⟨(h2 : vals 2 = .pointer (some ⟨g, 0, none⟩)), t2⟩, _, _, _, _, _, _, _⟩ := hk
        simp only [h10, h3]
        clear h10 h3 h8 h0 h2
        have d11 := hi
        have d14 := not_yet hc hi 14 60 (by kernel_rfl)
        have hn : cntD [11, 14] dn = 0 := by show (if dn 11 = true then 1 else 0) + ((if dn 14 = true then 1 else 0) + 0) = 0; rw [d11, d14]; rfl
        have hs1 := stage_at (A := (stgs [QA wa s b v c d bs nm I B t Z, QA wa s b v c d bs nm (up I 4 (B 0)) B t Z, QA wa s b v c d bs nm (up (up I 4 (B 0)) 3 (jn (B 1) (B 2))) B t Z])) hn hs
        have hn2 : cntD [11, 14] (updD dn 11) = 1 := by show (if updD dn 11 11 = true then 1 else 0) + ((if updD dn 11 14 = true then 1 else 0) + 0) = 1; rw [updD_same, updD_other dn (show ¬ 14 = 11 by decide), d14]; rfl
        have HN2 := hide hn2
        clear hn hn2 d14
        have q := (fun h : QA wa s b v c d bs nm I B t Z x => h.1.mask) hs1
        have z := (fun h : QA wa s b v c d bs nm I B t Z x => h.1.frz 21) hs1
        have H2 := hide ((fun h : QA wa s b v c d bs nm I B t Z x => show QA wa s b v c d bs nm (up I 4 (B 0)) B t Z _ from ⟨h.1.putI 1 (by decide) (B 0) (a := 21) rfl, eq_set h.2 21 _⟩) hs1)
        clear hs hs1
        go_wp2_with fail
        exact postS_mk _ rfl rfl (stage_of (A := (stgs [QA wa s b v c d bs nm I B t Z, QA wa s b v c d bs nm (up I 4 (B 0)) B t Z, QA wa s b v c d bs nm (up (up I 4 (B 0)) 3 (jn (B 1) (B 2))) B t Z])) HN2.out H2.out)
      · obtain ⟨⟨(h1 : vals 1 = .pointer (some ⟨s, 0, none⟩)), t1⟩, ⟨(h0 : vals 0 = .pointer (some ⟨s, 0, none⟩)), t0⟩, _, ⟨(h2 : vals 2 = .pointer (some ⟨g, 0, none⟩)), t2⟩, ⟨(h3 : vals 3 = .int .i64 (B 0)), t3⟩, ⟨(h4 : vals 4 = .pointer (some ⟨g, 1, none⟩)), t4⟩, ⟨(h5 : vals 5 = .int .i64 (B 1)), t5⟩, ⟨(h6 : vals 6 = .pointer (some ⟨g, 2, none⟩)), t6⟩, ⟨(h7 : vals 7 = .int .i64 (B 2)), t7⟩, ⟨(h8 : vals 8 = .int .i64 (jn (B 1) (B 2))), t8⟩, ⟨(h9 : vals 9 = .pointer (some ⟨s, 0, none⟩)), t9⟩, ⟨(h10 : vals 10 = .pointer (some ⟨s, 21, none⟩)), t10⟩, ⟨(h11 : vals 11 = undef), t11⟩, _⟩ := hk
        simp only [h1]
        clear h1 h0 h2 h3 h4 h5 h6 h7 h8 h9 h10 h11
        go_wp2_with fail
        exact postS_mk _ rfl rfl (stage_keep (A := (stgs [QA wa s b v c d bs nm I B t Z, QA wa s b v c d bs nm (up I 4 (B 0)) B t Z, QA wa s b v c d bs nm (up (up I 4 (B 0)) 3 (jn (B 1) (B 2))) B t Z])) (ps := [11, 14]) (i := 12) rfl hs)
      · obtain ⟨⟨(h12 : vals 12 = .pointer (some ⟨s, 0, none⟩)), t12⟩, ⟨(h0 : vals 0 = .pointer (some ⟨s, 0, none⟩)), t0⟩, ⟨(h1 : vals 1 = .pointer (some ⟨s, 0, none⟩)), t1⟩, ⟨(h2 : vals 2 = .pointer (some ⟨g, 0, none⟩)), t2⟩, ⟨(h3 : vals 3 = .int .i64 (B 0)), t3⟩, ⟨(h4 : vals 4 = .pointer (some ⟨g, 1, none⟩)), t4⟩, ⟨(h5 : vals 5 = .int .i64 (B 1)), t5⟩, ⟨(h6 : vals 6 = .pointer (some ⟨g, 2, none⟩)), t6⟩, ⟨(h7 : vals 7 = .int .i64 (B 2)), t7⟩, ⟨(h8 : vals 8 = .int .i64 (jn (B 1) (B 2))), t8⟩, ⟨(h9 : vals 9 = .pointer (some ⟨s, 0, none⟩)), t9⟩, ⟨(h10 : vals 10 = .pointer (some ⟨s, 21, none⟩)), t10⟩, ⟨(h11 : vals 11 = undef), t11⟩, _⟩ := hk
        simp only [h12]
        clear h12 h0 h1 h2 h3 h4 h5 h6 h7 h8 h9 h10 h11
        go_wp2_with fail
        exact postS_mk _ rfl rfl (stage_keep (A := (stgs [QA wa s b v c d bs nm I B t Z, QA wa s b v c d bs nm (up I 4 (B 0)) B t Z, QA wa s b v c d bs nm (up (up I 4 (B 0)) 3 (jn (B 1) (B 2))) B t Z])) (ps := [11, 14]) (i := 13) rfl hs)
      · obtain ⟨⟨(h13 : vals 13 = .pointer (some ⟨s, 20, none⟩)), t13⟩, ⟨(h8 : vals 8 = .int .i64 (jn (B 1) (B 2))), t8⟩, ⟨(h11 : vals 11 = undef), t11⟩, ⟨(h0 : vals 0 = .pointer (some ⟨s, 0, none⟩)), t0⟩, ⟨(h1 : vals 1 = .pointer (some ⟨s, 0, none⟩)), t1⟩, ⟨(h2 : vals 2 = .pointer (some ⟨g, 0, none⟩)), t2⟩, ⟨(h3 : vals 3 = .int .i64 (B 0)), t3⟩, ⟨(h4 : vals 4 = .pointer (some ⟨g, 1, none⟩)), t4⟩, ⟨(h5 : vals 5 = .int .i64 (B 1)), t5⟩, ⟨(h6 : vals 6 = .pointer (some ⟨g, 2, none⟩)), t6⟩, ⟨(h7 : vals 7 = .int .i64 (B 2)), t7⟩, _, ⟨(h9 : vals 9 = .pointer (some ⟨s, 0, none⟩)), t9⟩, ⟨(h10 : vals 10 = .pointer (some ⟨s, 21, none⟩)), t10⟩, _, _⟩ := hk
        simp only [h13, h8]
        clear h13 h8 h11 h0 h1 h2 h3 h4 h5 h6 h7 h9 h10
        have d11 := t11
        have d14 := hi
        have hn : cntD [11, 14] dn = 1 := by show (if dn 11 = true then 1 else 0) + ((if dn 14 = true then 1 else 0) + 0) = 1; rw [d11, d14]; rfl
        have hs1 := stage_at (A := (stgs [QA wa s b v c d bs nm I B t Z, QA wa s b v c d bs nm (up I 4 (B 0)) B t Z, QA wa s b v c d bs nm (up (up I 4 (B 0)) 3 (jn (B 1) (B 2))) B t Z])) hn hs
        have hn2 : cntD [11, 14] (updD dn 14) = 2 := by show (if updD dn 14 11 = true then 1 else 0) + ((if updD dn 14 14 = true then 1 else 0) + 0) = 2; rw [updD_other dn (show ¬ 11 = 14 by decide), updD_same, d11]; rfl
        have HN2 := hide hn2
        clear hn hn2 d11
        have q := (fun h : QA wa s b v c d bs nm (up I 4 (B 0)) B t Z x => h.1.oper) hs1
        have z := (fun h : QA wa s b v c d bs nm (up I 4 (B 0)) B t Z x => h.1.frz 20) hs1
        have H2 := hide ((fun h : QA wa s b v c d bs nm (up I 4 (B 0)) B t Z x => show QA wa s b v c d bs nm (up (up I 4 (B 0)) 3 (jn (B 1) (B 2))) B t Z _ from ⟨h.1.putI 0 (by decide) (jn (B 1) (B 2)) (a := 20) rfl, eq_set h.2 20 _⟩) hs1)
        clear hs hs1
        go_wp2_with fail
        exact postS_mk _ rfl rfl (stage_of (A := (stgs [QA wa s b v c d bs nm I B t Z, QA wa s b v c d bs nm (up I 4 (B 0)) B t Z, QA wa s b v c d bs nm (up (up I 4 (B 0)) 3 (jn (B 1) (B 2))) B t Z])) HN2.out H2.out)
    rintro vals dn x hall hs hv
    clear hv
    have hn : cntD [11, 14] dn = 2 := by show (if dn 11 = true then 1 else 0) + ((if dn 14 = true then 1 else 0) + 0) = 2; rw [hall 11 (by decide), hall 14 (by decide)]; rfl
    have hs := stage_at (A := (stgs [QA wa s b v c d bs nm I B t Z, QA wa s b v c d bs nm (up I 4 (B 0)) B t Z, QA wa s b v c d bs nm (up (up I 4 (B 0)) 3 (jn (B 1) (B 2))) B t Z])) hn hs
    clear hn hall
    obtain ⟨h2, o2⟩ : QA wa s b v c d bs nm (up (up I 4 (B 0)) 3 (jn (B 1) (B 2))) B t Z x := hs
    have H2 := hide h2
    have O2 := hide (OA.out.trans o2)
    clear h2 o2 hs
    go_wp2
    go_end0
    exact ⟨rfl, H2.out, O2.out⟩
theorem part_17 {w : World} {s b v c d : Nat} {bs : List Int} {nm : ByteArray} {I B : Nat → Int} {t : Bool} {Z : Nat → Nat → Int} (h : HasQ w s b v c d bs nm I B t Z) (hm : I 0 = 17) : Calls Tryz.prog 41 #[.pointer (some ⟨s, 0, none⟩)] w fun e w' => e = Ending.returned (.tuple #[]) ∧ HasQ w' s b v c d bs nm (up (up I 4 (B 0)) 3 (jn (B 1) (B 2))) B t Z ∧ OnlyE (EQ s b v) w w' := part_hi h (.inl hm)
theorem part_18 {w : World} {s b v c d : Nat} {bs : List Int} {nm : ByteArray} {I B : Nat → Int} {t : Bool} {Z : Nat → Nat → Int} (h : HasQ w s b v c d bs nm I B t Z) (hm : I 0 = 18) : Calls Tryz.prog 41 #[.pointer (some ⟨s, 0, none⟩)] w fun e w' => e = Ending.returned (.tuple #[]) ∧ HasQ w' s b v c d bs nm (up (up I 4 (B 0)) 3 (jn (B 1) (B 2))) B t Z ∧ OnlyE (EQ s b v) w w' := part_hi h (.inr (.inl hm))
theorem part_19 {w : World} {s b v c d : Nat} {bs : List Int} {nm : ByteArray} {I B : Nat → Int} {t : Bool} {Z : Nat → Nat → Int} (h : HasQ w s b v c d bs nm I B t Z) (hm : I 0 = 19) : Calls Tryz.prog 41 #[.pointer (some ⟨s, 0, none⟩)] w fun e w' => e = Ending.returned (.tuple #[]) ∧ HasQ w' s b v c d bs nm (up (up I 4 (B 0)) 3 (jn (B 1) (B 2))) B t Z ∧ OnlyE (EQ s b v) w w' := part_hi h (.inr (.inr (.inl hm)))
theorem part_20 {w : World} {s b v c d : Nat} {bs : List Int} {nm : ByteArray} {I B : Nat → Int} {t : Bool} {Z : Nat → Nat → Int} (h : HasQ w s b v c d bs nm I B t Z) (hm : I 0 = 20) : Calls Tryz.prog 41 #[.pointer (some ⟨s, 0, none⟩)] w fun e w' => e = Ending.returned (.tuple #[]) ∧ HasQ w' s b v c d bs nm (up (up I 4 (B 0)) 3 (jn (B 1) (B 2))) B t Z ∧ OnlyE (EQ s b v) w w' := part_hi h (.inr (.inr (.inr hm)))
set_option maxHeartbeats 1000000 in
theorem part_15 {w : World} {s b v c d : Nat} {bs : List Int} {nm : ByteArray} {I B : Nat → Int} {t : Bool} {Z : Nat → Nat → Int} (h : HasQ w s b v c d bs nm I B t Z) (hm : I 0 = 15) : Calls Tryz.prog 41 #[.pointer (some ⟨s, 0, none⟩)] w fun e w' => e = Ending.returned (.tuple #[]) ∧ HasQ w' s b v c d bs nm (up (up I 3 (B 0)) 5 (B 1)) B t Z ∧ OnlyE (EQ s b v) w w' := by
  have HE := hide h
  have HF := hide h.1
  have SEG := hide (seg_beh b nm I B t Z)
  have HL := hide h.lt
  have HLB := hide h.2.1.1.lt
  have HLV := hide (lt_of_block h.2.1.2.1)
  clear h
  go_enter Tryz.func41, Tryz.ntmps41
  go_upto_region 1 with (first
    | (refine wpList_load_part rfl 83 (.tmp 5) rfl s 14 rfl HF.out 6 (by decide) (iv B) SEG.out _ Tryz.underlying83 rfl (by kernel_rfl) ?_; rw [show rowF (iv B) 6 = #[.int .i64 (B 0), .int .i64 (B 1), .int .i64 (B 2), .int .i64 (B 3), .int .i64 (B 4), .int .i64 (B 5)] from rfl]))
  refine under_name fun wa hwa => ?_
  have GA : Hid (wa.heap[w.heap.size]? = some (.cells #[.int .i64 (B 0), .int .i64 (B 1), .int .i64 (B 2), .int .i64 (B 3), .int .i64 (B 4), .int .i64 (B 5)] 83 (0, 0))) := hide (by rw [hwa]; exact heap_alloc_new _ _)
  have BA : Hid (Below w.heap.size w wa) := hide (by rw [hwa]; exact (Below.refl _ w).alloc (Nat.le_refl _) _)
  have HA := hide (HE.out.next BA.out)
  have OA := hide (eq_of (s := s) (b := b) (v := v) BA.out)
  have NE : Hid (¬ EQ s b v w.heap.size) := hide (fun e => by have := HL.out; have := HLB.out; have := HLV.out; rcases e with e | e | e <;> omega)
  have GF : Hid (∀ (x : World) (k : Nat), OnlyE (EQ s b v) wa x → x.cell? ⟨w.heap.size, k, none⟩ = #[.int .i64 (B 0), .int .i64 (B 1), .int .i64 (B 2), .int .i64 (B 3), .int .i64 (B 4), .int .i64 (B 5)][k]?) := hide (fun x k o => cell_of_row x w.heap.size k _ _ _ (o.obj GA.out NE.out))
  generalize w.heap.size = g at *
  have c11 := HA.out.mode
  rw [hm] at c11
  clear hwa HE HF SEG BA
  go_wp2_with fail
  refine wp_region_state (ofList [.pointer (some ⟨s, 0, none⟩), .pointer (some ⟨s, 0, none⟩), .pointer (some ⟨g, 0, none⟩), .int .i64 (B 0), .pointer (some ⟨g, 1, none⟩), .int .i64 (B 1), .pointer (some ⟨s, 0, none⟩), .pointer (some ⟨s, 20, none⟩), undef, .pointer (some ⟨s, 0, none⟩), .pointer (some ⟨s, 22, none⟩), undef]) (fun dd ww => (stgs [QA wa s b v c d bs nm I B t Z, QA wa s b v c d bs nm (up I 3 (B 0)) B t Z, QA wa s b v c d bs nm (up (up I 3 (B 0)) 5 (B 1)) B t Z]) (cntD [8, 11] dd) ww) _ (fun vals => by simp only [putAll, Act.put, List.setIfInBounds_toArray, List.set_cons_succ, List.set_cons_zero, Nat.reduceAdd]; rfl) (by kernel_rfl) (by kernel_rfl) (by kernel_rfl) (fun dn hd => stage_none (A := (stgs [QA wa s b v c d bs nm I B t Z, QA wa s b v c d bs nm (up I 3 (B 0)) B t Z, QA wa s b v c d bs nm (up (up I 3 (B 0)) 5 (B 1)) B t Z])) hd (QA.mk HA.out)) ?_ ?_
  · refine stepsS_cons (fun vals dn x hi hc hk hs => ?_) (stepsS_cons (fun vals dn x hi hc hk hs => ?_) (stepsS_cons (fun vals dn x hi hc hk hs => ?_) (stepsS_cons (fun vals dn x hi hc hk hs => ?_) (stepsS_cons (fun vals dn x hi hc hk hs => ?_) (stepsS_cons (fun vals dn x hi hc hk hs => ?_) (stepsS_cons (fun vals dn x hi hc hk hs => ?_) (stepsS_cons (fun vals dn x hi hc hk hs => ?_) (stepsS_cons (fun vals dn x hi hc hk hs => ?_) (stepsS_cons (fun vals dn x hi hc hk hs => ?_) (stepsS_cons (fun vals dn x hi hc hk hs => ?_) (stepsS_cons (fun vals dn x hi hc hk hs => ?_) stepsS_nil)))))))))))
    · set_option maxRecDepth 20000 in
      go_wp2_with fail
      exact postS_mk _ rfl rfl (stage_keep (A := (stgs [QA wa s b v c d bs nm I B t Z, QA wa s b v c d bs nm (up I 3 (B 0)) B t Z, QA wa s b v c d bs nm (up (up I 3 (B 0)) 5 (B 1)) B t Z])) (ps := [8, 11]) (i := 0) rfl hs)
    · obtain ⟨_, _⟩ := hk
      go_wp2_with fail
      exact postS_mk _ rfl rfl (stage_keep (A := (stgs [QA wa s b v c d bs nm I B t Z, QA wa s b v c d bs nm (up I 3 (B 0)) B t Z, QA wa s b v c d bs nm (up (up I 3 (B 0)) 5 (B 1)) B t Z])) (ps := [8, 11]) (i := 1) rfl hs)
    · set_option maxRecDepth 20000 in
      go_wp2_with fail
      exact postS_mk _ rfl rfl (stage_keep (A := (stgs [QA wa s b v c d bs nm I B t Z, QA wa s b v c d bs nm (up I 3 (B 0)) B t Z, QA wa s b v c d bs nm (up (up I 3 (B 0)) 5 (B 1)) B t Z])) (ps := [8, 11]) (i := 2) rfl hs)
    · obtain ⟨⟨(h2 : vals 2 = .pointer (some ⟨g, 0, none⟩)), t2⟩, _⟩ := hk
      simp only [h2]
      clear h2
      have d8 := not_yet hc hi 8 60 (by kernel_rfl)
      have d11 := not_yet hc hi 11 60 (by kernel_rfl)
      have hn : cntD [8, 11] dn = 0 := by show (if dn 8 = true then 1 else 0) + ((if dn 11 = true then 1 else 0) + 0) = 0; rw [d8, d11]; rfl
      have hs1 := stage_at (A := (stgs [QA wa s b v c d bs nm I B t Z, QA wa s b v c d bs nm (up I 3 (B 0)) B t Z, QA wa s b v c d bs nm (up (up I 3 (B 0)) 5 (B 1)) B t Z])) hn hs
      have q := (GF.out x 0 (show QA wa s b v c d bs nm I B t Z x from hs1).2).trans rfl
      go_wp2_with fail
      exact postS_mk _ rfl rfl (stage_keep (A := (stgs [QA wa s b v c d bs nm I B t Z, QA wa s b v c d bs nm (up I 3 (B 0)) B t Z, QA wa s b v c d bs nm (up (up I 3 (B 0)) 5 (B 1)) B t Z])) (ps := [8, 11]) (i := 3) rfl hs)
    · set_option maxRecDepth 20000 in
      go_wp2_with fail
      exact postS_mk _ rfl rfl (stage_keep (A := (stgs [QA wa s b v c d bs nm I B t Z, QA wa s b v c d bs nm (up I 3 (B 0)) B t Z, QA wa s b v c d bs nm (up (up I 3 (B 0)) 5 (B 1)) B t Z])) (ps := [8, 11]) (i := 4) rfl hs)
    · obtain ⟨⟨(h4 : vals 4 = .pointer (some ⟨g, 1, none⟩)), t4⟩, _⟩ := hk
      simp only [h4]
      clear h4
      have hs1 := hs
      have q := (GF.out x 1 (stgs_case3 hs1 (cntD_le [8, 11] dn) (fun q => q.2) (fun q => q.2) (fun q => q.2))).trans rfl
      go_wp2_with fail
      exact postS_mk _ rfl rfl (stage_keep (A := (stgs [QA wa s b v c d bs nm I B t Z, QA wa s b v c d bs nm (up I 3 (B 0)) B t Z, QA wa s b v c d bs nm (up (up I 3 (B 0)) 5 (B 1)) B t Z])) (ps := [8, 11]) (i := 5) rfl hs)
    · obtain ⟨⟨(h0 : vals 0 = .pointer (some ⟨s, 0, none⟩)), t0⟩, _, _, ⟨(h2 : vals 2 = .pointer (some ⟨g, 0, none⟩)), t2⟩, ⟨(h3 : vals 3 = .int .i64 (B 0)), t3⟩, _, _, _⟩ := hk
      simp only [h0]
      clear h0 h2 h3
      go_wp2_with fail
      exact postS_mk _ rfl rfl (stage_keep (A := (stgs [QA wa s b v c d bs nm I B t Z, QA wa s b v c d bs nm (up I 3 (B 0)) B t Z, QA wa s b v c d bs nm (up (up I 3 (B 0)) 5 (B 1)) B t Z])) (ps := [8, 11]) (i := 6) rfl hs)
    · obtain ⟨⟨(h6 : vals 6 = .pointer (some ⟨s, 0, none⟩)), t6⟩, ⟨(h0 : vals 0 = .pointer (some ⟨s, 0, none⟩)), t0⟩, _, ⟨(h2 : vals 2 = .pointer (some ⟨g, 0, none⟩)), t2⟩, ⟨(h3 : vals 3 = .int .i64 (B 0)), t3⟩, _, _, _⟩ := hk
      simp only [h6]
      clear h6 h0 h2 h3
      go_wp2_with fail
      exact postS_mk _ rfl rfl (stage_keep (A := (stgs [QA wa s b v c d bs nm I B t Z, QA wa s b v c d bs nm (up I 3 (B 0)) B t Z, QA wa s b v c d bs nm (up (up I 3 (B 0)) 5 (B 1)) B t Z])) (ps := [8, 11]) (i := 7) rfl hs)
    · obtain ⟨⟨(h7 : vals 7 = .pointer (some ⟨s, 20, none⟩)), t7⟩, ⟨(h3 : vals 3 = .int .i64 (B 0)), t3⟩, ⟨(h0 : vals 0 = .pointer (some ⟨s, 0, none⟩)), t0⟩, _, ⟨(h2 : vals 2 = .pointer (some ⟨g, 0, none⟩)), t2⟩, _, _, _, _⟩ := hk
      simp only [h7, h3]
      clear h7 h3 h0 h2
      have d8 := hi
      have d11 := not_yet hc hi 11 60 (by kernel_rfl)
      have hn : cntD [8, 11] dn = 0 := by show (if dn 8 = true then 1 else 0) + ((if dn 11 = true then 1 else 0) + 0) = 0; rw [d8, d11]; rfl
      have hs1 := stage_at (A := (stgs [QA wa s b v c d bs nm I B t Z, QA wa s b v c d bs nm (up I 3 (B 0)) B t Z, QA wa s b v c d bs nm (up (up I 3 (B 0)) 5 (B 1)) B t Z])) hn hs
      have hn2 : cntD [8, 11] (updD dn 8) = 1 := by show (if updD dn 8 8 = true then 1 else 0) + ((if updD dn 8 11 = true then 1 else 0) + 0) = 1; rw [updD_same, updD_other dn (show ¬ 11 = 8 by decide), d11]; rfl
      have HN2 := hide hn2
      clear hn hn2 d11
      have q := (fun h : QA wa s b v c d bs nm I B t Z x => h.1.oper) hs1
      have z := (fun h : QA wa s b v c d bs nm I B t Z x => h.1.frz 20) hs1
      have H2 := hide ((fun h : QA wa s b v c d bs nm I B t Z x => show QA wa s b v c d bs nm (up I 3 (B 0)) B t Z _ from ⟨h.1.putI 0 (by decide) (B 0) (a := 20) rfl, eq_set h.2 20 _⟩) hs1)
      clear hs hs1
      go_wp2_with fail
      exact postS_mk _ rfl rfl (stage_of (A := (stgs [QA wa s b v c d bs nm I B t Z, QA wa s b v c d bs nm (up I 3 (B 0)) B t Z, QA wa s b v c d bs nm (up (up I 3 (B 0)) 5 (B 1)) B t Z])) HN2.out H2.out)
    · obtain ⟨⟨(h1 : vals 1 = .pointer (some ⟨s, 0, none⟩)), t1⟩, ⟨(h0 : vals 0 = .pointer (some ⟨s, 0, none⟩)), t0⟩, _, ⟨(h2 : vals 2 = .pointer (some ⟨g, 0, none⟩)), t2⟩, ⟨(h3 : vals 3 = .int .i64 (B 0)), t3⟩, ⟨(h4 : vals 4 = .pointer (some ⟨g, 1, none⟩)), t4⟩, ⟨(h5 : vals 5 = .int .i64 (B 1)), t5⟩, ⟨(h6 : vals 6 = .pointer (some ⟨s, 0, none⟩)), t6⟩, ⟨(h7 : vals 7 = .pointer (some ⟨s, 20, none⟩)), t7⟩, ⟨(h8 : vals 8 = undef), t8⟩, _⟩ := hk
      simp only [h1]
      clear h1 h0 h2 h3 h4 h5 h6 h7 h8
      go_wp2_with fail
      exact postS_mk _ rfl rfl (stage_keep (A := (stgs [QA wa s b v c d bs nm I B t Z, QA wa s b v c d bs nm (up I 3 (B 0)) B t Z, QA wa s b v c d bs nm (up (up I 3 (B 0)) 5 (B 1)) B t Z])) (ps := [8, 11]) (i := 9) rfl hs)
    · obtain ⟨⟨(h9 : vals 9 = .pointer (some ⟨s, 0, none⟩)), t9⟩, ⟨(h0 : vals 0 = .pointer (some ⟨s, 0, none⟩)), t0⟩, ⟨(h1 : vals 1 = .pointer (some ⟨s, 0, none⟩)), t1⟩, ⟨(h2 : vals 2 = .pointer (some ⟨g, 0, none⟩)), t2⟩, ⟨(h3 : vals 3 = .int .i64 (B 0)), t3⟩, ⟨(h4 : vals 4 = .pointer (some ⟨g, 1, none⟩)), t4⟩, ⟨(h5 : vals 5 = .int .i64 (B 1)), t5⟩, ⟨(h6 : vals 6 = .pointer (some ⟨s, 0, none⟩)), t6⟩, ⟨(h7 : vals 7 = .pointer (some ⟨s, 20, none⟩)), t7⟩, ⟨(h8 : vals 8 = undef), t8⟩, _⟩ := hk
      simp only [h9]
      clear h9 h0 h1 h2 h3 h4 h5 h6 h7 h8
      go_wp2_with fail
      exact postS_mk _ rfl rfl (stage_keep (A := (stgs [QA wa s b v c d bs nm I B t Z, QA wa s b v c d bs nm (up I 3 (B 0)) B t Z, QA wa s b v c d bs nm (up (up I 3 (B 0)) 5 (B 1)) B t Z])) (ps := [8, 11]) (i := 10) rfl hs)
    · obtain ⟨⟨(h10 : vals 10 = .pointer (some ⟨s, 22, none⟩)), t10⟩, ⟨(h5 : vals 5 = .int .i64 (B 1)), t5⟩, ⟨(h8 : vals 8 = undef), t8⟩, ⟨(h0 : vals 0 = .pointer (some ⟨s, 0, none⟩)), t0⟩, ⟨(h1 : vals 1 = .pointer (some ⟨s, 0, none⟩)), t1⟩, ⟨(h2 : vals 2 = .pointer (some ⟨g, 0, none⟩)), t2⟩, ⟨(h3 : vals 3 = .int .i64 (B 0)), t3⟩, ⟨(h4 : vals 4 = .pointer (some ⟨g, 1, none⟩)), t4⟩, _, ⟨(h6 : vals 6 = .pointer (some ⟨s, 0, none⟩)), t6⟩, ⟨(h7 : vals 7 = .pointer (some ⟨s, 20, none⟩)), t7⟩, _, _⟩ := hk
      simp only [h10, h5]
      clear h10 h5 h8 h0 h1 h2 h3 h4 h6 h7
      have d8 := t8
      have d11 := hi
      have hn : cntD [8, 11] dn = 1 := by show (if dn 8 = true then 1 else 0) + ((if dn 11 = true then 1 else 0) + 0) = 1; rw [d8, d11]; rfl
      have hs1 := stage_at (A := (stgs [QA wa s b v c d bs nm I B t Z, QA wa s b v c d bs nm (up I 3 (B 0)) B t Z, QA wa s b v c d bs nm (up (up I 3 (B 0)) 5 (B 1)) B t Z])) hn hs
      have hn2 : cntD [8, 11] (updD dn 11) = 2 := by show (if updD dn 11 8 = true then 1 else 0) + ((if updD dn 11 11 = true then 1 else 0) + 0) = 2; rw [updD_other dn (show ¬ 8 = 11 by decide), updD_same, d8]; rfl
      have HN2 := hide hn2
      clear hn hn2 d8
      have q := (fun h : QA wa s b v c d bs nm (up I 3 (B 0)) B t Z x => h.1.farr) hs1
      have z := (fun h : QA wa s b v c d bs nm (up I 3 (B 0)) B t Z x => h.1.frz 22) hs1
      have H2 := hide ((fun h : QA wa s b v c d bs nm (up I 3 (B 0)) B t Z x => show QA wa s b v c d bs nm (up (up I 3 (B 0)) 5 (B 1)) B t Z _ from ⟨h.1.putI 2 (by decide) (B 1) (a := 22) rfl, eq_set h.2 22 _⟩) hs1)
      clear hs hs1
      go_wp2_with fail
      exact postS_mk _ rfl rfl (stage_of (A := (stgs [QA wa s b v c d bs nm I B t Z, QA wa s b v c d bs nm (up I 3 (B 0)) B t Z, QA wa s b v c d bs nm (up (up I 3 (B 0)) 5 (B 1)) B t Z])) HN2.out H2.out)
  rintro vals dn x hall hs hv
  clear hv
  have hn : cntD [8, 11] dn = 2 := by show (if dn 8 = true then 1 else 0) + ((if dn 11 = true then 1 else 0) + 0) = 2; rw [hall 8 (by decide), hall 11 (by decide)]; rfl
  have hs := stage_at (A := (stgs [QA wa s b v c d bs nm I B t Z, QA wa s b v c d bs nm (up I 3 (B 0)) B t Z, QA wa s b v c d bs nm (up (up I 3 (B 0)) 5 (B 1)) B t Z])) hn hs
  clear hn hall
  obtain ⟨h2, o2⟩ : QA wa s b v c d bs nm (up (up I 3 (B 0)) 5 (B 1)) B t Z x := hs
  have H2 := hide h2
  have O2 := hide (OA.out.trans o2)
  clear h2 o2 hs
  go_wp2
  go_end0
  exact ⟨rfl, H2.out, O2.out⟩
theorem part_14 {w : World} {s b v c d : Nat} {bs : List Int} {nm : ByteArray} {I B : Nat → Int} {t : Bool} {Z : Nat → Nat → Int} (h : HasQ w s b v c d bs nm I B t Z) (hm : I 0 = 14) : Calls Tryz.prog 41 #[.pointer (some ⟨s, 0, none⟩)] w fun e w' => e = Ending.returned (.tuple #[]) ∧ HasQ w' s b v c d bs nm (up I 5 (B 0)) B t Z ∧ OnlyE (EQ s b v) w w' := by
  have HE := hide h
  have HF := hide h.1
  have SEG := hide (seg_beh b nm I B t Z)
  have HL := hide h.lt
  have HLB := hide h.2.1.1.lt
  have HLV := hide (lt_of_block h.2.1.2.1)
  clear h
  go_enter Tryz.func41, Tryz.ntmps41
  go_upto_region 1 with (first
    | (refine wpList_load_part rfl 83 (.tmp 5) rfl s 14 rfl HF.out 6 (by decide) (iv B) SEG.out _ Tryz.underlying83 rfl (by kernel_rfl) ?_; rw [show rowF (iv B) 6 = #[.int .i64 (B 0), .int .i64 (B 1), .int .i64 (B 2), .int .i64 (B 3), .int .i64 (B 4), .int .i64 (B 5)] from rfl]))
  refine under_name fun wa hwa => ?_
  have GA : Hid (wa.heap[w.heap.size]? = some (.cells #[.int .i64 (B 0), .int .i64 (B 1), .int .i64 (B 2), .int .i64 (B 3), .int .i64 (B 4), .int .i64 (B 5)] 83 (0, 0))) := hide (by rw [hwa]; exact heap_alloc_new _ _)
  have BA : Hid (Below w.heap.size w wa) := hide (by rw [hwa]; exact (Below.refl _ w).alloc (Nat.le_refl _) _)
  have HA := hide (HE.out.next BA.out)
  have OA := hide (eq_of (s := s) (b := b) (v := v) BA.out)
  have NE : Hid (¬ EQ s b v w.heap.size) := hide (fun e => by have := HL.out; have := HLB.out; have := HLV.out; rcases e with e | e | e <;> omega)
  have GF : Hid (∀ (x : World) (k : Nat), OnlyE (EQ s b v) wa x → x.cell? ⟨w.heap.size, k, none⟩ = #[.int .i64 (B 0), .int .i64 (B 1), .int .i64 (B 2), .int .i64 (B 3), .int .i64 (B 4), .int .i64 (B 5)][k]?) := hide (fun x k o => cell_of_row x w.heap.size k _ _ _ (o.obj GA.out NE.out))
  generalize w.heap.size = g at *
  have c11 := HA.out.mode
  rw [hm] at c11
  clear hwa HE HF SEG BA
  have g0 := (GF.out wa 0 (eq_of (Below.refl _ wa))).trans rfl
  have c22 := HA.out.farr
  have z22 := HA.out.frz 22
  have H2 := hide (HA.out.putI 2 (by decide) (B 0) (a := 22) rfl)
  have O2 := hide (eq_set OA.out 22 (.int .i64 (B 0)))
  clear GA GF HA OA
  go_wp2
  go_end0
  exact ⟨rfl, H2.out, O2.out⟩
theorem part_no {w : World} {s b v c d : Nat} {bs : List Int} {nm : ByteArray} {I B : Nat → Int} {t : Bool} {Z : Nat → Nat → Int} (h : HasQ w s b v c d bs nm I B t Z) (m : Int) (hm : I 0 = m) (h14 : ¬ m = 14) (h15 : ¬ m = 15) (h17 : ¬ m = 17) (h18 : ¬ m = 18) (h19 : ¬ m = 19) (h20 : ¬ m = 20) : Calls Tryz.prog 41 #[.pointer (some ⟨s, 0, none⟩)] w fun e w' => e = Ending.returned (.tuple #[]) ∧ HasQ w' s b v c d bs nm (up I 3 (jn (B 0) (B 1))) B t Z ∧ OnlyE (EQ s b v) w w' := by
  have HE := hide h
  have HF := hide h.1
  have SEG := hide (seg_beh b nm I B t Z)
  have HL := hide h.lt
  have HLB := hide h.2.1.1.lt
  have HLV := hide (lt_of_block h.2.1.2.1)
  clear h
  go_enter Tryz.func41, Tryz.ntmps41
  go_upto_region 1 with (first
    | (refine wpList_load_part rfl 83 (.tmp 5) rfl s 14 rfl HF.out 6 (by decide) (iv B) SEG.out _ Tryz.underlying83 rfl (by kernel_rfl) ?_; rw [show rowF (iv B) 6 = #[.int .i64 (B 0), .int .i64 (B 1), .int .i64 (B 2), .int .i64 (B 3), .int .i64 (B 4), .int .i64 (B 5)] from rfl]))
  refine under_name fun wa hwa => ?_
  have GA : Hid (wa.heap[w.heap.size]? = some (.cells #[.int .i64 (B 0), .int .i64 (B 1), .int .i64 (B 2), .int .i64 (B 3), .int .i64 (B 4), .int .i64 (B 5)] 83 (0, 0))) := hide (by rw [hwa]; exact heap_alloc_new _ _)
  have BA : Hid (Below w.heap.size w wa) := hide (by rw [hwa]; exact (Below.refl _ w).alloc (Nat.le_refl _) _)
  have HA := hide (HE.out.next BA.out)
  have OA := hide (eq_of (s := s) (b := b) (v := v) BA.out)
  have NE : Hid (¬ EQ s b v w.heap.size) := hide (fun e => by have := HL.out; have := HLB.out; have := HLV.out; rcases e with e | e | e <;> omega)
  have GF : Hid (∀ (x : World) (k : Nat), OnlyE (EQ s b v) wa x → x.cell? ⟨w.heap.size, k, none⟩ = #[.int .i64 (B 0), .int .i64 (B 1), .int .i64 (B 2), .int .i64 (B 3), .int .i64 (B 4), .int .i64 (B 5)][k]?) := hide (fun x k o => cell_of_row x w.heap.size k _ _ _ (o.obj GA.out NE.out))
  generalize w.heap.size = g at *
  have c11 := HA.out.mode
  rw [hm] at c11
  clear hwa HE HF SEG BA
  have g0 := (GF.out wa 0 (eq_of (Below.refl _ wa))).trans rfl
  have g1 := (GF.out wa 1 (eq_of (Below.refl _ wa))).trans rfl
  go_wp2_with (first | (go_at_call 90; refine (join_any _ _ _).mono ?_; rintro e w9 ⟨rfl, b9⟩; have H9 := HA.out.next b9; have c20 := H9.oper; have z20 := H9.frz 20; have H2 := hide (H9.putI 0 (by decide) (jn (B 0) (B 1)) (a := 20) rfl); have O2 := hide (eq_set (OA.out.trans (eq_of b9)) 20 (.int .i64 (jn (B 0) (B 1)))); clear b9 H9 HA OA GA GF g0 g1))
  go_end0
  exact ⟨rfl, H2.out, O2.out⟩
end Go.Proofs.YtoijhhbiknhlnaaGreatDoor.L25
