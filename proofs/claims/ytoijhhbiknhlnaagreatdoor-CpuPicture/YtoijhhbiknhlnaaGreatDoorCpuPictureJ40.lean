/- The program's processor: what an instruction does, case by case of its switch. -/
import Derived.Test.YtoijhhbiknhlnaaGreatDoorCpuPictureJ39
import Derived.Test.YtoijhhbiknhlnaaGreatDoorCpuPictureJ01
namespace Go.Proofs.YtoijhhbiknhlnaaGreatDoor.L25
set_option maxRecDepth 20000
open A2 B4 C3 G6 I11 J23 K9 L24 M5 N8 O7 P22 R15 T10 V12 W13
open Go.RowKit
set_option linter.unusedVariables false
theorem so2 {W x : World} {s b v c d : Nat} {bs : List Int} {nm : ByteArray} {I B : Nat → Int} {t : Bool} {Z0 Z1 : Nat → Nat → Int} {n : Nat} (h : stgs [QA W s b v c d bs nm I B t Z0, QA W s b v c d bs nm I B t Z1] n x) (hn : n ≤ 1) : OnlyE (EQ s b v) W x := stgs_case2 h hn (fun q => q.2) (fun q => q.2)
theorem so3 {W x : World} {s b v c d : Nat} {bs : List Int} {nm : ByteArray} {I B : Nat → Int} {t : Bool} {Z0 Z1 Z2 : Nat → Nat → Int} {n : Nat} (h : stgs [QA W s b v c d bs nm I B t Z0, QA W s b v c d bs nm I B t Z1, QA W s b v c d bs nm I B t Z2] n x) (hn : n ≤ 2) : OnlyE (EQ s b v) W x := stgs_case3 h hn (fun q => q.2) (fun q => q.2) (fun q => q.2)
theorem frame_259 (g : Nat → Value) : ((List.range 259).map g).toArray = #[g 0, g 1, g 2, g 3, g 4, g 5, g 6, g 7, g 8, g 9, g 10, g 11, g 12, g 13, g 14, g 15, g 16, g 17, g 18, g 19, g 20, g 21, g 22, g 23, g 24, g 25, g 26, g 27, g 28, g 29, g 30, g 31, g 32, g 33, g 34, g 35, g 36, g 37, g 38, g 39, g 40, g 41, g 42, g 43, g 44, g 45, g 46, g 47, g 48, g 49, g 50, g 51, g 52, g 53, g 54, g 55, g 56, g 57, g 58, g 59, g 60, g 61, g 62, g 63, g 64, g 65, g 66, g 67, g 68, g 69, g 70, g 71, g 72, g 73, g 74, g 75, g 76, g 77, g 78, g 79, g 80, g 81, g 82, g 83, g 84, g 85, g 86, g 87, g 88, g 89, g 90, g 91, g 92, g 93, g 94, g 95, g 96, g 97, g 98, g 99, g 100, g 101, g 102, g 103, g 104, g 105, g 106, g 107, g 108, g 109, g 110, g 111, g 112, g 113, g 114, g 115, g 116, g 117, g 118, g 119, g 120, g 121, g 122, g 123, g 124, g 125, g 126, g 127, g 128, g 129, g 130, g 131, g 132, g 133, g 134, g 135, g 136, g 137, g 138, g 139, g 140, g 141, g 142, g 143, g 144, g 145, g 146, g 147, g 148, g 149, g 150, g 151, g 152, g 153, g 154, g 155, g 156, g 157, g 158, g 159, g 160, g 161, g 162, g 163, g 164, g 165, g 166, g 167, g 168, g 169, g 170, g 171, g 172, g 173, g 174, g 175, g 176, g 177, g 178, g 179, g 180, g 181, g 182, g 183, g 184, g 185, g 186, g 187, g 188, g 189, g 190, g 191, g 192, g 193, g 194, g 195, g 196, g 197, g 198, g 199, g 200, g 201, g 202, g 203, g 204, g 205, g 206, g 207, g 208, g 209, g 210, g 211, g 212, g 213, g 214, g 215, g 216, g 217, g 218, g 219, g 220, g 221, g 222, g 223, g 224, g 225, g 226, g 227, g 228, g 229, g 230, g 231, g 232, g 233, g 234, g 235, g 236, g 237, g 238, g 239, g 240, g 241, g 242, g 243, g 244, g 245, g 246, g 247, g 248, g 249, g 250, g 251, g 252, g 253, g 254, g 255, g 256, g 257, g 258] := rfl
set_option maxHeartbeats 2000000 in
theorem body_0 {w : World} {s b v c d : Nat} {bs : List Int} {nm : ByteArray} {I B : Nat → Int} {t : Bool} {Z : Nat → Nat → Int} (h : HasQ w s b v c d bs nm I B t Z) {g1 g2 : Nat} {nn : ByteArray} (hb : Boxes s b v g1 g2 nn w) (g : Nat → Value) (e1 : g 1 = .pointer (some ⟨g1, 0, none⟩)) (e2 : g 2 = .pointer (some ⟨g2, 0, none⟩)) (Q : Exit → Act → World → Prop) (hz : 2 < nn.size) (lu : UInt8) (hl : nn[2] = lu) (hm : IsByte (mV bs I Z)) {k : Nat} (hk : rgOf (lu.toNat : Int) = k) (HK : ∀ a w', a.defers = [] → HasQ w' s b v c d bs nm I B t (ldS (mS I Z) k (mV bs I Z)) → OnlyE (EQ s b v) w w' → Q .normal a w') : Code.wp Tryz.prog (bodyT (restT 0 ((Tryz.f23.body.bind (blockIn 0)).getD .skip))) Q ⟨((List.range 259).map g).toArray, []⟩ w := by
  have KR : Hid (∀ w, Calls Tryz.prog 44 #[.pointer (some ⟨s, 0, none⟩), .int .u8 (lu.toNat : Int)] w fun e w' => e = Ending.returned (.pointer (some ⟨s, k, none⟩)) ∧ w' = w) := hide (fun w => by rw [← hk]; exact register_is s _ w)
  have RL := rgOf_lt (lu.toNat : Int)
  rw [hk] at RL
  have KM : Hid (∀ x, QA w s b v c d bs nm I B t Z x → Calls Tryz.prog 45 #[.pointer (some ⟨s, 0, none⟩)] x fun e y => e = Ending.returned (.int .i64 (mV bs I Z)) ∧ QA w s b v c d bs nm I B t (mS I Z) y) := hide (fun x q => (m_is q.1).mono fun e y ⟨e1, q1, o1⟩ => ⟨e1, q1, q.2.trans o1⟩)
  have KL : Hid (∀ x, QA w s b v c d bs nm I B t (mS I Z) x → Calls Tryz.prog 43 #[.pointer (some ⟨s, 0, none⟩), .pointer (some ⟨s, k, none⟩), .int .i64 (mV bs I Z)] x fun e y => e = Ending.returned (.tuple #[]) ∧ QA w s b v c d bs nm I B t (ldS (mS I Z) k (mV bs I Z)) y) := hide (fun x q => (load_is q.1 k RL.1 RL.2.1 _ hm).mono fun e y ⟨e1, q1, o1⟩ => ⟨e1, q1, q.2.trans o1⟩)
  clear hk RL hm
  have HE := hide h
  have HB := hide hb
  replace HK := hide HK
  rw [frame_259 g, e1, e2]
  clear h hb e1 e2
  conv => arg 2; whnf
  refine wp_region_state (ofList [.pointer (some ⟨s, 0, none⟩), .pointer (some ⟨s, 0, none⟩), .string nn, .int .u8 (lu.toNat : Int), .pointer (some ⟨s, k, none⟩), .pointer (some ⟨s, 0, none⟩), .int .i64 (mV bs I Z), .tuple #[]]) (fun dd ww => (stgs [QA w s b v c d bs nm I B t Z, QA w s b v c d bs nm I B t (mS I Z), QA w s b v c d bs nm I B t (ldS (mS I Z) k (mV bs I Z))]) (cntD [6, 7] dd) ww) _ (fun vals => by simp only [putAll, Act.put, List.setIfInBounds_toArray, List.set_cons_succ, List.set_cons_zero, Nat.reduceAdd]; rfl) (by kernel_rfl) (by kernel_rfl) (by kernel_rfl) (fun dn hd => stage_none (A := (stgs [QA w s b v c d bs nm I B t Z, QA w s b v c d bs nm I B t (mS I Z), QA w s b v c d bs nm I B t (ldS (mS I Z) k (mV bs I Z))])) hd (QA.mk HE.out)) ?_ ?_
  · refine stepsS_cons (fun vals dn x hi hc hk hs => ?_) (stepsS_cons (fun vals dn x hi hc hk hs => ?_) (stepsS_cons (fun vals dn x hi hc hk hs => ?_) (stepsS_cons (fun vals dn x hi hc hk hs => ?_) (stepsS_cons (fun vals dn x hi hc hk hs => ?_) (stepsS_cons (fun vals dn x hi hc hk hs => ?_) (stepsS_cons (fun vals dn x hi hc hk hs => ?_) (stepsS_cons (fun vals dn x hi hc hk hs => ?_) stepsS_nil)))))))
    · have hs1 := hs
      have q := (HB.out.only (so3 hs1 (by first | decide | exact cntD_le _ _))).one
      go_wp2_with fail
      exact postS_mk _ rfl rfl (stage_keep (A := (stgs [QA w s b v c d bs nm I B t Z, QA w s b v c d bs nm I B t (mS I Z), QA w s b v c d bs nm I B t (ldS (mS I Z) k (mV bs I Z))])) (ps := [6, 7]) (i := 0) rfl hs)
    · have d6 := not_yet hc hi 6 60 (by kernel_rfl)
      have d7 := not_yet hc hi 7 60 (by kernel_rfl)
      have hn : cntD [6, 7] dn = 0 := by show (if dn 6 = true then 1 else 0) + ((if dn 7 = true then 1 else 0) + 0) = 0; rw [d6, d7]; rfl
      have hs1 := stage_at (A := (stgs [QA w s b v c d bs nm I B t Z, QA w s b v c d bs nm I B t (mS I Z), QA w s b v c d bs nm I B t (ldS (mS I Z) k (mV bs I Z))])) hn hs
      have q := (HB.out.only (so3 hs1 (by first | decide | exact cntD_le _ _))).one
      go_wp2_with fail
      exact postS_mk _ rfl rfl (stage_keep (A := (stgs [QA w s b v c d bs nm I B t Z, QA w s b v c d bs nm I B t (mS I Z), QA w s b v c d bs nm I B t (ldS (mS I Z) k (mV bs I Z))])) (ps := [6, 7]) (i := 1) rfl hs)
    · have d6 := not_yet hc hi 6 60 (by kernel_rfl)
      have d7 := not_yet hc hi 7 60 (by kernel_rfl)
      have hn : cntD [6, 7] dn = 0 := by show (if dn 6 = true then 1 else 0) + ((if dn 7 = true then 1 else 0) + 0) = 0; rw [d6, d7]; rfl
      have hs1 := stage_at (A := (stgs [QA w s b v c d bs nm I B t Z, QA w s b v c d bs nm I B t (mS I Z), QA w s b v c d bs nm I B t (ldS (mS I Z) k (mV bs I Z))])) hn hs
      have q := (HB.out.only (so3 hs1 (by first | decide | exact cntD_le _ _))).two
      go_wp2_with fail
      exact postS_mk _ rfl rfl (stage_keep (A := (stgs [QA w s b v c d bs nm I B t Z, QA w s b v c d bs nm I B t (mS I Z), QA w s b v c d bs nm I B t (ldS (mS I Z) k (mV bs I Z))])) (ps := [6, 7]) (i := 2) rfl hs)
    · obtain ⟨⟨(h2 : vals 2 = .string nn), t2⟩, _⟩ := hk
      simp only [h2]
      clear h2
      go_wp2_with fail
      exact postS_mk _ rfl rfl (stage_keep (A := (stgs [QA w s b v c d bs nm I B t Z, QA w s b v c d bs nm I B t (mS I Z), QA w s b v c d bs nm I B t (ldS (mS I Z) k (mV bs I Z))])) (ps := [6, 7]) (i := 3) rfl hs)
    · obtain ⟨⟨(h1 : vals 1 = .pointer (some ⟨s, 0, none⟩)), t1⟩, ⟨(h3 : vals 3 = .int .u8 (lu.toNat : Int)), t3⟩, _⟩ := hk
      simp only [h1, h3]
      clear h1 h3
      have d6 := not_yet hc hi 6 60 (by kernel_rfl)
      have d7 := not_yet hc hi 7 60 (by kernel_rfl)
      have hn : cntD [6, 7] dn = 0 := by show (if dn 6 = true then 1 else 0) + ((if dn 7 = true then 1 else 0) + 0) = 0; rw [d6, d7]; rfl
      have hs1 := stage_at (A := (stgs [QA w s b v c d bs nm I B t Z, QA w s b v c d bs nm I B t (mS I Z), QA w s b v c d bs nm I B t (ldS (mS I Z) k (mV bs I Z))])) hn hs
      have HS := hide hs
      clear hs hs1
      go_wp2_with fail
      refine (KR.out _).mono ?_
      rintro e x2 ⟨rfl, hw⟩
      subst x2
      go_wp2_with fail
      exact postS_mk _ rfl rfl (stage_keep (A := (stgs [QA w s b v c d bs nm I B t Z, QA w s b v c d bs nm I B t (mS I Z), QA w s b v c d bs nm I B t (ldS (mS I Z) k (mV bs I Z))])) (ps := [6, 7]) (i := 4) rfl HS.out)
    · have d6 := not_yet hc hi 6 60 (by kernel_rfl)
      have d7 := not_yet hc hi 7 60 (by kernel_rfl)
      have hn : cntD [6, 7] dn = 0 := by show (if dn 6 = true then 1 else 0) + ((if dn 7 = true then 1 else 0) + 0) = 0; rw [d6, d7]; rfl
      have hs1 := stage_at (A := (stgs [QA w s b v c d bs nm I B t Z, QA w s b v c d bs nm I B t (mS I Z), QA w s b v c d bs nm I B t (ldS (mS I Z) k (mV bs I Z))])) hn hs
      have q := (HB.out.only (so3 hs1 (by first | decide | exact cntD_le _ _))).one
      go_wp2_with fail
      exact postS_mk _ rfl rfl (stage_keep (A := (stgs [QA w s b v c d bs nm I B t Z, QA w s b v c d bs nm I B t (mS I Z), QA w s b v c d bs nm I B t (ldS (mS I Z) k (mV bs I Z))])) (ps := [6, 7]) (i := 5) rfl hs)
    · obtain ⟨⟨(h5 : vals 5 = .pointer (some ⟨s, 0, none⟩)), t5⟩, ⟨(h4 : vals 4 = .pointer (some ⟨s, k, none⟩)), t4⟩, _⟩ := hk
      simp only [h5]
      clear h5 h4
      have d6 := hi
      have d7 := not_yet hc hi 7 60 (by kernel_rfl)
      have hn : cntD [6, 7] dn = 0 := by show (if dn 6 = true then 1 else 0) + ((if dn 7 = true then 1 else 0) + 0) = 0; rw [d6, d7]; rfl
      have hs1 := stage_at (A := (stgs [QA w s b v c d bs nm I B t Z, QA w s b v c d bs nm I B t (mS I Z), QA w s b v c d bs nm I B t (ldS (mS I Z) k (mV bs I Z))])) hn hs
      have hn2 : cntD [6, 7] (updD dn 6) = 1 := by show (if updD dn 6 6 = true then 1 else 0) + ((if updD dn 6 7 = true then 1 else 0) + 0) = 1; rw [updD_same, updD_other dn (show ¬ 7 = 6 by decide), d7]; rfl
      have HN2 := hide hn2
      clear hn hn2 d7
      have HS := hide hs1
      clear hs hs1
      go_wp2_with fail
      refine (KM.out _ HS.out).mono ?_
      rintro e x2 ⟨rfl, h2⟩
      have H2 := hide h2
      clear h2 HS
      go_wp2_with fail
      exact postS_mk _ rfl rfl (stage_of (A := (stgs [QA w s b v c d bs nm I B t Z, QA w s b v c d bs nm I B t (mS I Z), QA w s b v c d bs nm I B t (ldS (mS I Z) k (mV bs I Z))])) HN2.out H2.out)
    · obtain ⟨⟨(h0 : vals 0 = .pointer (some ⟨s, 0, none⟩)), t0⟩, ⟨(h4 : vals 4 = .pointer (some ⟨s, k, none⟩)), t4⟩, ⟨(h6 : vals 6 = .int .i64 (mV bs I Z)), t6⟩, _, _⟩ := hk
      simp only [h0, h4, h6]
      clear h0 h4 h6
      have d6 := t6
      have d7 := hi
      have hn : cntD [6, 7] dn = 1 := by show (if dn 6 = true then 1 else 0) + ((if dn 7 = true then 1 else 0) + 0) = 1; rw [d6, d7]; rfl
      have hs1 := stage_at (A := (stgs [QA w s b v c d bs nm I B t Z, QA w s b v c d bs nm I B t (mS I Z), QA w s b v c d bs nm I B t (ldS (mS I Z) k (mV bs I Z))])) hn hs
      have hn2 : cntD [6, 7] (updD dn 7) = 2 := by show (if updD dn 7 6 = true then 1 else 0) + ((if updD dn 7 7 = true then 1 else 0) + 0) = 2; rw [updD_other dn (show ¬ 6 = 7 by decide), updD_same, d6]; rfl
      have HN2 := hide hn2
      clear hn hn2 d6
      have HS := hide hs1
      clear hs hs1
      go_wp2_with fail
      refine (KL.out _ HS.out).mono ?_
      rintro e x2 ⟨rfl, h2⟩
      have H2 := hide h2
      clear h2 HS
      go_wp2_with fail
      exact postS_mk _ rfl rfl (stage_of (A := (stgs [QA w s b v c d bs nm I B t Z, QA w s b v c d bs nm I B t (mS I Z), QA w s b v c d bs nm I B t (ldS (mS I Z) k (mV bs I Z))])) HN2.out H2.out)
  rintro vals dn x hall hs hv
  clear hv
  have hn : cntD [6, 7] dn = 2 := by show (if dn 6 = true then 1 else 0) + ((if dn 7 = true then 1 else 0) + 0) = 2; rw [hall 6 (by decide), hall 7 (by decide)]; rfl
  have hs := stage_at (A := (stgs [QA w s b v c d bs nm I B t Z, QA w s b v c d bs nm I B t (mS I Z), QA w s b v c d bs nm I B t (ldS (mS I Z) k (mV bs I Z))])) hn hs
  clear hn hall
  obtain ⟨h9, o9⟩ : QA w s b v c d bs nm I B t (ldS (mS I Z) k (mV bs I Z)) x := hs
  exact HK.out _ _ rfl h9 o9
def inS (op : Int) (k : Nat) (Z : Nat → Nat → Int) : Nat → Nat → Int := setR (rkS Z op 0 (Z 20 k)) k (rkV op 0 (Z 20 k) (Z 20 4))
theorem HasQ.vid {w : World} {s b v c d : Nat} {bs : List Int} {nm : ByteArray} {I B : Nat → Int} {t : Bool} {Z : Nat → Nat → Int} (h : HasQ w s b v c d bs nm I B t Z) (j : Nat) (x : Int) (hx : vidCells[j]? = some (.int .i64 x)) : w.cell? ⟨1, j, none⟩ = some (.int .i64 x) := by
  obtain ⟨t1, f1, e1⟩ := h.2.2.1.2.2.2
  exact (cell_of_row w _ j _ _ _ e1).trans hx
def stS (p : Int) (I : Nat → Int) (Z : Nat → Nat → Int) : Nat → Nat → Int := wrZ Z p (I 3 % 256)
set_option maxHeartbeats 2000000 in
theorem body_19_0 {w : World} {s b v c d : Nat} {bs : List Int} {nm : ByteArray} {I B : Nat → Int} {t : Bool} {Z : Nat → Nat → Int} (h : HasQ w s b v c d bs nm I B t Z) {g1 g2 : Nat} {nn : ByteArray} (hb : Boxes s b v g1 g2 nn w) (g : Nat → Value) (e1 : g 1 = .pointer (some ⟨g1, 0, none⟩)) (e2 : g 2 = .pointer (some ⟨g2, 0, none⟩)) (Q : Exit → Act → World → Prop) (hz : 2 < nn.size) (hl : nn[2] = (48 : UInt8)) (HK : ∀ a w', a.defers = [] → HasQ w' s b v c d bs nm I B t (stS 2088960 I Z) → OnlyE (EQ s b v) w w' → Q .normal a w') : Code.wp Tryz.prog (bodyT (restT 19 ((Tryz.f23.body.bind (blockIn 0)).getD .skip))) Q ⟨((List.range 259).map g).toArray, []⟩ w := by
  have KW : Hid (∀ x, QA w s b v c d bs nm I B t Z x → Calls Tryz.prog 62 #[.pointer (some ⟨b, 0, none⟩), .int .i64 2088960, .int .i64 (I 3)] x fun e y => e = Ending.returned (.tuple #[]) ∧ QA w s b v c d bs nm I B t (stS 2088960 I Z) y) := hide (fun x q => by
    have k := sim_wr q.1.good b v c d bs q.1.2.2.2.2.2.2 2088960 (I 3) (Z' := stS 2088960 I Z) rfl
    exact (k.2.2 x q.1.2.1).mono fun e y' ⟨e1, p1, o1⟩ => ⟨e1, q.1.bus p1 o1 k.1 (wrZ_keep (by decide) _ _ _) (wrZ_keep (by decide) _ _ _) (wrZ_keep (by decide) _ _ _) (wrZ_keep (by decide) _ _ _), q.2.trans (eq_ex o1)⟩)
  have HE := hide h
  have HB := hide hb
  replace HK := hide HK
  rw [frame_259 g, e1, e2]
  clear h hb e1 e2
  conv => arg 2; whnf
  refine wp_region_state (ofList [.pointer (some ⟨s, 0, none⟩), .pointer (some ⟨s, 0, none⟩), .pointer (some ⟨s, 8, none⟩), .pointer (some ⟨b, 0, none⟩), .string nn, .int .u8 48, .int .u8 0, .pointer (some ⟨1, 0, none⟩), .int .i64 2088960, .pointer (some ⟨s, 0, none⟩), .pointer (some ⟨s, 0, none⟩), .pointer (some ⟨s, 20, none⟩), .int .i64 (I 3), .tuple #[]]) (fun dd ww => (stgs [QA w s b v c d bs nm I B t Z, QA w s b v c d bs nm I B t (stS 2088960 I Z)]) (cntD [13] dd) ww) _ (fun vals => by simp only [putAll, Act.put, List.setIfInBounds_toArray, List.set_cons_succ, List.set_cons_zero, Nat.reduceAdd]; rfl) (by kernel_rfl) (by kernel_rfl) (by kernel_rfl) (fun dn hd => stage_none (A := (stgs [QA w s b v c d bs nm I B t Z, QA w s b v c d bs nm I B t (stS 2088960 I Z)])) hd (QA.mk HE.out)) ?_ ?_
  · refine stepsS_cons (fun vals dn x hi hc hk hs => ?_) (stepsS_cons (fun vals dn x hi hc hk hs => ?_) (stepsS_cons (fun vals dn x hi hc hk hs => ?_) (stepsS_cons (fun vals dn x hi hc hk hs => ?_) (stepsS_cons (fun vals dn x hi hc hk hs => ?_) (stepsS_cons (fun vals dn x hi hc hk hs => ?_) (stepsS_cons (fun vals dn x hi hc hk hs => ?_) (stepsS_cons (fun vals dn x hi hc hk hs => ?_) (stepsS_cons (fun vals dn x hi hc hk hs => ?_) (stepsS_cons (fun vals dn x hi hc hk hs => ?_) (stepsS_cons (fun vals dn x hi hc hk hs => ?_) (stepsS_cons (fun vals dn x hi hc hk hs => ?_) (stepsS_cons (fun vals dn x hi hc hk hs => ?_) (stepsS_cons (fun vals dn x hi hc hk hs => ?_) stepsS_nil)))))))))))))
    · have d13 := not_yet hc hi 13 60 (by kernel_rfl)
      have hn : cntD [13] dn = 0 := by show (if dn 13 = true then 1 else 0) + 0 = 0; rw [d13]; rfl
      have hs1 := stage_at (A := (stgs [QA w s b v c d bs nm I B t Z, QA w s b v c d bs nm I B t (stS 2088960 I Z)])) hn hs
      have q := (HB.out.only (so2 hs1 (by first | decide | exact cntD_le _ _))).one
      go_wp2_with fail
      exact postS_mk _ rfl rfl (stage_keep (A := (stgs [QA w s b v c d bs nm I B t Z, QA w s b v c d bs nm I B t (stS 2088960 I Z)])) (ps := [13]) (i := 0) rfl hs)
    · obtain ⟨⟨(h0 : vals 0 = .pointer (some ⟨s, 0, none⟩)), t0⟩, _⟩ := hk
      simp only [h0]
      clear h0
      go_wp2_with fail
      exact postS_mk _ rfl rfl (stage_keep (A := (stgs [QA w s b v c d bs nm I B t Z, QA w s b v c d bs nm I B t (stS 2088960 I Z)])) (ps := [13]) (i := 1) rfl hs)
    · obtain ⟨⟨(h1 : vals 1 = .pointer (some ⟨s, 0, none⟩)), t1⟩, _⟩ := hk
      simp only [h1]
      clear h1
      go_wp2_with fail
      exact postS_mk _ rfl rfl (stage_keep (A := (stgs [QA w s b v c d bs nm I B t Z, QA w s b v c d bs nm I B t (stS 2088960 I Z)])) (ps := [13]) (i := 2) rfl hs)
    · obtain ⟨⟨(h2 : vals 2 = .pointer (some ⟨s, 8, none⟩)), t2⟩, _⟩ := hk
      simp only [h2]
      clear h2
      have d13 := not_yet hc hi 13 60 (by kernel_rfl)
      have hn : cntD [13] dn = 0 := by show (if dn 13 = true then 1 else 0) + 0 = 0; rw [d13]; rfl
      have hs1 := stage_at (A := (stgs [QA w s b v c d bs nm I B t Z, QA w s b v c d bs nm I B t (stS 2088960 I Z)])) hn hs
      have q := (show QA w s b v c d bs nm I B t Z x from hs1).1.buss
      go_wp2_with fail
      exact postS_mk _ rfl rfl (stage_keep (A := (stgs [QA w s b v c d bs nm I B t Z, QA w s b v c d bs nm I B t (stS 2088960 I Z)])) (ps := [13]) (i := 3) rfl hs)
    · have d13 := not_yet hc hi 13 60 (by kernel_rfl)
      have hn : cntD [13] dn = 0 := by show (if dn 13 = true then 1 else 0) + 0 = 0; rw [d13]; rfl
      have hs1 := stage_at (A := (stgs [QA w s b v c d bs nm I B t Z, QA w s b v c d bs nm I B t (stS 2088960 I Z)])) hn hs
      have q := (HB.out.only (so2 hs1 (by first | decide | exact cntD_le _ _))).two
      go_wp2_with fail
      exact postS_mk _ rfl rfl (stage_keep (A := (stgs [QA w s b v c d bs nm I B t Z, QA w s b v c d bs nm I B t (stS 2088960 I Z)])) (ps := [13]) (i := 4) rfl hs)
    · obtain ⟨⟨(h4 : vals 4 = .string nn), t4⟩, _⟩ := hk
      simp only [h4]
      clear h4
      go_wp2_with fail
      exact postS_mk _ rfl rfl (stage_keep (A := (stgs [QA w s b v c d bs nm I B t Z, QA w s b v c d bs nm I B t (stS 2088960 I Z)])) (ps := [13]) (i := 5) rfl hs)
    · obtain ⟨⟨(h5 : vals 5 = .int .u8 48), t5⟩, _⟩ := hk
      simp only [h5]
      clear h5
      go_wp2_with fail
      exact postS_mk _ rfl rfl (stage_keep (A := (stgs [QA w s b v c d bs nm I B t Z, QA w s b v c d bs nm I B t (stS 2088960 I Z)])) (ps := [13]) (i := 6) rfl hs)
    · obtain ⟨⟨(h6 : vals 6 = .int .u8 0), t6⟩, _⟩ := hk
      simp only [h6]
      clear h6
      go_wp2_with fail
      exact postS_mk _ rfl rfl (stage_keep (A := (stgs [QA w s b v c d bs nm I B t Z, QA w s b v c d bs nm I B t (stS 2088960 I Z)])) (ps := [13]) (i := 7) rfl hs)
    · obtain ⟨⟨(h7 : vals 7 = .pointer (some ⟨1, 0, none⟩)), t7⟩, _⟩ := hk
      simp only [h7]
      clear h7
      have d13 := not_yet hc hi 13 60 (by kernel_rfl)
      have hn : cntD [13] dn = 0 := by show (if dn 13 = true then 1 else 0) + 0 = 0; rw [d13]; rfl
      have hs1 := stage_at (A := (stgs [QA w s b v c d bs nm I B t Z, QA w s b v c d bs nm I B t (stS 2088960 I Z)])) hn hs
      have q := (show QA w s b v c d bs nm I B t Z x from hs1).1.vid 0 2088960 rfl
      go_wp2_with fail
      exact postS_mk _ rfl rfl (stage_keep (A := (stgs [QA w s b v c d bs nm I B t Z, QA w s b v c d bs nm I B t (stS 2088960 I Z)])) (ps := [13]) (i := 8) rfl hs)
    · have d13 := not_yet hc hi 13 60 (by kernel_rfl)
      have hn : cntD [13] dn = 0 := by show (if dn 13 = true then 1 else 0) + 0 = 0; rw [d13]; rfl
      have hs1 := stage_at (A := (stgs [QA w s b v c d bs nm I B t Z, QA w s b v c d bs nm I B t (stS 2088960 I Z)])) hn hs
      have q := (HB.out.only (so2 hs1 (by first | decide | exact cntD_le _ _))).one
      go_wp2_with fail
      exact postS_mk _ rfl rfl (stage_keep (A := (stgs [QA w s b v c d bs nm I B t Z, QA w s b v c d bs nm I B t (stS 2088960 I Z)])) (ps := [13]) (i := 9) rfl hs)
    · obtain ⟨⟨(h9 : vals 9 = .pointer (some ⟨s, 0, none⟩)), t9⟩, _⟩ := hk
      simp only [h9]
      clear h9
      go_wp2_with fail
      exact postS_mk _ rfl rfl (stage_keep (A := (stgs [QA w s b v c d bs nm I B t Z, QA w s b v c d bs nm I B t (stS 2088960 I Z)])) (ps := [13]) (i := 10) rfl hs)
    · obtain ⟨⟨(h10 : vals 10 = .pointer (some ⟨s, 0, none⟩)), t10⟩, _⟩ := hk
      simp only [h10]
      clear h10
      go_wp2_with fail
      exact postS_mk _ rfl rfl (stage_keep (A := (stgs [QA w s b v c d bs nm I B t Z, QA w s b v c d bs nm I B t (stS 2088960 I Z)])) (ps := [13]) (i := 11) rfl hs)
    · obtain ⟨⟨(h11 : vals 11 = .pointer (some ⟨s, 20, none⟩)), t11⟩, _⟩ := hk
      simp only [h11]
      clear h11
      have d13 := not_yet hc hi 13 60 (by kernel_rfl)
      have hn : cntD [13] dn = 0 := by show (if dn 13 = true then 1 else 0) + 0 = 0; rw [d13]; rfl
      have hs1 := stage_at (A := (stgs [QA w s b v c d bs nm I B t Z, QA w s b v c d bs nm I B t (stS 2088960 I Z)])) hn hs
      have q := (show QA w s b v c d bs nm I B t Z x from hs1).1.oper
      go_wp2_with fail
      exact postS_mk _ rfl rfl (stage_keep (A := (stgs [QA w s b v c d bs nm I B t Z, QA w s b v c d bs nm I B t (stS 2088960 I Z)])) (ps := [13]) (i := 12) rfl hs)
    · obtain ⟨⟨(h3 : vals 3 = .pointer (some ⟨b, 0, none⟩)), t3⟩, ⟨(h8 : vals 8 = .int .i64 2088960), t8⟩, ⟨(h12 : vals 12 = .int .i64 (I 3)), t12⟩, _⟩ := hk
      simp only [h3, h8, h12]
      clear h3 h8 h12
      have d13 := hi
      have hn : cntD [13] dn = 0 := by show (if dn 13 = true then 1 else 0) + 0 = 0; rw [d13]; rfl
      have hs1 := stage_at (A := (stgs [QA w s b v c d bs nm I B t Z, QA w s b v c d bs nm I B t (stS 2088960 I Z)])) hn hs
      have hn2 : cntD [13] (updD dn 13) = 1 := by show (if updD dn 13 13 = true then 1 else 0) + 0 = 1; rw [updD_same]; rfl
      have HN2 := hide hn2
      clear hn hn2 
      have HS := hide hs1
      clear hs hs1
      go_wp2_with fail
      refine (KW.out _ HS.out).mono ?_
      rintro e x2 ⟨rfl, h2⟩
      have H2 := hide h2
      clear h2 HS
      go_wp2_with fail
      exact postS_mk _ rfl rfl (stage_of (A := (stgs [QA w s b v c d bs nm I B t Z, QA w s b v c d bs nm I B t (stS 2088960 I Z)])) HN2.out H2.out)
  rintro vals dn x hall hs hv
  clear hv
  have hn : cntD [13] dn = 1 := by show (if dn 13 = true then 1 else 0) + 0 = 1; rw [hall 13 (by decide)]; rfl
  have hs := stage_at (A := (stgs [QA w s b v c d bs nm I B t Z, QA w s b v c d bs nm I B t (stS 2088960 I Z)])) hn hs
  clear hn hall
  obtain ⟨h9, o9⟩ : QA w s b v c d bs nm I B t (stS 2088960 I Z) x := hs
  exact HK.out _ _ rfl h9 o9
set_option maxHeartbeats 2000000 in
theorem body_19_1 {w : World} {s b v c d : Nat} {bs : List Int} {nm : ByteArray} {I B : Nat → Int} {t : Bool} {Z : Nat → Nat → Int} (h : HasQ w s b v c d bs nm I B t Z) {g1 g2 : Nat} {nn : ByteArray} (hb : Boxes s b v g1 g2 nn w) (g : Nat → Value) (e1 : g 1 = .pointer (some ⟨g1, 0, none⟩)) (e2 : g 2 = .pointer (some ⟨g2, 0, none⟩)) (Q : Exit → Act → World → Prop) (hz : 2 < nn.size) (hl : nn[2] = (49 : UInt8)) (HK : ∀ a w', a.defers = [] → HasQ w' s b v c d bs nm I B t (stS 2088962 I Z) → OnlyE (EQ s b v) w w' → Q .normal a w') : Code.wp Tryz.prog (bodyT (restT 19 ((Tryz.f23.body.bind (blockIn 0)).getD .skip))) Q ⟨((List.range 259).map g).toArray, []⟩ w := by
  have KW : Hid (∀ x, QA w s b v c d bs nm I B t Z x → Calls Tryz.prog 62 #[.pointer (some ⟨b, 0, none⟩), .int .i64 2088962, .int .i64 (I 3)] x fun e y => e = Ending.returned (.tuple #[]) ∧ QA w s b v c d bs nm I B t (stS 2088962 I Z) y) := hide (fun x q => by
    have k := sim_wr q.1.good b v c d bs q.1.2.2.2.2.2.2 2088962 (I 3) (Z' := stS 2088962 I Z) rfl
    exact (k.2.2 x q.1.2.1).mono fun e y' ⟨e1, p1, o1⟩ => ⟨e1, q.1.bus p1 o1 k.1 (wrZ_keep (by decide) _ _ _) (wrZ_keep (by decide) _ _ _) (wrZ_keep (by decide) _ _ _) (wrZ_keep (by decide) _ _ _), q.2.trans (eq_ex o1)⟩)
  have HE := hide h
  have HB := hide hb
  replace HK := hide HK
  rw [frame_259 g, e1, e2]
  clear h hb e1 e2
  conv => arg 2; whnf
  refine wp_region_state (ofList [.pointer (some ⟨s, 0, none⟩), .pointer (some ⟨s, 0, none⟩), .pointer (some ⟨s, 8, none⟩), .pointer (some ⟨b, 0, none⟩), .string nn, .int .u8 49, .int .u8 1, .pointer (some ⟨1, 1, none⟩), .int .i64 2088962, .pointer (some ⟨s, 0, none⟩), .pointer (some ⟨s, 0, none⟩), .pointer (some ⟨s, 20, none⟩), .int .i64 (I 3), .tuple #[]]) (fun dd ww => (stgs [QA w s b v c d bs nm I B t Z, QA w s b v c d bs nm I B t (stS 2088962 I Z)]) (cntD [13] dd) ww) _ (fun vals => by simp only [putAll, Act.put, List.setIfInBounds_toArray, List.set_cons_succ, List.set_cons_zero, Nat.reduceAdd]; rfl) (by kernel_rfl) (by kernel_rfl) (by kernel_rfl) (fun dn hd => stage_none (A := (stgs [QA w s b v c d bs nm I B t Z, QA w s b v c d bs nm I B t (stS 2088962 I Z)])) hd (QA.mk HE.out)) ?_ ?_
  · refine stepsS_cons (fun vals dn x hi hc hk hs => ?_) (stepsS_cons (fun vals dn x hi hc hk hs => ?_) (stepsS_cons (fun vals dn x hi hc hk hs => ?_) (stepsS_cons (fun vals dn x hi hc hk hs => ?_) (stepsS_cons (fun vals dn x hi hc hk hs => ?_) (stepsS_cons (fun vals dn x hi hc hk hs => ?_) (stepsS_cons (fun vals dn x hi hc hk hs => ?_) (stepsS_cons (fun vals dn x hi hc hk hs => ?_) (stepsS_cons (fun vals dn x hi hc hk hs => ?_) (stepsS_cons (fun vals dn x hi hc hk hs => ?_) (stepsS_cons (fun vals dn x hi hc hk hs => ?_) (stepsS_cons (fun vals dn x hi hc hk hs => ?_) (stepsS_cons (fun vals dn x hi hc hk hs => ?_) (stepsS_cons (fun vals dn x hi hc hk hs => ?_) stepsS_nil)))))))))))))
    · have d13 := not_yet hc hi 13 60 (by kernel_rfl)
      have hn : cntD [13] dn = 0 := by show (if dn 13 = true then 1 else 0) + 0 = 0; rw [d13]; rfl
      have hs1 := stage_at (A := (stgs [QA w s b v c d bs nm I B t Z, QA w s b v c d bs nm I B t (stS 2088962 I Z)])) hn hs
      have q := (HB.out.only (so2 hs1 (by first | decide | exact cntD_le _ _))).one
      go_wp2_with fail
      exact postS_mk _ rfl rfl (stage_keep (A := (stgs [QA w s b v c d bs nm I B t Z, QA w s b v c d bs nm I B t (stS 2088962 I Z)])) (ps := [13]) (i := 0) rfl hs)
    · obtain ⟨⟨(h0 : vals 0 = .pointer (some ⟨s, 0, none⟩)), t0⟩, _⟩ := hk
      simp only [h0]
      clear h0
      go_wp2_with fail
      exact postS_mk _ rfl rfl (stage_keep (A := (stgs [QA w s b v c d bs nm I B t Z, QA w s b v c d bs nm I B t (stS 2088962 I Z)])) (ps := [13]) (i := 1) rfl hs)
    · obtain ⟨⟨(h1 : vals 1 = .pointer (some ⟨s, 0, none⟩)), t1⟩, _⟩ := hk
      simp only [h1]
      clear h1
      go_wp2_with fail
      exact postS_mk _ rfl rfl (stage_keep (A := (stgs [QA w s b v c d bs nm I B t Z, QA w s b v c d bs nm I B t (stS 2088962 I Z)])) (ps := [13]) (i := 2) rfl hs)
    · obtain ⟨⟨(h2 : vals 2 = .pointer (some ⟨s, 8, none⟩)), t2⟩, _⟩ := hk
      simp only [h2]
      clear h2
      have d13 := not_yet hc hi 13 60 (by kernel_rfl)
      have hn : cntD [13] dn = 0 := by show (if dn 13 = true then 1 else 0) + 0 = 0; rw [d13]; rfl
      have hs1 := stage_at (A := (stgs [QA w s b v c d bs nm I B t Z, QA w s b v c d bs nm I B t (stS 2088962 I Z)])) hn hs
      have q := (show QA w s b v c d bs nm I B t Z x from hs1).1.buss
      go_wp2_with fail
      exact postS_mk _ rfl rfl (stage_keep (A := (stgs [QA w s b v c d bs nm I B t Z, QA w s b v c d bs nm I B t (stS 2088962 I Z)])) (ps := [13]) (i := 3) rfl hs)
    · have d13 := not_yet hc hi 13 60 (by kernel_rfl)
      have hn : cntD [13] dn = 0 := by show (if dn 13 = true then 1 else 0) + 0 = 0; rw [d13]; rfl
      have hs1 := stage_at (A := (stgs [QA w s b v c d bs nm I B t Z, QA w s b v c d bs nm I B t (stS 2088962 I Z)])) hn hs
      have q := (HB.out.only (so2 hs1 (by first | decide | exact cntD_le _ _))).two
      go_wp2_with fail
      exact postS_mk _ rfl rfl (stage_keep (A := (stgs [QA w s b v c d bs nm I B t Z, QA w s b v c d bs nm I B t (stS 2088962 I Z)])) (ps := [13]) (i := 4) rfl hs)
    · obtain ⟨⟨(h4 : vals 4 = .string nn), t4⟩, _⟩ := hk
      simp only [h4]
      clear h4
      go_wp2_with fail
      exact postS_mk _ rfl rfl (stage_keep (A := (stgs [QA w s b v c d bs nm I B t Z, QA w s b v c d bs nm I B t (stS 2088962 I Z)])) (ps := [13]) (i := 5) rfl hs)
    · obtain ⟨⟨(h5 : vals 5 = .int .u8 49), t5⟩, _⟩ := hk
      simp only [h5]
      clear h5
      go_wp2_with fail
      exact postS_mk _ rfl rfl (stage_keep (A := (stgs [QA w s b v c d bs nm I B t Z, QA w s b v c d bs nm I B t (stS 2088962 I Z)])) (ps := [13]) (i := 6) rfl hs)
    · obtain ⟨⟨(h6 : vals 6 = .int .u8 1), t6⟩, _⟩ := hk
      simp only [h6]
      clear h6
      go_wp2_with fail
      exact postS_mk _ rfl rfl (stage_keep (A := (stgs [QA w s b v c d bs nm I B t Z, QA w s b v c d bs nm I B t (stS 2088962 I Z)])) (ps := [13]) (i := 7) rfl hs)
    · obtain ⟨⟨(h7 : vals 7 = .pointer (some ⟨1, 1, none⟩)), t7⟩, _⟩ := hk
      simp only [h7]
      clear h7
      have d13 := not_yet hc hi 13 60 (by kernel_rfl)
      have hn : cntD [13] dn = 0 := by show (if dn 13 = true then 1 else 0) + 0 = 0; rw [d13]; rfl
      have hs1 := stage_at (A := (stgs [QA w s b v c d bs nm I B t Z, QA w s b v c d bs nm I B t (stS 2088962 I Z)])) hn hs
      have q := (show QA w s b v c d bs nm I B t Z x from hs1).1.vid 1 2088962 rfl
      go_wp2_with fail
      exact postS_mk _ rfl rfl (stage_keep (A := (stgs [QA w s b v c d bs nm I B t Z, QA w s b v c d bs nm I B t (stS 2088962 I Z)])) (ps := [13]) (i := 8) rfl hs)
    · have d13 := not_yet hc hi 13 60 (by kernel_rfl)
      have hn : cntD [13] dn = 0 := by show (if dn 13 = true then 1 else 0) + 0 = 0; rw [d13]; rfl
      have hs1 := stage_at (A := (stgs [QA w s b v c d bs nm I B t Z, QA w s b v c d bs nm I B t (stS 2088962 I Z)])) hn hs
      have q := (HB.out.only (so2 hs1 (by first | decide | exact cntD_le _ _))).one
      go_wp2_with fail
      exact postS_mk _ rfl rfl (stage_keep (A := (stgs [QA w s b v c d bs nm I B t Z, QA w s b v c d bs nm I B t (stS 2088962 I Z)])) (ps := [13]) (i := 9) rfl hs)
    · obtain ⟨⟨(h9 : vals 9 = .pointer (some ⟨s, 0, none⟩)), t9⟩, _⟩ := hk
      simp only [h9]
      clear h9
      go_wp2_with fail
      exact postS_mk _ rfl rfl (stage_keep (A := (stgs [QA w s b v c d bs nm I B t Z, QA w s b v c d bs nm I B t (stS 2088962 I Z)])) (ps := [13]) (i := 10) rfl hs)
    · obtain ⟨⟨(h10 : vals 10 = .pointer (some ⟨s, 0, none⟩)), t10⟩, _⟩ := hk
      simp only [h10]
      clear h10
      go_wp2_with fail
      exact postS_mk _ rfl rfl (stage_keep (A := (stgs [QA w s b v c d bs nm I B t Z, QA w s b v c d bs nm I B t (stS 2088962 I Z)])) (ps := [13]) (i := 11) rfl hs)
    · obtain ⟨⟨(h11 : vals 11 = .pointer (some ⟨s, 20, none⟩)), t11⟩, _⟩ := hk
      simp only [h11]
      clear h11
      have d13 := not_yet hc hi 13 60 (by kernel_rfl)
      have hn : cntD [13] dn = 0 := by show (if dn 13 = true then 1 else 0) + 0 = 0; rw [d13]; rfl
      have hs1 := stage_at (A := (stgs [QA w s b v c d bs nm I B t Z, QA w s b v c d bs nm I B t (stS 2088962 I Z)])) hn hs
      have q := (show QA w s b v c d bs nm I B t Z x from hs1).1.oper
      go_wp2_with fail
      exact postS_mk _ rfl rfl (stage_keep (A := (stgs [QA w s b v c d bs nm I B t Z, QA w s b v c d bs nm I B t (stS 2088962 I Z)])) (ps := [13]) (i := 12) rfl hs)
    · obtain ⟨⟨(h3 : vals 3 = .pointer (some ⟨b, 0, none⟩)), t3⟩, ⟨(h8 : vals 8 = .int .i64 2088962), t8⟩, ⟨(h12 : vals 12 = .int .i64 (I 3)), t12⟩, _⟩ := hk
      simp only [h3, h8, h12]
      clear h3 h8 h12
      have d13 := hi
      have hn : cntD [13] dn = 0 := by show (if dn 13 = true then 1 else 0) + 0 = 0; rw [d13]; rfl
      have hs1 := stage_at (A := (stgs [QA w s b v c d bs nm I B t Z, QA w s b v c d bs nm I B t (stS 2088962 I Z)])) hn hs
      have hn2 : cntD [13] (updD dn 13) = 1 := by show (if updD dn 13 13 = true then 1 else 0) + 0 = 1; rw [updD_same]; rfl
      have HN2 := hide hn2
      clear hn hn2 
      have HS := hide hs1
      clear hs hs1
      go_wp2_with fail
      refine (KW.out _ HS.out).mono ?_
      rintro e x2 ⟨rfl, h2⟩
      have H2 := hide h2
      clear h2 HS
      go_wp2_with fail
      exact postS_mk _ rfl rfl (stage_of (A := (stgs [QA w s b v c d bs nm I B t Z, QA w s b v c d bs nm I B t (stS 2088962 I Z)])) HN2.out H2.out)
  rintro vals dn x hall hs hv
  clear hv
  have hn : cntD [13] dn = 1 := by show (if dn 13 = true then 1 else 0) + 0 = 1; rw [hall 13 (by decide)]; rfl
  have hs := stage_at (A := (stgs [QA w s b v c d bs nm I B t Z, QA w s b v c d bs nm I B t (stS 2088962 I Z)])) hn hs
  clear hn hall
  obtain ⟨h9, o9⟩ : QA w s b v c d bs nm I B t (stS 2088962 I Z) x := hs
  exact HK.out _ _ rfl h9 o9
set_option maxHeartbeats 2000000 in
theorem body_19_2 {w : World} {s b v c d : Nat} {bs : List Int} {nm : ByteArray} {I B : Nat → Int} {t : Bool} {Z : Nat → Nat → Int} (h : HasQ w s b v c d bs nm I B t Z) {g1 g2 : Nat} {nn : ByteArray} (hb : Boxes s b v g1 g2 nn w) (g : Nat → Value) (e1 : g 1 = .pointer (some ⟨g1, 0, none⟩)) (e2 : g 2 = .pointer (some ⟨g2, 0, none⟩)) (Q : Exit → Act → World → Prop) (hz : 2 < nn.size) (hl : nn[2] = (50 : UInt8)) (HK : ∀ a w', a.defers = [] → HasQ w' s b v c d bs nm I B t (stS 2088963 I Z) → OnlyE (EQ s b v) w w' → Q .normal a w') : Code.wp Tryz.prog (bodyT (restT 19 ((Tryz.f23.body.bind (blockIn 0)).getD .skip))) Q ⟨((List.range 259).map g).toArray, []⟩ w := by
  have KW : Hid (∀ x, QA w s b v c d bs nm I B t Z x → Calls Tryz.prog 62 #[.pointer (some ⟨b, 0, none⟩), .int .i64 2088963, .int .i64 (I 3)] x fun e y => e = Ending.returned (.tuple #[]) ∧ QA w s b v c d bs nm I B t (stS 2088963 I Z) y) := hide (fun x q => by
    have k := sim_wr q.1.good b v c d bs q.1.2.2.2.2.2.2 2088963 (I 3) (Z' := stS 2088963 I Z) rfl
    exact (k.2.2 x q.1.2.1).mono fun e y' ⟨e1, p1, o1⟩ => ⟨e1, q.1.bus p1 o1 k.1 (wrZ_keep (by decide) _ _ _) (wrZ_keep (by decide) _ _ _) (wrZ_keep (by decide) _ _ _) (wrZ_keep (by decide) _ _ _), q.2.trans (eq_ex o1)⟩)
  have HE := hide h
  have HB := hide hb
  replace HK := hide HK
  rw [frame_259 g, e1, e2]
  clear h hb e1 e2
  conv => arg 2; whnf
  refine wp_region_state (ofList [.pointer (some ⟨s, 0, none⟩), .pointer (some ⟨s, 0, none⟩), .pointer (some ⟨s, 8, none⟩), .pointer (some ⟨b, 0, none⟩), .string nn, .int .u8 50, .int .u8 2, .pointer (some ⟨1, 2, none⟩), .int .i64 2088963, .pointer (some ⟨s, 0, none⟩), .pointer (some ⟨s, 0, none⟩), .pointer (some ⟨s, 20, none⟩), .int .i64 (I 3), .tuple #[]]) (fun dd ww => (stgs [QA w s b v c d bs nm I B t Z, QA w s b v c d bs nm I B t (stS 2088963 I Z)]) (cntD [13] dd) ww) _ (fun vals => by simp only [putAll, Act.put, List.setIfInBounds_toArray, List.set_cons_succ, List.set_cons_zero, Nat.reduceAdd]; rfl) (by kernel_rfl) (by kernel_rfl) (by kernel_rfl) (fun dn hd => stage_none (A := (stgs [QA w s b v c d bs nm I B t Z, QA w s b v c d bs nm I B t (stS 2088963 I Z)])) hd (QA.mk HE.out)) ?_ ?_
  · refine stepsS_cons (fun vals dn x hi hc hk hs => ?_) (stepsS_cons (fun vals dn x hi hc hk hs => ?_) (stepsS_cons (fun vals dn x hi hc hk hs => ?_) (stepsS_cons (fun vals dn x hi hc hk hs => ?_) (stepsS_cons (fun vals dn x hi hc hk hs => ?_) (stepsS_cons (fun vals dn x hi hc hk hs => ?_) (stepsS_cons (fun vals dn x hi hc hk hs => ?_) (stepsS_cons (fun vals dn x hi hc hk hs => ?_) (stepsS_cons (fun vals dn x hi hc hk hs => ?_) (stepsS_cons (fun vals dn x hi hc hk hs => ?_) (stepsS_cons (fun vals dn x hi hc hk hs => ?_) (stepsS_cons (fun vals dn x hi hc hk hs => ?_) (stepsS_cons (fun vals dn x hi hc hk hs => ?_) (stepsS_cons (fun vals dn x hi hc hk hs => ?_) stepsS_nil)))))))))))))
    · have d13 := not_yet hc hi 13 60 (by kernel_rfl)
      have hn : cntD [13] dn = 0 := by show (if dn 13 = true then 1 else 0) + 0 = 0; rw [d13]; rfl
      have hs1 := stage_at (A := (stgs [QA w s b v c d bs nm I B t Z, QA w s b v c d bs nm I B t (stS 2088963 I Z)])) hn hs
      have q := (HB.out.only (so2 hs1 (by first | decide | exact cntD_le _ _))).one
      go_wp2_with fail
      exact postS_mk _ rfl rfl (stage_keep (A := (stgs [QA w s b v c d bs nm I B t Z, QA w s b v c d bs nm I B t (stS 2088963 I Z)])) (ps := [13]) (i := 0) rfl hs)
    · obtain ⟨⟨(h0 : vals 0 = .pointer (some ⟨s, 0, none⟩)), t0⟩, _⟩ := hk
      simp only [h0]
      clear h0
      go_wp2_with fail
      exact postS_mk _ rfl rfl (stage_keep (A := (stgs [QA w s b v c d bs nm I B t Z, QA w s b v c d bs nm I B t (stS 2088963 I Z)])) (ps := [13]) (i := 1) rfl hs)
    · obtain ⟨⟨(h1 : vals 1 = .pointer (some ⟨s, 0, none⟩)), t1⟩, _⟩ := hk
      simp only [h1]
      clear h1
      go_wp2_with fail
      exact postS_mk _ rfl rfl (stage_keep (A := (stgs [QA w s b v c d bs nm I B t Z, QA w s b v c d bs nm I B t (stS 2088963 I Z)])) (ps := [13]) (i := 2) rfl hs)
    · obtain ⟨⟨(h2 : vals 2 = .pointer (some ⟨s, 8, none⟩)), t2⟩, _⟩ := hk
      simp only [h2]
      clear h2
      have d13 := not_yet hc hi 13 60 (by kernel_rfl)
      have hn : cntD [13] dn = 0 := by show (if dn 13 = true then 1 else 0) + 0 = 0; rw [d13]; rfl
      have hs1 := stage_at (A := (stgs [QA w s b v c d bs nm I B t Z, QA w s b v c d bs nm I B t (stS 2088963 I Z)])) hn hs
      have q := (show QA w s b v c d bs nm I B t Z x from hs1).1.buss
      go_wp2_with fail
      exact postS_mk _ rfl rfl (stage_keep (A := (stgs [QA w s b v c d bs nm I B t Z, QA w s b v c d bs nm I B t (stS 2088963 I Z)])) (ps := [13]) (i := 3) rfl hs)
    · have d13 := not_yet hc hi 13 60 (by kernel_rfl)
      have hn : cntD [13] dn = 0 := by show (if dn 13 = true then 1 else 0) + 0 = 0; rw [d13]; rfl
      have hs1 := stage_at (A := (stgs [QA w s b v c d bs nm I B t Z, QA w s b v c d bs nm I B t (stS 2088963 I Z)])) hn hs
      have q := (HB.out.only (so2 hs1 (by first | decide | exact cntD_le _ _))).two
      go_wp2_with fail
      exact postS_mk _ rfl rfl (stage_keep (A := (stgs [QA w s b v c d bs nm I B t Z, QA w s b v c d bs nm I B t (stS 2088963 I Z)])) (ps := [13]) (i := 4) rfl hs)
    · obtain ⟨⟨(h4 : vals 4 = .string nn), t4⟩, _⟩ := hk
      simp only [h4]
      clear h4
      go_wp2_with fail
      exact postS_mk _ rfl rfl (stage_keep (A := (stgs [QA w s b v c d bs nm I B t Z, QA w s b v c d bs nm I B t (stS 2088963 I Z)])) (ps := [13]) (i := 5) rfl hs)
    · obtain ⟨⟨(h5 : vals 5 = .int .u8 50), t5⟩, _⟩ := hk
      simp only [h5]
      clear h5
      go_wp2_with fail
      exact postS_mk _ rfl rfl (stage_keep (A := (stgs [QA w s b v c d bs nm I B t Z, QA w s b v c d bs nm I B t (stS 2088963 I Z)])) (ps := [13]) (i := 6) rfl hs)
    · obtain ⟨⟨(h6 : vals 6 = .int .u8 2), t6⟩, _⟩ := hk
      simp only [h6]
      clear h6
      go_wp2_with fail
      exact postS_mk _ rfl rfl (stage_keep (A := (stgs [QA w s b v c d bs nm I B t Z, QA w s b v c d bs nm I B t (stS 2088963 I Z)])) (ps := [13]) (i := 7) rfl hs)
    · obtain ⟨⟨(h7 : vals 7 = .pointer (some ⟨1, 2, none⟩)), t7⟩, _⟩ := hk
      simp only [h7]
      clear h7
      have d13 := not_yet hc hi 13 60 (by kernel_rfl)
      have hn : cntD [13] dn = 0 := by show (if dn 13 = true then 1 else 0) + 0 = 0; rw [d13]; rfl
      have hs1 := stage_at (A := (stgs [QA w s b v c d bs nm I B t Z, QA w s b v c d bs nm I B t (stS 2088963 I Z)])) hn hs
      have q := (show QA w s b v c d bs nm I B t Z x from hs1).1.vid 2 2088963 rfl
      go_wp2_with fail
      exact postS_mk _ rfl rfl (stage_keep (A := (stgs [QA w s b v c d bs nm I B t Z, QA w s b v c d bs nm I B t (stS 2088963 I Z)])) (ps := [13]) (i := 8) rfl hs)
    · have d13 := not_yet hc hi 13 60 (by kernel_rfl)
      have hn : cntD [13] dn = 0 := by show (if dn 13 = true then 1 else 0) + 0 = 0; rw [d13]; rfl
      have hs1 := stage_at (A := (stgs [QA w s b v c d bs nm I B t Z, QA w s b v c d bs nm I B t (stS 2088963 I Z)])) hn hs
      have q := (HB.out.only (so2 hs1 (by first | decide | exact cntD_le _ _))).one
      go_wp2_with fail
      exact postS_mk _ rfl rfl (stage_keep (A := (stgs [QA w s b v c d bs nm I B t Z, QA w s b v c d bs nm I B t (stS 2088963 I Z)])) (ps := [13]) (i := 9) rfl hs)
    · obtain ⟨⟨(h9 : vals 9 = .pointer (some ⟨s, 0, none⟩)), t9⟩, _⟩ := hk
      simp only [h9]
      clear h9
      go_wp2_with fail
      exact postS_mk _ rfl rfl (stage_keep (A := (stgs [QA w s b v c d bs nm I B t Z, QA w s b v c d bs nm I B t (stS 2088963 I Z)])) (ps := [13]) (i := 10) rfl hs)
    · obtain ⟨⟨(h10 : vals 10 = .pointer (some ⟨s, 0, none⟩)), t10⟩, _⟩ := hk
      simp only [h10]
      clear h10
      go_wp2_with fail
      exact postS_mk _ rfl rfl (stage_keep (A := (stgs [QA w s b v c d bs nm I B t Z, QA w s b v c d bs nm I B t (stS 2088963 I Z)])) (ps := [13]) (i := 11) rfl hs)
    · obtain ⟨⟨(h11 : vals 11 = .pointer (some ⟨s, 20, none⟩)), t11⟩, _⟩ := hk
      simp only [h11]
      clear h11
      have d13 := not_yet hc hi 13 60 (by kernel_rfl)
      have hn : cntD [13] dn = 0 := by show (if dn 13 = true then 1 else 0) + 0 = 0; rw [d13]; rfl
      have hs1 := stage_at (A := (stgs [QA w s b v c d bs nm I B t Z, QA w s b v c d bs nm I B t (stS 2088963 I Z)])) hn hs
      have q := (show QA w s b v c d bs nm I B t Z x from hs1).1.oper
      go_wp2_with fail
      exact postS_mk _ rfl rfl (stage_keep (A := (stgs [QA w s b v c d bs nm I B t Z, QA w s b v c d bs nm I B t (stS 2088963 I Z)])) (ps := [13]) (i := 12) rfl hs)
    · obtain ⟨⟨(h3 : vals 3 = .pointer (some ⟨b, 0, none⟩)), t3⟩, ⟨(h8 : vals 8 = .int .i64 2088963), t8⟩, ⟨(h12 : vals 12 = .int .i64 (I 3)), t12⟩, _⟩ := hk
      simp only [h3, h8, h12]
      clear h3 h8 h12
      have d13 := hi
      have hn : cntD [13] dn = 0 := by show (if dn 13 = true then 1 else 0) + 0 = 0; rw [d13]; rfl
      have hs1 := stage_at (A := (stgs [QA w s b v c d bs nm I B t Z, QA w s b v c d bs nm I B t (stS 2088963 I Z)])) hn hs
      have hn2 : cntD [13] (updD dn 13) = 1 := by show (if updD dn 13 13 = true then 1 else 0) + 0 = 1; rw [updD_same]; rfl
      have HN2 := hide hn2
      clear hn hn2 
      have HS := hide hs1
      clear hs hs1
      go_wp2_with fail
      refine (KW.out _ HS.out).mono ?_
      rintro e x2 ⟨rfl, h2⟩
      have H2 := hide h2
      clear h2 HS
      go_wp2_with fail
      exact postS_mk _ rfl rfl (stage_of (A := (stgs [QA w s b v c d bs nm I B t Z, QA w s b v c d bs nm I B t (stS 2088963 I Z)])) HN2.out H2.out)
  rintro vals dn x hall hs hv
  clear hv
  have hn : cntD [13] dn = 1 := by show (if dn 13 = true then 1 else 0) + 0 = 1; rw [hall 13 (by decide)]; rfl
  have hs := stage_at (A := (stgs [QA w s b v c d bs nm I B t Z, QA w s b v c d bs nm I B t (stS 2088963 I Z)])) hn hs
  clear hn hall
  obtain ⟨h9, o9⟩ : QA w s b v c d bs nm I B t (stS 2088963 I Z) x := hs
  exact HK.out _ _ rfl h9 o9
end Go.Proofs.YtoijhhbiknhlnaaGreatDoor.L25
