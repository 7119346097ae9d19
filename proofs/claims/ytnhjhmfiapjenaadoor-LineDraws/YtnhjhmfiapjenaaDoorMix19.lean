/- Package line: the contract of Mix. -/
import Derived.Test.YtnhjhmfiapjenaaDoorGenA
namespace Go.Proofs.YtnhjhmfiapjenaaDoor
open Go.RowKit
set_option linter.unusedVariables false

/-- What is seen at a place. -/
def mixOf (B : Nat → Int) (P : Nat) (C : Nat → Int) (F : Nat → Bool) (x : Nat) : Int := if x < P ∧ ¬ C x = 0 ∧ (F x = true ∨ B x = 0) then 256 + C x else B x
theorem seen_out (b0 o0 N k0 pb pp pk P x : Nat) (B v : Int) (w : World) (cp : w.cell? ⟨pb, 0, none⟩ = some (.int .i64 (P : Int))) (cb : w.cell? ⟨pk, 0, none⟩ = some (.slice (some ⟨b0, o0, none⟩) N k0)) (e0 : w.cell? ⟨b0, o0 + x, none⟩ = some (.int .i64 B)) (hx : x < N) (hP : ¬ x < P) (hN : N ≤ 65536) (hv : B = v) : Calls Tryd.prog 38 #[.int .i64 (x : Int), .pointer (some ⟨pb, 0, none⟩), .pointer (some ⟨pp, 0, none⟩), .pointer (some ⟨pk, 0, none⟩)] w fun e w' => e = .returned (.int .i64 v) ∧ w' = w := by
  subst hv
  have hd : decide ((x : Int) < (P : Int)) = false := decide_eq_false (by omega)
  go_enter Tryd.func38, Tryd.ntmps38
  go_wp2_with fail
  go_ret
  exact ⟨rfl, rfl⟩
theorem seen_in (b0 o0 N k0 pb pp pk P x : Nat) (B v : Int) (w : World) (cp : w.cell? ⟨pb, 0, none⟩ = some (.int .i64 (P : Int))) (cb : w.cell? ⟨pk, 0, none⟩ = some (.slice (some ⟨b0, o0, none⟩) N k0)) (e0 : w.cell? ⟨b0, o0 + x, none⟩ = some (.int .i64 B)) (hx : x < N) (b1 o1 l1 k1 b2 o2 l2 k2 : Nat) (C : Int) (F : Bool) (c0 : w.cell? ⟨pp, 0, none⟩ = some (.slice (some ⟨b1, o1, none⟩) l1 k1)) (c1 : w.cell? ⟨pp, 1, none⟩ = some (.slice (some ⟨b2, o2, none⟩) l2 k2)) (e1 : w.cell? ⟨b1, o1 + x, none⟩ = some (.int .i64 C)) (e2 : w.cell? ⟨b2, o2 + x, none⟩ = some (.bool F)) (hP : x < P) (h1 : P ≤ l1) (h2 : P ≤ l2) (hN : N ≤ 65536) (hC : C ≤ 1099511627776) (hC2 : -9223372036854775808 ≤ C) (hv : (if ¬ C = 0 ∧ (F = true ∨ B = 0) then 256 + C else B) = v) : Calls Tryd.prog 38 #[.int .i64 (x : Int), .pointer (some ⟨pb, 0, none⟩), .pointer (some ⟨pp, 0, none⟩), .pointer (some ⟨pk, 0, none⟩)] w fun e w' => e = .returned (.int .i64 v) ∧ w' = w := by
  have hd : decide ((x : Int) < (P : Int)) = true := decide_eq_true (by omega)
  have hx1 : x < l1 := by omega
  have hx2 : x < l2 := by omega
  by_cases z : C = 0
  · subst z
    rw [if_neg (fun h => h.1 rfl)] at hv
    subst hv
    go_enter Tryd.func38, Tryd.ntmps38
    go_wp2_with fail
    go_ret
    exact ⟨rfl, rfl⟩
  · have z1 : (C != 0) = true := by simpa using z
    cases F
    · by_cases q : B = 0
      · subst q
        rw [if_pos ⟨z, .inr rfl⟩] at hv
        subst hv
        go_enter Tryd.func38, Tryd.ntmps38
        go_wp2_with fail
        go_ret
        exact ⟨rfl, rfl⟩
      · have q1 : (B == 0) = false := by simpa using q
        rw [if_neg (fun h => by rcases h.2 with h | h; cases h; exact q h)] at hv
        subst hv
        go_enter Tryd.func38, Tryd.ntmps38
        go_wp2_with fail
        go_ret
        exact ⟨rfl, rfl⟩
    · rw [if_pos ⟨z, .inl rfl⟩] at hv
      subst hv
      go_enter Tryd.func38, Tryd.ntmps38
      go_wp2_with fail
      go_ret
      exact ⟨rfl, rfl⟩
/-- Behind the first k places. -/
def mixTo (M : Nat → Int) (k j : Nat) : Int := if j < k then M j else 0
theorem mix_one (a0 a1 a2 : Option Addr) (N k0 l1 k1 l2 k2 P : Nat) (B : Nat → Int) (C : Nat → Int) (F : Nat → Bool) (w : World) (H0 : Hid (IntsAt w a0 N B)) (H1 : Hid (IntsAt w a1 P C)) (H2 : Hid (FlagsAt w a2 P F)) (hN : N ≤ 65536) (hl1 : (l1 : Int) ≤ 1099511627776) (hl2 : (l2 : Int) ≤ 1099511627776) (HC : Hid (∀ j, j < P → -9223372036854775808 ≤ C j ∧ C j ≤ 1099511627776)) (hP : P = l1) (q : l1 ≤ l2) : Calls Tryd.prog 15 #[.slice a0 N k0, .agg #[.slice a1 l1 k1, .slice a2 l2 k2]] w fun e w' => ∃ g, w.heap.size ≤ g ∧ e = .returned (.slice (some ⟨g, 0, none⟩) N N) ∧ RowN w' g N (mixOf B P C F) ∧ Below w.heap.size w w' := by
  subst hP
  have q1 : (P : Int) ≤ (l2 : Int) := by omega
  have hmk := make_rowN N (by omega)
  go_enter Tryd.func15, Tryd.ntmps15
  go_wp2_with fail
  refine under_name fun wa hwa => ?_
  obtain ⟨q0, q1, q2, q3, hs, BB⟩ := four_named hwa
  clear hwa hs
  obtain ⟨pk, hpk⟩ : ∃ z, w.heap.size = z := ⟨_, rfl⟩
  obtain ⟨pp, hpp⟩ : ∃ z, w.heap.size + 1 = z := ⟨_, rfl⟩
  obtain ⟨pb, hpb⟩ : ∃ z, w.heap.size + 2 = z := ⟨_, rfl⟩
  obtain ⟨g, hg⟩ : ∃ z, w.heap.size + 3 = z := ⟨_, rfl⟩
  have HZ := hide (show w.heap.size ≤ g ∧ pk ≠ g ∧ pp ≠ g ∧ pb ≠ g by omega)
  rw [hpk] at q0
  rw [hpp] at q1
  rw [hpb] at q2
  rw [hg] at q3
  simp only [Nat.add_assoc]
  rw [hg, hpb, hpp, hpk]
  have G0 := hide (show RowN wa g N (mixTo (mixOf B P C F) 0) from RowN.ext (show RowN wa g N (fun _ => 0) from q3) fun j _ => by unfold mixTo; rw [if_neg (by omega)])
  have K0 := hide q0
  have K1 := hide q1
  have K2 := hide q2
  have B0 := hide BB
  clear q0 q1 q2 q3 BB hpk hpp hpb hg
  go_loopw [22] (fun si wr => ∃ k : Nat, k ≤ N ∧ si = .int .i64 (k : Int) ∧ RowN wr g N (mixTo (mixOf B P C F) k) ∧ (∀ z o, z ≠ g → wa.heap[z]? = some o → wr.heap[z]? = some o) ∧ Below w.heap.size w wr) (fun si _ => N - (intOf si).toNat)
  case atStart => exact ⟨0, Nat.zero_le _, rfl, G0.out, fun z o _ h => h, B0.out⟩
  case round =>
    obtain ⟨k, hk, rfl, hgr, hkeep, hb⟩ := hrel
    have GK := hide hgr
    have KK := hide hkeep
    have BK := hide hb
    clear hgr hkeep hb
    by_cases hlt : k < N
    · have KS : Hid (Calls Tryd.prog 38 #[.int .i64 (k : Int), .pointer (some ⟨pb, 0, none⟩), .pointer (some ⟨pp, 0, none⟩), .pointer (some ⟨pk, 0, none⟩)] wr fun e w' => e = .returned (.int .i64 (mixOf B P C F k)) ∧ w' = wr) := by
        obtain ⟨b0, o0, rfl, hb0, e0⟩ := (H0.out.next BK.out) k hlt
        have cp := (cell_of_row wr pb 0 _ _ _ (KK.out pb _ HZ.out.2.2.2 K2.out)).trans rfl
        have cb := (cell_of_row wr pk 0 _ _ _ (KK.out pk _ HZ.out.2.1 K0.out)).trans rfl
        by_cases hP : k < P
        · obtain ⟨b1, o1, rfl, hb1, e1⟩ := (H1.out.next BK.out) k hP
          obtain ⟨b2, o2, rfl, hb2, e2⟩ := (H2.out.next BK.out) k hP
          have c0 := (cell_of_row wr pp 0 _ _ _ (KK.out pp _ HZ.out.2.2.1 K1.out)).trans rfl
          have c1 := (cell_of_row wr pp 1 _ _ _ (KK.out pp _ HZ.out.2.2.1 K1.out)).trans rfl
          exact seen_in b0 o0 N k0 pb pp pk P k (B k) _ wr cp cb e0 hlt b1 o1 _ k1 b2 o2 _ k2 (C k) (F k) c0 c1 e1 e2 hP (by omega) (by omega) hN (HC.out k hP).2 (HC.out k hP).1 (by unfold mixOf; simp [hP])
        · exact seen_out b0 o0 N k0 pb pp pk P k (B k) _ wr cp cb e0 hlt hP hN (by unfold mixOf; rw [if_neg (fun h => hP h.1)])
      have ck := GK.out.at k hlt
      have zk := GK.out.frozen k
      obtain ⟨v, hv⟩ : ∃ v, mixOf B P C F k = v := ⟨_, rfl⟩
      obtain ⟨u, hu⟩ : ∃ u, mixTo (mixOf B P C F) k k = u := ⟨_, rfl⟩
      rw [hv] at KS
      rw [hu] at ck
      have HV := hide hv
      clear hv hu
      go_wp2_with (first | (go_at_call 38; refine KS.out.mono ?_; rintro e w' ⟨rfl, hw⟩; subst w'))
      go_roundw
      case rel =>
        refine ⟨k + 1, by omega, by go_num, ?_, ?_, BK.out.setCell (p := ⟨g, k, none⟩) HZ.out.1 _⟩
        · refine RowN.ext (GK.out.set k v) fun j _ => ?_
          unfold mixTo
          by_cases e : j = k
          · rw [if_pos e, if_pos (by omega), e, HV.out]
          · rw [if_neg e]
            by_cases q : j < k
            · rw [if_pos q, if_pos (by omega)]
            · rw [if_neg q, if_neg (by omega)]
        · exact fun z o hz h => (heap_setCell_other _ _ _ _ hz).trans (KK.out z o hz h)
      case measure => simp [intOf]; omega
    · obtain rfl : k = N := by omega
      go_wp2_with fail
      go_ret
      exact ⟨g, HZ.out.1, rfl, GK.out.ext fun j hj => by unfold mixTo; rw [if_pos hj], BK.out⟩
theorem mix_two (a0 a1 a2 : Option Addr) (N k0 l1 k1 l2 k2 P : Nat) (B : Nat → Int) (C : Nat → Int) (F : Nat → Bool) (w : World) (H0 : Hid (IntsAt w a0 N B)) (H1 : Hid (IntsAt w a1 P C)) (H2 : Hid (FlagsAt w a2 P F)) (hN : N ≤ 65536) (hl1 : (l1 : Int) ≤ 1099511627776) (hl2 : (l2 : Int) ≤ 1099511627776) (HC : Hid (∀ j, j < P → -9223372036854775808 ≤ C j ∧ C j ≤ 1099511627776)) (hP : P = l2) (q : l2 < l1) : Calls Tryd.prog 15 #[.slice a0 N k0, .agg #[.slice a1 l1 k1, .slice a2 l2 k2]] w fun e w' => ∃ g, w.heap.size ≤ g ∧ e = .returned (.slice (some ⟨g, 0, none⟩) N N) ∧ RowN w' g N (mixOf B P C F) ∧ Below w.heap.size w w' := by
  subst hP
  have q1 : (P : Int) < (l1 : Int) := by omega
  have hmk := make_rowN N (by omega)
  go_enter Tryd.func15, Tryd.ntmps15
  go_wp2_with fail
  refine under_name fun wa hwa => ?_
  obtain ⟨q0, q1, q2, q3, hs, BB⟩ := four_named hwa
  clear hwa hs
  obtain ⟨pk, hpk⟩ : ∃ z, w.heap.size = z := ⟨_, rfl⟩
  obtain ⟨pp, hpp⟩ : ∃ z, w.heap.size + 1 = z := ⟨_, rfl⟩
  obtain ⟨pb, hpb⟩ : ∃ z, w.heap.size + 2 = z := ⟨_, rfl⟩
  obtain ⟨g, hg⟩ : ∃ z, w.heap.size + 3 = z := ⟨_, rfl⟩
  have HZ := hide (show w.heap.size ≤ g ∧ pk ≠ g ∧ pp ≠ g ∧ pb ≠ g by omega)
  rw [hpk] at q0
  rw [hpp] at q1
  rw [hpb] at q2
  rw [hg] at q3
  simp only [Nat.add_assoc]
  rw [hg, hpb, hpp, hpk]
  have G0 := hide (show RowN wa g N (mixTo (mixOf B P C F) 0) from RowN.ext (show RowN wa g N (fun _ => 0) from q3) fun j _ => by unfold mixTo; rw [if_neg (by omega)])
  have K0 := hide q0
  have K1 := hide q1
  have K2 := hide q2
  have B0 := hide BB
  clear q0 q1 q2 q3 BB hpk hpp hpb hg
  go_loopw [22] (fun si wr => ∃ k : Nat, k ≤ N ∧ si = .int .i64 (k : Int) ∧ RowN wr g N (mixTo (mixOf B P C F) k) ∧ (∀ z o, z ≠ g → wa.heap[z]? = some o → wr.heap[z]? = some o) ∧ Below w.heap.size w wr) (fun si _ => N - (intOf si).toNat)
  case atStart => exact ⟨0, Nat.zero_le _, rfl, G0.out, fun z o _ h => h, B0.out⟩
  case round =>
    obtain ⟨k, hk, rfl, hgr, hkeep, hb⟩ := hrel
    have GK := hide hgr
    have KK := hide hkeep
    have BK := hide hb
    clear hgr hkeep hb
    by_cases hlt : k < N
    · have KS : Hid (Calls Tryd.prog 38 #[.int .i64 (k : Int), .pointer (some ⟨pb, 0, none⟩), .pointer (some ⟨pp, 0, none⟩), .pointer (some ⟨pk, 0, none⟩)] wr fun e w' => e = .returned (.int .i64 (mixOf B P C F k)) ∧ w' = wr) := by
        obtain ⟨b0, o0, rfl, hb0, e0⟩ := (H0.out.next BK.out) k hlt
        have cp := (cell_of_row wr pb 0 _ _ _ (KK.out pb _ HZ.out.2.2.2 K2.out)).trans rfl
        have cb := (cell_of_row wr pk 0 _ _ _ (KK.out pk _ HZ.out.2.1 K0.out)).trans rfl
        by_cases hP : k < P
        · obtain ⟨b1, o1, rfl, hb1, e1⟩ := (H1.out.next BK.out) k hP
          obtain ⟨b2, o2, rfl, hb2, e2⟩ := (H2.out.next BK.out) k hP
          have c0 := (cell_of_row wr pp 0 _ _ _ (KK.out pp _ HZ.out.2.2.1 K1.out)).trans rfl
          have c1 := (cell_of_row wr pp 1 _ _ _ (KK.out pp _ HZ.out.2.2.1 K1.out)).trans rfl
          exact seen_in b0 o0 N k0 pb pp pk P k (B k) _ wr cp cb e0 hlt b1 o1 _ k1 b2 o2 _ k2 (C k) (F k) c0 c1 e1 e2 hP (by omega) (by omega) hN (HC.out k hP).2 (HC.out k hP).1 (by unfold mixOf; simp [hP])
        · exact seen_out b0 o0 N k0 pb pp pk P k (B k) _ wr cp cb e0 hlt hP hN (by unfold mixOf; rw [if_neg (fun h => hP h.1)])
      have ck := GK.out.at k hlt
      have zk := GK.out.frozen k
      obtain ⟨v, hv⟩ : ∃ v, mixOf B P C F k = v := ⟨_, rfl⟩
      obtain ⟨u, hu⟩ : ∃ u, mixTo (mixOf B P C F) k k = u := ⟨_, rfl⟩
      rw [hv] at KS
      rw [hu] at ck
      have HV := hide hv
      clear hv hu
      go_wp2_with (first | (go_at_call 38; refine KS.out.mono ?_; rintro e w' ⟨rfl, hw⟩; subst w'))
      go_roundw
      case rel =>
        refine ⟨k + 1, by omega, by go_num, ?_, ?_, BK.out.setCell (p := ⟨g, k, none⟩) HZ.out.1 _⟩
        · refine RowN.ext (GK.out.set k v) fun j _ => ?_
          unfold mixTo
          by_cases e : j = k
          · rw [if_pos e, if_pos (by omega), e, HV.out]
          · rw [if_neg e]
            by_cases q : j < k
            · rw [if_pos q, if_pos (by omega)]
            · rw [if_neg q, if_neg (by omega)]
        · exact fun z o hz h => (heap_setCell_other _ _ _ _ hz).trans (KK.out z o hz h)
      case measure => simp [intOf]; omega
    · obtain rfl : k = N := by omega
      go_wp2_with fail
      go_ret
      exact ⟨g, HZ.out.1, rfl, GK.out.ext fun j hj => by unfold mixTo; rw [if_pos hj], BK.out⟩
theorem mix_is (a0 a1 a2 : Option Addr) (N k0 l1 k1 l2 k2 P : Nat) (B : Nat → Int) (C : Nat → Int) (F : Nat → Bool) (w : World) (H0 : Hid (IntsAt w a0 N B)) (H1 : Hid (IntsAt w a1 P C)) (H2 : Hid (FlagsAt w a2 P F)) (hN : N ≤ 65536) (hl1 : (l1 : Int) ≤ 1099511627776) (hl2 : (l2 : Int) ≤ 1099511627776) (HC : Hid (∀ j, j < P → -9223372036854775808 ≤ C j ∧ C j ≤ 1099511627776)) (hP : P = min l1 l2) : Calls Tryd.prog 15 #[.slice a0 N k0, .agg #[.slice a1 l1 k1, .slice a2 l2 k2]] w fun e w' => ∃ g, w.heap.size ≤ g ∧ e = .returned (.slice (some ⟨g, 0, none⟩) N N) ∧ RowN w' g N (mixOf B P C F) ∧ Below w.heap.size w w' := by
  by_cases q : l1 ≤ l2
  · exact mix_one a0 a1 a2 N k0 l1 k1 l2 k2 P B C F w H0 H1 H2 hN hl1 hl2 HC (by omega) q
  · exact mix_two a0 a1 a2 N k0 l1 k1 l2 k2 P B C F w H0 H1 H2 hN hl1 hl2 HC (by omega) (by omega)
end Go.Proofs.YtnhjhmfiapjenaaDoor
