/- Package psg: a voice goes on, and what it says. -/
import Derived.Test.YtcpilhbinkamiaaDoorChan22
import Derived.Test.YtcpilhbinkamiaaDoorPlain22
import Derived.Test.YtcpilhbinkamiaaDoorJump21
namespace Go.Proofs.YtcpilhbinkamiaaDoor
open Go.RowKit
set_option linter.unusedVariables false

theorem v_ticks {w : World} {b : Nat} {f A P : Nat → Int} (h : HasF 53 w b 288 (vrow f A P)) {k : Nat} (hk : k < 6) : w.cell? ⟨b, k * 48, none⟩ = some (.int .i64 (ch f k 37)) := (h.at (k * 48 + 0) (by omega)).trans (by rw [vrow_at _ _ _ _ _ (by decide)]; rfl)
theorem v_per {w : World} {b : Nat} {f A P : Nat → Int} (h : HasF 53 w b 288 (vrow f A P)) {k : Nat} (hk : k < 6) : w.cell? ⟨b, k * 48 + 1, none⟩ = some (.int .i64 (P k)) := (h.at (k * 48 + 1) (by omega)).trans (by rw [vrow_at _ _ _ _ _ (by decide)]; rfl)
theorem v_cell {w : World} {b : Nat} {f A P : Nat → Int} (h : HasF 53 w b 288 (vrow f A P)) {k : Nat} (hk : k < 6) (j : Nat) (hj : j < 40) (h7 : j ≠ 37) : w.cell? ⟨b, k * 48 + 2 + j, none⟩ = some (.int .i64 (ch f k j)) := by
  have e := h.at (k * 48 + (2 + j)) (by omega)
  rw [vrow_at _ _ _ _ _ (by omega)] at e
  unfold vAt at e
  rw [if_neg (by omega), if_neg (by omega), if_pos (by omega), if_neg (by omega), show 2 + j - 2 = j by omega] at e
  rw [show k * 48 + 2 + j = k * 48 + (2 + j) by omega]
  exact e
theorem v_ny {w : World} {b : Nat} {f A P : Nat → Int} (h : HasF 53 w b 288 (vrow f A P)) {k : Nat} (hk : k < 6) : w.cell? ⟨b, k * 48 + 42, none⟩ = some (.bool (nyOf f k)) := (h.at (k * 48 + 42) (by omega)).trans (by rw [vrow_at _ _ _ _ _ (by decide)]; rfl)
theorem v_dr {w : World} {b : Nat} {f A P : Nat → Int} (h : HasF 53 w b 288 (vrow f A P)) {k : Nat} (hk : k < 6) : w.cell? ⟨b, k * 48 + 43, none⟩ = some (.bool (drOf f k)) := (h.at (k * 48 + 43) (by omega)).trans (by rw [vrow_at _ _ _ _ _ (by decide)]; rfl)
theorem v_go {w : World} {b : Nat} {f A P : Nat → Int} (h : HasF 53 w b 288 (vrow f A P)) {k : Nat} (hk : k < 6) : w.cell? ⟨b, k * 48 + 44, none⟩ = some (.bool (goOf f k)) := (h.at (k * 48 + 44) (by omega)).trans (by rw [vrow_at _ _ _ _ _ (by decide)]; rfl)
theorem v_he {w : World} {b : Nat} {f A P : Nat → Int} (h : HasF 53 w b 288 (vrow f A P)) {k : Nat} (hk : k < 6) : w.cell? ⟨b, k * 48 + 45, none⟩ = some (.bool (heOf f k)) := (h.at (k * 48 + 45) (by omega)).trans (by rw [vrow_at _ _ _ _ _ (by decide)]; rfl)
theorem v_gl {w : World} {b : Nat} {f A P : Nat → Int} (h : HasF 53 w b 288 (vrow f A P)) {k : Nat} (hk : k < 6) : w.cell? ⟨b, k * 48 + 46, none⟩ = some (.int .i64 (glOf f k)) := (h.at (k * 48 + 46) (by omega)).trans (by rw [vrow_at _ _ _ _ _ (by decide)]; rfl)
theorem v_gr {w : World} {b : Nat} {f A P : Nat → Int} (h : HasF 53 w b 288 (vrow f A P)) {k : Nat} (hk : k < 6) : w.cell? ⟨b, k * 48 + 47, none⟩ = some (.int .i64 (grOf f k)) := (h.at (k * 48 + 47) (by omega)).trans (by rw [vrow_at _ _ _ _ _ (by decide)]; rfl)

theorem orLongest_any (n l : Int) (w : World) : Calls Tryd.prog 35 #[.int .i64 n, .int .i64 l] w fun e w' => e = Ending.returned (.int .i64 (orL n l)) ∧ w' = w := by
  by_cases h : n = 0
  · have HQ : Hid (orL n l = l) := hide (by unfold orL; rw [if_pos h])
    go_enter Tryd.func35, Tryd.ntmps35
    go_wp2
    go_ret
    exact ⟨ret_int HQ.out.symm, rfl⟩
  · have HQ : Hid (orL n l = n) := hide (by unfold orL; rw [if_neg h])
    go_enter Tryd.func35, Tryd.ntmps35
    go_wp2
    go_ret
    exact ⟨ret_int HQ.out.symm, rfl⟩

theorem v_ticks2 {w : World} {b : Nat} {f A P : Nat → Int} (h : HasF 53 w b 288 (vrow f A P)) {k : Nat} (hk : k < 6) (u v : Int) (n : Nat) : HasF 53 (((w.setCell ⟨b, k * 48, none⟩ (.int .i64 u)).drewN n).setCell ⟨b, k * 48, none⟩ (.int .i64 v)) b 288 (vrow (up f (4 + k * 40 + 37) v) A P) := by
  have h1 : HasF 53 ((w.setCell ⟨b, k * 48, none⟩ (.int .i64 u)).drewN n) b 288 (vrow (up f (4 + k * 40 + 37) u) A P) := (h.set (k * 48) (.int .i64 u)).ext (vset_ticks f A P k u)
  have h2 := (h1.set (k * 48) (.int .i64 v)).ext (vset_ticks _ A P k v)
  rw [up_up] at h2
  exact h2
theorem turns_any {w : World} {b : Nat} {f A P : Nat → Int} (h : HasF 53 w b 288 (vrow f A P)) {k : Nat} (hk : k < 6) (t p : Int) (ht : ch f k 37 = t) (hp : P k = p) (t0 : 0 ≤ t) (t1 : t ≤ 16777215) (p0 : 0 < p) (p1 : p ≤ 16777216) :
    Calls Tryd.prog 50 #[.pointer (some ⟨b, k * 48, none⟩)] w fun e w' => e = Ending.returned (.int .i64 ((t + 455) / p)) ∧ HasF 53 w' b 288 (vrow (up f (4 + k * 40 + 37) ((t + 455) % p)) A P) ∧ But b w w' := by
  have c0 := v_ticks h hk
  have c1 := v_per h hk
  have fr := h.frozen (k * 48)
  rw [ht] at c0
  rw [hp] at c1
  have HH := hide h
  have q := quot_in (t := t + 455) (p := p) (by omega) (by omega) p0
  have d1 : Int.tdiv (t + 455) p = (t + 455) / p := Int.tdiv_eq_ediv_of_nonneg (by omega)
  have d2 : Int.tmod (t + 455) p = (t + 455) % p := Int.tmod_eq_emod_of_nonneg (by omega)
  clear h ht hp
  generalize (t + 455) / p = Q at *
  generalize (t + 455) % p = R at *
  generalize ho : k * 48 = o at *
  go_enter Tryd.func50, Tryd.ntmps50
  go_wp2_with fail
  go_quiet (fail)
  go_wp2_with fail
  go_region
  all_goals (try go_wp2)
  go_ret
  subst ho
  exact ⟨rfl, v_ticks2 HH.out hk _ _ _, (((But.refl b w).set _ _).drewN _).set _ _⟩

theorem voice_on {w : World} {b : Nat} {f A P : Nat → Int} (h : HasF 53 w b 288 (vrow f A P)) {k : Nat} (hk : k < 6) (ok : okP f) (p0 : 0 < P k) (p1 : P k ≤ 16777216) :
    Calls Tryd.prog 36 #[.pointer (some ⟨b, k * 48, none⟩)] w fun e w' => e = Ending.returned (.tuple #[]) ∧ HasF 53 w' b 288 (vrow (onP f k (P k)) A P) ∧ But b w w' := by
  obtain ⟨x0, x1, x2, x3, x4, x5, x6, x7, x8⟩ := ok.chan hk
  have cg := v_go h hk
  rcases hg : goOf f k with _ | _
  · have HQ : Hid (onP f k (P k) = f) := hide (by unfold onP; rw [hg]; rfl)
    rw [hg] at cg
    have HH := hide h
    clear h hg x8
    go_enter Tryd.func36, Tryd.ntmps36
    go_wp2
    refine bodyPost_ret (results_none rfl _ _ _) rfl ?_
    exact ⟨rfl, by rw [HQ.out]; exact HH.out, But.refl _ _⟩
  · rw [hg] at cg
    have KT := hide (turns_any h hk (ch f k 37) (P k) rfl rfl x5.1 x5.2 p0 p1)
    obtain ⟨f1, hf1⟩ : ∃ f1, up f (4 + k * 40 + 37) ((ch f k 37 + 455) % P k) = f1 := ⟨_, rfl⟩
    have al : Alike f f1 := by rw [← hf1]; exact alike_up f k 37 _ (by simp)
    have r1 : ch f1 k 38 = ch f k 38 := by rw [← hf1, ch_up _ _ _ _ _ _ (by decide) (by decide), if_neg (by omega)]
    have i1 : ch f1 k 36 = ch f k 36 := by rw [← hf1, ch_up _ _ _ _ _ _ (by decide) (by decide), if_neg (by omega)]
    have q := quot_in (t := ch f k 37 + 455) (p := P k) (by omega) (by omega) p0
    have HD : Hid (onP f k (P k) = if nyOf f k = true then up f1 (4 + k * 40 + 38) ((jumpN (ch f k 38).toNat ((ch f k 37 + 455) / P k).toNat : Nat) : Int) else up f1 (4 + k * 40 + 36) ((ch f k 36 + (ch f k 37 + 455) / P k) % 32)) := hide (by unfold onP; rw [if_pos hg, hf1])
    rw [hf1] at KT
    have AN := al.ny k
    obtain ⟨q0, q1, q2, q3⟩ := q
    clear q2 q3 hf1 x8 al hg h
    generalize (ch f k 37 + 455) / P k = Q at *
    generalize ch f k 38 = rn at *
    generalize ch f k 36 = ix at *
    obtain ⟨o, ho⟩ : ∃ o, k * 48 = o := ⟨_, rfl⟩
    rcases hn : nyOf f k with _ | _
    · rw [hn] at HD AN
      have CN : ∀ w1, HasF 53 w1 b 288 (vrow f1 A P) → w1.cell? ⟨b, o + 42, none⟩ = some (.bool false) ∧ w1.cell? ⟨b, o + 2 + 36, none⟩ = some (.int .i64 ix) ∧ w1.frozen? ⟨b, o + 2 + 36, none⟩ = false := fun w1 h1 => by
        have a := v_ny h1 hk
        have c := v_cell h1 hk 36 (by decide) (by decide)
        rw [AN, ho] at a
        rw [i1, ho] at c
        exact ⟨a, c, h1.frozen _⟩
      have CE : Hid (∀ w1, HasF 53 w1 b 288 (vrow f1 A P) → HasF 53 (w1.setCell ⟨b, o + 2 + 36, none⟩ (.int .i64 ((ix + Q) % 32))) b 288 (vrow (onP f k (P k)) A P)) := hide (fun w1 h1 => by
        rw [HD.out, if_neg (by decide), ← ho]
        exact (h1.set _ _).ext (vset_index f1 A P k _))
      have HC := hide CN
      rw [ho] at KT cg ⊢
      clear CN hn AN r1 i1 ho HD
      go_enter Tryd.func36, Tryd.ntmps36
      go_wp2_with (first
        | (go_at_call 50; refine KT.out.mono ?_; rintro e w1 ⟨rfl, h1, b1⟩; obtain ⟨d1, d2, d3⟩ := HC.out w1 h1; have H1 := hide h1; have B1 := hide b1; clear h1 b1)
        | (go_at_call 52; refine (turn_any b (o + 2) ix Q _ d2 d3 (by omega) (by omega) (by omega) (by omega)).mono ?_; rintro e w2 ⟨rfl, hw⟩; subst w2))
      go_end0
      exact ⟨rfl, CE.out _ H1.out, B1.out.set _ _⟩
    · rw [hn] at HD AN
      have CN : ∀ w1, HasF 53 w1 b 288 (vrow f1 A P) → w1.cell? ⟨b, o + 42, none⟩ = some (.bool true) ∧ w1.cell? ⟨b, o + 2 + 38, none⟩ = some (.int .i64 rn) ∧ w1.frozen? ⟨b, o + 2 + 38, none⟩ = false := fun w1 h1 => by
        have a := v_ny h1 hk
        have c := v_cell h1 hk 38 (by decide) (by decide)
        rw [AN, ho] at a
        rw [r1, ho] at c
        exact ⟨a, c, h1.frozen _⟩
      have es : stOf rn = rn.toNat := by
        have e := stOf_same (s := rn.toNat) (by omega) (by omega)
        rw [show ((rn.toNat : Nat) : Int) = rn by omega] at e
        exact e
      have KJ := hide (fun w => jump_any rn Q (by omega) w)
      rw [es] at KJ
      have CE : Hid (∀ w1, HasF 53 w1 b 288 (vrow f1 A P) → HasF 53 (w1.setCell ⟨b, o + 2 + 38, none⟩ (.int .i64 ((jumpN rn.toNat Q.toNat : Nat) : Int))) b 288 (vrow (onP f k (P k)) A P)) := hide (fun w1 h1 => by
        rw [HD.out, if_pos rfl, ← ho]
        exact (h1.set _ _).ext (vset_rand f1 A P k _))
      have HC := hide CN
      rw [ho] at KT cg ⊢
      clear CN hn AN r1 i1 ho HD es
      generalize jumpN rn.toNat Q.toNat = J at *
      go_enter Tryd.func36, Tryd.ntmps36
      go_wp2_with (first
        | (go_at_call 50; refine KT.out.mono ?_; rintro e w1 ⟨rfl, h1, b1⟩; obtain ⟨d1, d2, d3⟩ := HC.out w1 h1; have H1 := hide h1; have B1 := hide b1; clear h1 b1)
        | (go_at_call 51; refine (KJ.out _).mono ?_; rintro e w2 ⟨rfl, b2⟩; have H2 := hide (H1.out.next b2); obtain ⟨g1, g2, g3⟩ := HC.out w2 H2.out; replace B1 := hide (B1.out.andBelow b2); clear b2 d1 d2 d3))
      go_end0
      exact ⟨rfl, CE.out _ H2.out, B1.out.set _ _⟩
end Go.Proofs.YtcpilhbinkamiaaDoor
