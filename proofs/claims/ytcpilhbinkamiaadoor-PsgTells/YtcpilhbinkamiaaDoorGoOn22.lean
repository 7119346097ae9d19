/- Package psg: all voices go on by a sample. -/
import Derived.Test.YtcpilhbinkamiaaDoorSum22
namespace Go.Proofs.YtcpilhbinkamiaaDoor
open Go.RowKit
set_option linter.unusedVariables false

/-- The channels but for the first that goes on. -/
def restF (f : Nat → Int) : Nat → Nat → Int
  | 0 => f
  | k + 1 => if k = 1 then restF f k else onK (restF f k) k
theorem stepF_is (f : Nat → Int) : stepF f = restF (onK f 1) 6 := by simp [stepF, restF]
theorem HasF.drew {T : TypeId} {w : World} {b N : Nat} {c : Nat → Value} (h : HasF T w b N c) : HasF T w.drew b N c := h
theorem rest_ok {f : Nat → Int} (h : okP f) : ∀ k, k ≤ 6 → okP (restF f k)
  | 0, _ => h
  | k + 1, hk => by
    have ih := rest_ok h k (by omega)
    unfold restF
    split
    · exact ih
    · exact okP_onK ih (by omega)
theorem rest_alike (f : Nat → Int) : ∀ k, Alike f (restF f k)
  | 0 => Alike.refl f
  | k + 1 => by
    have ih := rest_alike f k
    unfold restF
    split
    · exact ih
    · exact ih.trans (alike_on _ _ _)
/-- The periods of the voices are those of the channels, but, with the LFO, that of the channel that is swayed. -/
def Pers (f P : Nat → Int) : Prop := ∀ k, k < 6 → (k = 0 ∧ lfoOf f ≠ 0) ∨ P k = perK f k
theorem Pers.alike {f g P : Nat → Int} (h : Pers f P) (a : Alike f g) : Pers g P := fun k hk => by
  by_cases e : k = 0 ∧ lfoOf f ≠ 0
  · exact .inl ⟨e.1, by rw [a.lfo]; exact e.2⟩
  · rcases h k hk with h | h
    · exact absurd h e
    · exact .inr (by rw [h, a.per k e])
theorem per_first {f : Nat → Int} (h : lfoOf f ≠ 0) : perK f 0 = 6 * orL (frq f) 4096 := by
  unfold perK
  rw [if_neg (by unfold nyOf; simp), if_pos ⟨rfl, h⟩]
/-- All periods, when the channels but for the first that goes on are about to. -/
def AllPers (f P : Nat → Int) : Prop := ∀ k, k < 6 → k ≠ 1 → P k = perK (restF f k) k
theorem allPers_of {f P : Nat → Int} (h : Pers f P) (h0 : P 0 = perK f 0) : AllPers f P := fun k hk _ => by
  by_cases e : k = 0
  · subst e; exact h0
  · rcases h k hk with h | h
    · exact absurd h.1 e
    · rw [h, (rest_alike f k).per k fun c => e c.1]

theorem goOn_any {w : World} {b : Nat} {f A P : Nat → Int} (h : HasF 53 w b 288 (vrow f A P)) (ok : okP f) (hP : Pers f P) : Calls Tryd.prog 18 #[.pointer (some ⟨b, 0, none⟩), .int .i64 (lfoOf f)] w fun e w' => e = Ending.returned (.tuple #[]) ∧ ∃ P', HasF 53 w' b 288 (vrow (stepF f) A P') ∧ Pers (stepF f) P' ∧ But b w w' := by
  have p1 : P 1 = perK f 1 := by
    rcases hP 1 (by decide) with h | h
    · exact absurd h.1 (by decide)
    · exact h
  have pk := perK_in ok (k := 1) (by decide)
  rw [← p1] at pk
  have KV := hide (voice_on h (k := 1) (by decide) ok pk.1 (by omega))
  rw [p1] at KV
  have OK1 : Hid (okP (onK f 1)) := hide (okP_onK ok (by decide))
  have al : Alike f (onK f 1) := alike_on f 1 _
  have E1 : onP f 1 (perK f 1) = onK f 1 := rfl
  rw [E1] at KV
  rw [show (1 : Nat) * 48 = 48 from rfl] at KV
  by_cases h0 : lfoOf f = 0
  · have AP : Hid (AllPers (onK f 1) P) := hide (allPers_of (hP.alike al) (by
      rcases hP.alike al 0 (by decide) with c | c
      · exact absurd h0 (by rw [← al.lfo]; exact c.2)
      · exact c))
    have PS : Hid (Pers (stepF f) P) := hide (hP.alike (alike_step f))
    rw [h0]
    clear h hP p1 pk ok al E1 h0
    go_enter Tryd.func18, Tryd.ntmps18
    go_wp2_with (go_at_call 36; refine KV.out.mono ?_; rintro e w1 ⟨rfl, h1, b1⟩; have H1 := hide h1; have B1 := hide b1; clear h1 b1 KV)
    go_loopw [21] (fun i w' => ∃ k : Nat, k ≤ 6 ∧ i = .int .i64 k ∧ HasF 53 w' b 288 (vrow (restF (onK f 1) k) A P) ∧ But b w w') (fun i _ => 6 - (intOf i).toNat)
    case atStart => exact ⟨0, by decide, rfl, H1.out, B1.out⟩
    case round =>
      clear H1 B1
      obtain ⟨k, hk, rfl, h2, b2⟩ := hrel
      have H2 := hide h2
      have B2 := hide b2
      clear h2 b2
      by_cases hlt : k < 6
      · by_cases e1 : k = 1
        · subst e1
          have E : Hid (restF (onK f 1) (1 + 1) = restF (onK f 1) 1) := hide rfl
          go_wp2_with fail
          exact ⟨⟨2, by decide, rfl, by rw [E.out]; exact H2.out, B2.out⟩, by simp [intOf]⟩
        · have E : Hid (restF (onK f 1) (k + 1) = onP (restF (onK f 1) k) k (P k)) := hide (by rw [AP.out k hlt e1]; show (if k = 1 then _ else _) = _; rw [if_neg e1]; rfl)
          have pk := perK_in (rest_ok OK1.out k (by omega)) hlt
          rw [← AP.out k hlt e1] at pk
          have KG := hide (voice_on H2.out hlt (rest_ok OK1.out k (by omega)) pk.1 (by omega))
          rw [← E.out] at KG
          clear pk
          go_wp2_with (go_at_call 36; refine KG.out.mono ?_; rintro e w3 ⟨rfl, h3, b3⟩; have H3 := hide h3; have B3 := hide (B2.out.trans b3); clear h3 b3)
          exact ⟨⟨k + 1, by omega, by go_num, H3.out, B3.out⟩, by simp [intOf]; omega⟩
      · obtain rfl : k = 6 := by omega
        go_wp2_with fail
        go_end0
        exact ⟨rfl, P, by rw [stepF_is]; exact H2.out, PS.out, B2.out⟩
  · have h1 : lfoOf (onK f 1) ≠ 0 := by rw [al.lfo]; exact h0
    obtain ⟨P1, hP1⟩ : ∃ P1, upN P 0 (6 * orL (frq (onK f 1)) 4096) = P1 := ⟨_, rfl⟩
    have a1 : P1 0 = perK (onK f 1) 0 := by rw [← hP1, per_first h1]; rfl
    have a2 : Pers f P1 := fun k hk => by
      by_cases e : k = 0
      · exact .inl ⟨e, h0⟩
      · rcases hP k hk with c | c
        · exact absurd c.1 e
        · exact .inr (by rw [← hP1, ← c]; unfold upN; rw [if_neg e])
    have AP : Hid (AllPers (onK f 1) P1) := hide (allPers_of (a2.alike al) a1)
    have PS : Hid (Pers (stepF f) P1) := hide (a2.alike (alike_step f))
    have KS := hide (fun (u : World) (hu : HasF 53 u b 288 (vrow (onK f 1) A P)) => swayed_any hu OK1.out h1)
    rw [al.lfo] at KS
    have hl := lfoOf_in ok
    have hq : 0 < orL (frq (onK f 1)) 4096 ∧ orL (frq (onK f 1)) 4096 ≤ 4096 := orL_in (by unfold frq; omega)
    have KO := hide (fun u => orLongest_any (frq (onK f 1)) 4096 u)
    have KE : Hid (∀ u : World, HasF 53 u b 288 (vrow (onK f 1) A P) → HasF 53 (u.setCell ⟨b, 1, none⟩ (.int .i64 (6 * orL (frq (onK f 1)) 4096))) b 288 (vrow (onK f 1) A P1)) := hide (fun u hu => by
      rw [← hP1]
      exact (hu.set 1 _).ext (vset_period _ A P 0 _))
    have KC : Hid (∀ u : World, HasF 53 u b 288 (vrow (onK f 1) A P) → u.cell? ⟨b, 1, none⟩ = some (.int .i64 (P 0)) ∧ u.frozen? ⟨b, 1, none⟩ = false) := hide (fun u hu => ⟨v_per hu (k := 0) (by decide), hu.frozen _⟩)
    have w6 : IntKind.i64.wrap (6 * orL (frq (onK f 1)) 4096) = 6 * orL (frq (onK f 1)) 4096 := i64_small _ (by omega) (by omega)
    clear h hP p1 pk ok al E1 h1 hP1 a1 a2
    generalize lfoOf f = m at *
    generalize orL (frq (onK f 1)) 4096 = q at *
    generalize frq (onK f 1) = fq at *
    go_enter Tryd.func18, Tryd.ntmps18
    go_wp2_with (go_at_call 36; refine KV.out.mono ?_; rintro e w1 ⟨rfl, h1, b1⟩; have H1 := hide h1; have B1 := hide b1; clear h1 b1 KV)
    go_region_with (first
      | (go_at_call 37; refine (KS.out _ H1.out.drew).mono ?_; rintro e w2 ⟨rfl, b2⟩; have H2 := hide (H1.out.drew.next b2); have B2 := hide (B1.out.drew.andBelow b2); obtain ⟨g1, g2⟩ := KC.out _ H2.out; clear b2)
      | (go_at_call 35; refine (KO.out _).mono ?_; rintro e w3 ⟨rfl, hw⟩; subst w3))
    have H3 := hide (KE.out _ H2.out)
    have B3 := hide (B2.out.set 1 (.int .i64 (6 * q)))
    clear H1 B1 H2 B2 g1 g2 KE KC KS KO
    refine under_then fun w4 hw4 => ?_
    rw [← hw4] at H3 B3
    clear hw4
    go_wp2_with fail
    have H1 := H3
    have B1 := B3
    clear H3 B3
    go_loopw [21] (fun i w' => ∃ k : Nat, k ≤ 6 ∧ i = .int .i64 k ∧ HasF 53 w' b 288 (vrow (restF (onK f 1) k) A P1) ∧ But b w w') (fun i _ => 6 - (intOf i).toNat)
    case atStart => exact ⟨0, by decide, rfl, H1.out, B1.out⟩
    case round =>
      clear H1 B1
      obtain ⟨k, hk, rfl, h2, b2⟩ := hrel
      have H2 := hide h2
      have B2 := hide b2
      clear h2 b2
      by_cases hlt : k < 6
      · by_cases e1 : k = 1
        · subst e1
          have E : Hid (restF (onK f 1) (1 + 1) = restF (onK f 1) 1) := hide rfl
          go_wp2_with fail
          exact ⟨⟨2, by decide, rfl, by rw [E.out]; exact H2.out, B2.out⟩, by simp [intOf]⟩
        · have E : Hid (restF (onK f 1) (k + 1) = onP (restF (onK f 1) k) k (P1 k)) := hide (by rw [AP.out k hlt e1]; show (if k = 1 then _ else _) = _; rw [if_neg e1]; rfl)
          have pk := perK_in (rest_ok OK1.out k (by omega)) hlt
          rw [← AP.out k hlt e1] at pk
          have KG := hide (voice_on H2.out hlt (rest_ok OK1.out k (by omega)) pk.1 (by omega))
          rw [← E.out] at KG
          clear pk
          go_wp2_with (go_at_call 36; refine KG.out.mono ?_; rintro e w3 ⟨rfl, h3, b3⟩; have H3 := hide h3; have B3 := hide (B2.out.trans b3); clear h3 b3)
          exact ⟨⟨k + 1, by omega, by go_num, H3.out, B3.out⟩, by simp [intOf]; omega⟩
      · obtain rfl : k = 6 := by omega
        go_wp2_with fail
        go_end0
        exact ⟨rfl, P1, by rw [stepF_is]; exact H2.out, PS.out, B2.out⟩
end Go.Proofs.YtcpilhbinkamiaaDoor
