/- A region that draws its order and whose last two operations wait, by themselves or through others, for all others, the last one for the other too: one walk of the others in the order of the text, each quiet in a class of worlds, and then these two. No word of the program is in it. -/
import Derived.Test.YtbgbedkmggefpaaDoorLastAny
namespace Go.Proofs.YtbgbedkmggefpaaDoor
open Go.RowKit
set_option linter.unusedVariables false

variable {P : Program} {md : Region.Mode} {C : World → Prop} {Q : Exit → Act → World → Prop} {H : List Oper} {o p : Oper}

/-- What is asked of the very last one: it waits for each of the others itself. -/
def topB (md : Region.Mode) (n : Nat) (p : Oper) : Bool := p.after.all (fun e => decide (e.on < n)) && (List.range n).all (fun i => p.after.any fun e => Region.binds md e && e.on == i)
theorem topB_spec {n : Nat} (h : topB md n p = true) : (∀ e ∈ p.after, e.on < n) ∧ ∀ i, i < n → ∃ e ∈ p.after, Region.binds md e = true ∧ e.on = i := by
  unfold topB at h
  rw [Bool.and_eq_true] at h
  refine ⟨fun e he => by simpa using Array.all_eq_true'.1 h.1 e he, fun i hi => ?_⟩
  obtain ⟨e, he, hb⟩ := Array.any_eq_true'.1 (List.all_eq_true.1 h.2 i (List.mem_range.2 hi))
  simp only [Bool.and_eq_true, beq_iff_eq] at hb
  exact ⟨e, he, hb⟩
theorem ops_low2 {i : Nat} (h : i < H.length) : ((H ++ [o]) ++ [p]).toArray[i]? = H.toArray[i]? := by
  rw [ops_low (H := H ++ [o]) (by simp; omega), ops_low h]
theorem ops_mid : ((H ++ [o]) ++ [p]).toArray[H.length]? = some o := by
  rw [ops_low (H := H ++ [o]) (by simp)]
  exact ops_top
theorem ops_top2 : ((H ++ [o]) ++ [p]).toArray[H.length + 1]? = some p := by
  simp
theorem push2_low {L : Array Bool} {j : Nat} (h : j < L.size) (b c d : Bool) : ((L.push b).push c).getD j d = L.getD j d := by
  rw [push_low (by simp; omega), push_low h]
theorem push2_mid {L : Array Bool} (b c d : Bool) : ((L.push b).push c).getD L.size d = b := by
  rw [push_low (by simp), push_top]
theorem push2_top {L : Array Bool} (b c d : Bool) : ((L.push b).push c).getD (L.size + 1) d = c := by
  have := push_top (L := L.push b) c d
  simpa using this
theorem push_set {L : Array Bool} {i : Nat} (hi : i < L.size) (b : Bool) : (L.push b).setIfInBounds i true = (L.setIfInBounds i true).push b := by
  apply Array.ext_getElem?
  intro j
  rw [Array.getElem?_setIfInBounds, Array.getElem?_push, Array.getElem?_push, Array.getElem?_setIfInBounds]
  simp only [Array.size_push, Array.size_setIfInBounds]
  by_cases hij : i = j
  · subst hij
    rw [if_pos rfl, if_pos (by omega), if_neg (by omega), if_pos rfl, if_pos (by omega)]
  · rw [if_neg hij, if_neg hij]
theorem push_set_top {L : Array Bool} (b : Bool) : (L.push b).setIfInBounds L.size true = L.push true := by
  apply Array.ext_getElem?
  intro j
  rw [Array.getElem?_setIfInBounds, Array.getElem?_push, Array.getElem?_push]
  by_cases hij : L.size = j
  · subst hij
    simp
  · rw [if_neg hij, if_neg (fun e => hij e.symm), if_neg (fun e => hij e.symm)]

theorem two_left (ho : ∀ e ∈ o.after, e.on < H.length) (hp : ∀ e ∈ p.after, e.on < H.length + 1) (hpm : ∃ e ∈ p.after, Region.binds md e = true ∧ e.on = H.length) {L : Array Bool} (hs : L.size = H.length) (hL : ∀ i, i < H.length → L.getD i true = true) {a : Act} {w : World}
    (h : wpList P ((H ++ [o]) ++ [p]).toArray Q [o, p] a w) (f : Nat) : wpAny P md ((H ++ [o]) ++ [p]).toArray Q (f + 2) ((L.push false).push false) a w := by
  refine ⟨fun e => ?_, fun i hi => ?_⟩
  · exfalso
    have : H.length ∈ Region.ready md ((H ++ [o]) ++ [p]).toArray ((L.push false).push false) := mem_ready.2 ⟨by rw [← hs]; exact push2_mid _ _ _, o, ops_mid, fun e he _ => by
      have h1 := ho e he
      rw [push2_low (by omega), getD_any (by omega) false true]
      exact hL _ h1⟩
    rw [e] at this
    cases this
  · obtain ⟨h1, x, h2, z⟩ := mem_ready.1 hi
    have h3 : i < H.length + 2 := by simpa using (Array.getElem?_eq_some_iff.1 h2).1
    have hin : i = H.length := by
      rcases Nat.lt_or_ge i H.length with k | k
      · rw [push2_low (by omega), hL i k] at h1; cases h1
      · by_cases e : i = H.length
        · exact e
        · exfalso
          have hi1 : i = H.length + 1 := by omega
          subst hi1
          rw [ops_top2] at h2
          cases h2
          obtain ⟨e2, he2, hb2, on2⟩ := hpm
          have h4 := z e2 he2 hb2
          rw [on2, ← hs, push2_mid] at h4
          cases h4
    subst hin
    have hw : wpOp P ((H ++ [o]) ++ [p]).toArray Q H.length (fun a w => wpList P ((H ++ [o]) ++ [p]).toArray Q [p] a w) a w := by
      unfold wpOp
      rw [ops_mid]
      exact h
    refine wpOp_mono (fun a' w' hq => ?_) hw
    rw [push_set (by simp [hs]), ← hs, push_set_top]
    exact one_left (H := H ++ [o]) (o := p) (by simpa using hp) (by simp [hs]) (fun i hi => by
      have hi' : i < H.length + 1 := by simpa using hi
      rcases Nat.lt_or_ge i H.length with k | k
      · rw [push_low (by omega)]; exact hL i k
      · have : i = L.size := by omega
        subst this
        exact push_top _ _) hq f

theorem any_shut2 (hb : ∀ (i : Nat) (x : Oper), H[i]? = some x → x.guard = none ∧ ∀ e ∈ x.after, Region.binds md e = true → e.on < i) (ho : ∀ e ∈ o.after, e.on < H.length)
    (hw : ∀ i, i < H.length → (∃ e ∈ o.after, Region.binds md e = true ∧ e.on = i) ∨ ∃ (j : Nat) (x : Oper), H[j]? = some x ∧ ∃ e ∈ x.after, Region.binds md e = true ∧ e.on = i)
    (hp : ∀ e ∈ p.after, e.on < H.length + 1) (hpw : ∀ i, i < H.length + 1 → ∃ e ∈ p.after, Region.binds md e = true ∧ e.on = i) :
    ∀ (fuel : Nat) (L : Array Bool) (a : Act) (w : World), L.size = H.length → ShutAny md H L → C w → wpAnyQ P md H.toArray C (fun a => ∀ w, C w → wpList P ((H ++ [o]) ++ [p]).toArray Q [o, p] a w) fuel L a →
      wpAny P md ((H ++ [o]) ++ [p]).toArray Q (fuel + 2) ((L.push false).push false) a w
  | 0, L, a, w, hs, hS, hC, h => two_left ho hp (hpw _ (by omega)) hs (none_left hb hs h.1) (h.2 w hC) 0
  | fuel + 1, L, a, w, hs, hS, hC, h => by
    by_cases e : Region.ready md H.toArray L = []
    · exact two_left ho hp (hpw _ (by omega)) hs (none_left hb hs e) (h.1 e w hC) (fuel + 1)
    · obtain ⟨i0, hi0⟩ := List.exists_mem_of_ne_nil _ e
      obtain ⟨u0, x0, y0, z0⟩ := mem_ready.1 hi0
      have l0 : i0 < H.length := by simpa using (Array.getElem?_eq_some_iff.1 y0).1
      have r0 : i0 ∈ Region.ready md ((H ++ [o]) ++ [p]).toArray ((L.push false).push false) := mem_ready.2 ⟨by rw [push2_low (by omega)]; exact u0, x0, by rw [ops_low2 l0]; exact y0, fun e he hbi => by
        have h1 := (hb i0 x0 (by simpa using y0)).2 e he hbi
        rw [push2_low (by omega)]
        exact z0 e he hbi⟩
      refine ⟨fun e1 => (by rw [e1] at r0; cases r0), fun i hi => ?_⟩
      obtain ⟨u, x, y, z⟩ := mem_ready.1 hi
      have h3 : i < H.length + 2 := by simpa using (Array.getElem?_eq_some_iff.1 y).1
      have hin : i < H.length := by
        rcases Nat.lt_or_ge i H.length with k | k
        · exact k
        · exfalso
          by_cases em : i = H.length
          · subst em
            rw [ops_mid] at y
            cases y
            have hr : ∀ e ∈ o.after, Region.binds md e = true → L.getD e.on true = true := fun e2 he2 hb2 => by
              have h4 := z e2 he2 hb2
              have h5 := ho e2 he2
              rw [push2_low (by omega), getD_any (by omega) false true] at h4
              exact h4
            have h6 := all_up hw hb hS hr H.length i0 l0 (by omega)
            rw [u0] at h6
            cases h6
          · have hi1 : i = H.length + 1 := by omega
            subst hi1
            rw [ops_top2] at y
            cases y
            obtain ⟨e2, he2, hb2, on2⟩ := hpw i0 (by omega)
            have h4 := z e2 he2 hb2
            rw [on2, push2_low (by omega), getD_any (by omega) false true, u0] at h4
            cases h4
      rw [ops_low2 hin] at y
      have hx : H[i]? = some x := by simpa using y
      have hr : i ∈ Region.ready md H.toArray L := mem_ready.2 ⟨by rw [push2_low (by omega)] at u; exact u, x, y, fun e he hbi => by
        have h1 := (hb i x hx).2 e he hbi
        have h2 := z e he hbi
        rw [push2_low (by omega)] at h2
        exact h2⟩
      have hq := h.2 i hr
      have hq2 : qOp P ((H ++ [o]) ++ [p]).toArray C i (wpAnyQ P md H.toArray C (fun a => ∀ w, C w → wpList P ((H ++ [o]) ++ [p]).toArray Q [o, p] a w) fuel (L.setIfInBounds i true)) a := by
        unfold qOp at hq ⊢
        rw [ops_low2 hin]
        rw [y] at hq ⊢
        simp only [Region.wanted, (hb i x hx).1, if_true] at hq ⊢
        exact hq
      rw [push_set (by simp; omega), push_set (by omega)]
      have hS2 : ShutAny md H (L.setIfInBounds i true) := by
        intro j xj hxj hj e he hbe
        have hlt := (hb j xj hxj).2 e he hbe
        by_cases hji : j = i
        · subst hji
          rw [hx] at hxj
          cases hxj
          have h2 := z e he hbe
          rw [push2_low (by omega)] at h2
          rw [getD_set_ne true (by omega)]
          rw [getD_any (by omega) false true] at h2
          exact h2
        · rw [getD_set_ne true (by omega)] at hj
          have h2 := hS j xj hxj hj e he hbe
          by_cases hei : e.on = i
          · rw [hei, Array.getD_eq_getD_getElem?, Array.getElem?_setIfInBounds_self_of_lt (by omega)]
            rfl
          · rw [getD_set_ne true (by omega)]
            exact h2
      exact wpOp_of_qOp hC (fun a' w' hC' h' => any_shut2 hb ho hw hp hpw fuel _ a' w' (by simp [hs]) hS2 hC' h') hq2

/-- THE WHOLE: the operations but the last two walked in the order of the text, each quiet in the class; then the last two, in any world of the class. -/
theorem wp_region_shut2 {id : Nat} {a : Act} {w : World} {l : List Oper} (H : List Oper) (o p : Oper) (hl : l = (H ++ [o]) ++ [p]) (hm : P.follows .mixedOrders = true) (hB : Region.lexB .any H.toArray = true) (hB2 : lastAnyB .any H o = true) (hB3 : topB .any (H.length + 1) p = true) (hC : C { w with drawn := w.drawn + 1 })
    (h : wpQuiet P H.toArray C (fun a' => ∀ w', C w' → wpList P l.toArray Q [o, p] a' w') H a) : (Code.region id l.toArray true).wp P Q a w := by
  subst hl
  simp only [Region.lexB, Bool.and_eq_true] at hB
  obtain ⟨h1, h2, h3⟩ := lastAnyB_spec hB2
  obtain ⟨h4, h5⟩ := topB_spec hB3
  refine wp_region_any hm ?_
  have k := wpAnyQ_lex (C := C) (md := .any) hB.1 H 0 (Array.replicate H.toArray.size false) a (by simp) (by simpa using hB.2) h
  have hS : ShutAny .any H (Array.replicate H.toArray.size false) := by
    intro j x hx hj
    exfalso
    have hjl : j < H.length := by
      rcases Nat.lt_or_ge j H.length with k | k
      · exact k
      · rw [List.getElem?_eq_none k] at hx; cases hx
    simp [Array.getD, hjl] at hj
  have k2 := any_shut2 h1 h2 h3 h4 h5 H.length (Array.replicate H.toArray.size false) a _ (by simp) hS hC k
  have e : ((Array.replicate H.toArray.size false).push false).push false = Array.replicate ((H ++ [o]) ++ [p]).toArray.size false := by
    simp [Array.replicate_succ]
  rw [e] at k2
  simpa using k2

/-- The same at the class of all worlds in whose old blocks nothing has turned. -/
theorem wp_region_kept_shut2 {P : Program} {Q : Exit → Act → World → Prop} {id : Nat} {a : Act} {w : World} {l : List Oper} (H : List Oper) (o p : Oper) (hl : l = (H ++ [o]) ++ [p]) (hm : P.follows .mixedOrders = true) (hB : Region.lexB .any H.toArray = true) (hB2 : lastAnyB .any H o = true) (hB3 : topB .any (H.length + 1) p = true)
    (h : wpQuiet P H.toArray (fun w' => ∃ x : Kept w, w' = x.val) (fun a' => ∀ w', (∃ x : Kept w, w' = x.val) → wpList P l.toArray Q [o, p] a' w') H a) : (Code.region id l.toArray true).wp P Q a w :=
  wp_region_shut2 (C := fun w' => ∃ x : Kept w, w' = x.val) H o p hl hm hB hB2 hB3 ⟨kept (Below.refl _ w).drew, rfl⟩ h
end Go.Proofs.YtbgbedkmggefpaaDoor
