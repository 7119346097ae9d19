/- A region that draws its order and whose last operation waits, by itself or through others, for all others: one walk of the others in the order of the text, each quiet in a class of worlds, and then the last one. No word of the program is in it. -/
import Derived.Test.YtliedfjaeakgeaaLastOp
namespace Go.Proofs.Ytliedfjaeakgeaa
open Go.RowKit
set_option linter.unusedVariables false

/-- What is asked of the region: each operation waits for earlier ones alone; none is guarded; each is waited for by the last one or by one of the others. -/
def lastAnyB (md : Region.Mode) (H : List Oper) (o : Oper) : Bool :=
  (List.range H.length).all (fun i => match H[i]? with | some x => x.guard.isNone && x.after.all (fun e => !Region.binds md e || decide (e.on < i)) | none => true) &&
  o.after.all (fun e => decide (e.on < H.length)) && (List.range H.length).all (fun i => (o.after.any fun e => Region.binds md e && e.on == i) || (List.range H.length).any fun j => match H[j]? with | some x => x.after.any (fun e => Region.binds md e && e.on == i) | none => false)

variable {P : Program} {md : Region.Mode} {C : World → Prop} {Q : Exit → Act → World → Prop} {H : List Oper} {o : Oper}

theorem lastAnyB_spec (h : lastAnyB md H o = true) : (∀ (i : Nat) (x : Oper), H[i]? = some x → x.guard = none ∧ ∀ e ∈ x.after, Region.binds md e = true → e.on < i) ∧ (∀ e ∈ o.after, e.on < H.length) ∧
    ∀ i, i < H.length → (∃ e ∈ o.after, Region.binds md e = true ∧ e.on = i) ∨ ∃ (j : Nat) (x : Oper), H[j]? = some x ∧ ∃ e ∈ x.after, Region.binds md e = true ∧ e.on = i := by
  unfold lastAnyB at h
  rw [Bool.and_eq_true, Bool.and_eq_true] at h
  obtain ⟨⟨h1, h2⟩, h3⟩ := h
  refine ⟨fun i x hx => ?_, fun e he => ?_, fun i hi => ?_⟩
  · have hi : i < H.length := by
      rcases Nat.lt_or_ge i H.length with k | k
      · exact k
      · rw [List.getElem?_eq_none k] at hx; cases hx
    have k := List.all_eq_true.1 h1 i (List.mem_range.2 hi)
    rw [hx] at k
    simp only [Bool.and_eq_true, Option.isNone_iff_eq_none] at k
    exact ⟨k.1, fun e he hb => by simpa [hb] using Array.all_eq_true'.1 k.2 e he⟩
  · simpa using Array.all_eq_true'.1 h2 e he
  · have k := List.all_eq_true.1 h3 i (List.mem_range.2 hi)
    rcases Bool.or_eq_true _ _ ▸ k with k | k
    · obtain ⟨e, he, hb⟩ := Array.any_eq_true'.1 k
      simp only [Bool.and_eq_true, beq_iff_eq] at hb
      exact .inl ⟨e, he, hb⟩
    · obtain ⟨j, hj, hb⟩ := List.any_eq_true.1 k
      split at hb
      · rename_i x hx
        obtain ⟨e, he, hb⟩ := Array.any_eq_true'.1 hb
        simp only [Bool.and_eq_true, beq_iff_eq] at hb
        exact .inr ⟨j, x, hx, e, he, hb⟩
      · cases hb

/-- What has come up has all come up that it waits for. -/
def ShutAny (md : Region.Mode) (H : List Oper) (L : Array Bool) : Prop := ∀ (j : Nat) (x : Oper), H[j]? = some x → L.getD j true = true → ∀ e ∈ x.after, Region.binds md e = true → L.getD e.on true = true

theorem all_up (hw : ∀ i, i < H.length → (∃ e ∈ o.after, Region.binds md e = true ∧ e.on = i) ∨ ∃ (j : Nat) (x : Oper), H[j]? = some x ∧ ∃ e ∈ x.after, Region.binds md e = true ∧ e.on = i)
    (hb : ∀ (i : Nat) (x : Oper), H[i]? = some x → x.guard = none ∧ ∀ e ∈ x.after, Region.binds md e = true → e.on < i) {L : Array Bool} (hS : ShutAny md H L) (hr : ∀ e ∈ o.after, Region.binds md e = true → L.getD e.on true = true) :
    ∀ n i, i < H.length → H.length ≤ i + n → L.getD i true = true
  | 0, i, hi, hn => by omega
  | n + 1, i, hi, hn => by
    rcases hw i hi with ⟨e, he, hbe, rfl⟩ | ⟨j, x, hx, e, he, hbe, rfl⟩
    · exact hr e he hbe
    · have hj : e.on < j := (hb j x hx).2 e he hbe
      have hjl : j < H.length := by
        rcases Nat.lt_or_ge j H.length with k | k
        · exact k
        · rw [List.getElem?_eq_none k] at hx; cases hx
      exact hS j x hx (all_up hw hb hS hr n j hjl (by omega)) e he hbe

theorem any_shut (hb : ∀ (i : Nat) (x : Oper), H[i]? = some x → x.guard = none ∧ ∀ e ∈ x.after, Region.binds md e = true → e.on < i) (ho : ∀ e ∈ o.after, e.on < H.length)
    (hw : ∀ i, i < H.length → (∃ e ∈ o.after, Region.binds md e = true ∧ e.on = i) ∨ ∃ (j : Nat) (x : Oper), H[j]? = some x ∧ ∃ e ∈ x.after, Region.binds md e = true ∧ e.on = i) :
    ∀ (fuel : Nat) (L : Array Bool) (a : Act) (w : World), L.size = H.length → ShutAny md H L → C w → wpAnyQ P md H.toArray C (fun a => ∀ w, C w → wpList P (H ++ [o]).toArray Q [o] a w) fuel L a →
      wpAny P md (H ++ [o]).toArray Q (fuel + 1) (L.push false) a w
  | 0, L, a, w, hs, hS, hC, h => one_left ho hs (none_left hb hs h.1) (h.2 w hC) 0
  | fuel + 1, L, a, w, hs, hS, hC, h => by
    by_cases e : Region.ready md H.toArray L = []
    · exact one_left ho hs (none_left hb hs e) (h.1 e w hC) (fuel + 1)
    · obtain ⟨i0, hi0⟩ := List.exists_mem_of_ne_nil _ e
      obtain ⟨u0, x0, y0, z0⟩ := mem_ready.1 hi0
      have l0 : i0 < H.length := by simpa using (Array.getElem?_eq_some_iff.1 y0).1
      have r0 : i0 ∈ Region.ready md (H ++ [o]).toArray (L.push false) := mem_ready.2 ⟨by rw [push_low (by omega)]; exact u0, x0, by rw [ops_low l0]; exact y0, fun e he hbi => by
        have h1 := (hb i0 x0 (by simpa using y0)).2 e he hbi
        rw [push_low (by omega)]
        exact z0 e he hbi⟩
      refine ⟨fun e1 => (by rw [e1] at r0; cases r0), fun i hi => ?_⟩
      obtain ⟨u, x, y, z⟩ := mem_ready.1 hi
      have h3 : i < H.length + 1 := by simpa using (Array.getElem?_eq_some_iff.1 y).1
      have hin : i < H.length := by
        rcases Nat.lt_or_ge i H.length with k | k
        · exact k
        · exfalso
          have : i = H.length := by omega
          subst this
          rw [ops_top] at y
          cases y
          have hr : ∀ e ∈ o.after, Region.binds md e = true → L.getD e.on true = true := fun e2 he2 hb2 => by
            have h4 := z e2 he2 hb2
            have h5 := ho e2 he2
            rw [push_low (by omega), getD_any (by omega) false true] at h4
            exact h4
          have h6 := all_up hw hb hS hr H.length i0 l0 (by omega)
          rw [u0] at h6
          cases h6
      rw [ops_low hin] at y
      have hx : H[i]? = some x := by simpa using y
      have hr : i ∈ Region.ready md H.toArray L := mem_ready.2 ⟨by rw [push_low (by omega)] at u; exact u, x, y, fun e he hbi => by
        have h1 := (hb i x hx).2 e he hbi
        have h2 := z e he hbi
        rw [push_low (by omega)] at h2
        exact h2⟩
      have hq := h.2 i hr
      have hq2 : qOp P (H ++ [o]).toArray C i (wpAnyQ P md H.toArray C (fun a => ∀ w, C w → wpList P (H ++ [o]).toArray Q [o] a w) fuel (L.setIfInBounds i true)) a := by
        unfold qOp at hq ⊢
        rw [ops_low hin]
        rw [y] at hq ⊢
        simp only [Region.wanted, (hb i x hx).1, if_true] at hq ⊢
        exact hq
      have hset : (L.push false).setIfInBounds i true = (L.setIfInBounds i true).push false := by
        apply Array.ext_getElem?
        intro j
        rw [Array.getElem?_setIfInBounds, Array.getElem?_push, Array.getElem?_push, Array.getElem?_setIfInBounds]
        simp only [Array.size_push, Array.size_setIfInBounds]
        by_cases hij : i = j
        · subst hij
          rw [if_pos rfl, if_pos (by omega), if_neg (by omega), if_pos rfl, if_pos (by omega)]
        · rw [if_neg hij, if_neg hij]
      rw [hset]
      have hS2 : ShutAny md H (L.setIfInBounds i true) := by
        intro j xj hxj hj e he hbe
        have hlt := (hb j xj hxj).2 e he hbe
        by_cases hji : j = i
        · subst hji
          rw [hx] at hxj
          cases hxj
          have h2 := z e he hbe
          rw [push_low (by omega)] at h2
          rw [getD_set_ne true (by omega)]
          rw [getD_any (by omega) false true] at h2
          exact h2
        · rw [getD_set_ne true (by omega)] at hj
          have h2 := hS j xj hxj hj e he hbe
          by_cases hei : e.on = i
          · rw [hei, Array.getD_eq_getD_getElem?, Array.getElem?_setIfInBounds_self_of_lt (by omega)]
            rfl
          · rw [getD_set_ne true (by omega)]
            exact h2
      exact wpOp_of_qOp hC (fun a' w' hC' h' => any_shut hb ho hw fuel _ a' w' (by simp [hs]) hS2 hC' h') hq2

/-- THE WHOLE: the operations but the last one walked in the order of the text, each quiet in the class; then the last one, in any world of the class. -/
theorem wp_region_shut {id : Nat} {a : Act} {w : World} {l : List Oper} (H : List Oper) (o : Oper) (hl : l = H ++ [o]) (hm : P.follows .mixedOrders = true) (hB : Region.lexB .any H.toArray = true) (hB2 : lastAnyB .any H o = true) (hC : C { w with drawn := w.drawn + 1 })
    (h : wpQuiet P H.toArray C (fun a' => ∀ w', C w' → wpList P l.toArray Q [o] a' w') H a) : (Code.region id l.toArray true).wp P Q a w := by
  subst hl
  simp only [Region.lexB, Bool.and_eq_true] at hB
  obtain ⟨h1, h2, h3⟩ := lastAnyB_spec hB2
  refine wp_region_any hm ?_
  have k := wpAnyQ_lex (C := C) (md := .any) hB.1 H 0 (Array.replicate H.toArray.size false) a (by simp) (by simpa using hB.2) h
  have hS : ShutAny .any H (Array.replicate H.toArray.size false) := by
    intro j x hx hj
    exfalso
    have hjl : j < H.length := by
      rcases Nat.lt_or_ge j H.length with k | k
      · exact k
      · rw [List.getElem?_eq_none k] at hx; cases hx
    simp [Array.getD, hjl] at hj
  have k2 := any_shut h1 h2 h3 H.length (Array.replicate H.toArray.size false) a _ (by simp) hS hC k
  have e : (Array.replicate H.toArray.size false).push false = Array.replicate (H ++ [o]).toArray.size false := by
    simp [Array.replicate_succ]
  rw [e] at k2
  simpa using k2

/-- The same at the class of all worlds in whose old blocks nothing has turned. -/
theorem wp_region_kept_shut {P : Program} {Q : Exit → Act → World → Prop} {id : Nat} {a : Act} {w : World} {l : List Oper} (H : List Oper) (o : Oper) (hl : l = H ++ [o]) (hm : P.follows .mixedOrders = true) (hB : Region.lexB .any H.toArray = true) (hB2 : lastAnyB .any H o = true)
    (h : wpQuiet P H.toArray (fun w' => ∃ x : Kept w, w' = x.val) (fun a' => ∀ w', (∃ x : Kept w, w' = x.val) → wpList P l.toArray Q [o] a' w') H a) : (Code.region id l.toArray true).wp P Q a w :=
  wp_region_shut (C := fun w' => ∃ x : Kept w, w' = x.val) H o hl hm hB hB2 ⟨kept (Below.refl _ w).drew, rfl⟩ h
end Go.Proofs.Ytliedfjaeakgeaa
