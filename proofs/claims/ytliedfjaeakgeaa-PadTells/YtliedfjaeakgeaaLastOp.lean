/- A region that draws its order and whose last operation waits for all others: one walk of the others in the order of the text, each quiet in a class of worlds, and then the last one. No word of the program is in it. -/
import Derived.Test.YtliedfjaeakgeaaKit
import Derived.Test.YtliedfjaeakgeaaKept
import Derived.Deep.Quiet
namespace Go.Proofs.Ytliedfjaeakgeaa
open Go.RowKit
set_option linter.unusedVariables false

theorem push_low {L : Array Bool} {j : Nat} (h : j < L.size) (b d : Bool) : (L.push b).getD j d = L.getD j d := by
  rw [Array.getD_eq_getD_getElem?, Array.getD_eq_getD_getElem?, Array.getElem?_push_lt h, Array.getElem?_eq_getElem h]
theorem push_top {L : Array Bool} (b d : Bool) : (L.push b).getD L.size d = b := by
  rw [Array.getD_eq_getD_getElem?, Array.getElem?_push_size]
  rfl
theorem getD_any {L : Array Bool} {j : Nat} (h : j < L.size) (d e : Bool) : L.getD j d = L.getD j e := by
  rw [Array.getD_eq_getD_getElem?, Array.getD_eq_getD_getElem?, Array.getElem?_eq_getElem h]
  rfl

/-- What is asked of the region: each operation waits for earlier ones alone; none is guarded; the last one waits for all. -/
def lastB (md : Region.Mode) (H : List Oper) (o : Oper) : Bool :=
  (List.range H.length).all (fun i => match H[i]? with | some x => x.guard.isNone && x.after.all (fun e => !Region.binds md e || decide (e.on < i)) | none => true) &&
  o.after.all (fun e => decide (e.on < H.length)) && (List.range H.length).all (fun i => o.after.any fun e => Region.binds md e && e.on == i)

variable {P : Program} {md : Region.Mode} {C : World → Prop} {Q : Exit → Act → World → Prop} {H : List Oper} {o : Oper}

theorem lastB_spec (h : lastB md H o = true) : (∀ (i : Nat) (x : Oper), H[i]? = some x → x.guard = none ∧ ∀ e ∈ x.after, Region.binds md e = true → e.on < i) ∧ (∀ e ∈ o.after, e.on < H.length) ∧ ∀ i, i < H.length → ∃ e ∈ o.after, Region.binds md e = true ∧ e.on = i := by
  unfold lastB at h
  rw [Bool.and_eq_true, Bool.and_eq_true] at h
  obtain ⟨⟨h1, h2⟩, h3⟩ := h
  refine ⟨fun i x hx => ?_, fun e he => ?_, fun i hi => ?_⟩
  · have hi : i < H.length := by
      rcases Nat.lt_or_ge i H.length with k | k
      · exact k
      · rw [List.getElem?_eq_none k] at hx; cases hx
    have k := List.all_eq_true.1 h1 i (List.mem_range.2 hi)
    rw [hx] at k
    simp only [Bool.and_eq_true, Option.isNone_iff_eq_none] at k
    exact ⟨k.1, fun e he hb => by simpa [hb] using Array.all_eq_true'.1 k.2 e he⟩
  · simpa using Array.all_eq_true'.1 h2 e he
  · have k := List.all_eq_true.1 h3 i (List.mem_range.2 hi)
    obtain ⟨e, he, hb⟩ := Array.any_eq_true'.1 k
    simp only [Bool.and_eq_true, beq_iff_eq] at hb
    exact ⟨e, he, hb⟩

theorem ops_low {i : Nat} (h : i < H.length) : (H ++ [o]).toArray[i]? = H.toArray[i]? := by
  simp [List.getElem?_append_left h]
theorem ops_top : (H ++ [o]).toArray[H.length]? = some o := by simp

/-- Where none is ready all have come up. -/
theorem none_left (hb : ∀ (i : Nat) (x : Oper), H[i]? = some x → x.guard = none ∧ ∀ e ∈ x.after, Region.binds md e = true → e.on < i) {L : Array Bool} (hs : L.size = H.length) (h : Region.ready md H.toArray L = []) : ∀ i, i < H.length → L.getD i true = true := by
  intro i
  induction i using Nat.strongRecOn with
  | _ i ih =>
    intro hi
    cases k : L.getD i true with
    | true => rfl
    | false =>
      exfalso
      have hx : H[i]? = some H[i] := List.getElem?_eq_getElem hi
      have : i ∈ Region.ready md H.toArray L := mem_ready.2 ⟨k, H[i], by simp, fun e he hbe => by
        have h1 := (hb i H[i] hx).2 e he hbe
        rw [getD_any (by omega) false true]
        exact ih e.on h1 (by omega)⟩
      rw [h] at this
      cases this

theorem all_done {ops : Array Oper} {L : Array Bool} {a : Act} {w : World} (h : ∀ j, j < ops.size → L.getD j true = true) (hq : Q .normal a w) : ∀ f, wpAny P md ops Q f L a w := by
  have e : Region.ready md ops L = [] := by
    apply List.eq_nil_iff_forall_not_mem.2
    intro i hi
    obtain ⟨h1, x, h2, _⟩ := mem_ready.1 hi
    have h3 : i < ops.size := (Array.getElem?_eq_some_iff.1 h2).1
    rw [h i h3] at h1
    cases h1
  intro f
  cases f with
  | zero => exact ⟨e, hq⟩
  | succ f => exact ⟨fun _ => hq, fun i hi => by rw [e] at hi; cases hi⟩

theorem one_left (ho : ∀ e ∈ o.after, e.on < H.length) {L : Array Bool} (hs : L.size = H.length) (hL : ∀ i, i < H.length → L.getD i true = true) {a : Act} {w : World} (h : wpList P (H ++ [o]).toArray Q [o] a w) (f : Nat) :
    wpAny P md (H ++ [o]).toArray Q (f + 1) (L.push false) a w := by
  refine ⟨fun e => ?_, fun i hi => ?_⟩
  · exfalso
    have : H.length ∈ Region.ready md (H ++ [o]).toArray (L.push false) := mem_ready.2 ⟨by rw [← hs]; exact push_top _ _, o, ops_top, fun e he _ => by
      have h1 := ho e he
      rw [push_low (by omega), getD_any (by omega) false true]
      exact hL _ h1⟩
    rw [e] at this
    cases this
  · obtain ⟨h1, x, h2, _⟩ := mem_ready.1 hi
    have h3 : i < H.length + 1 := by simpa using (Array.getElem?_eq_some_iff.1 h2).1
    have hin : i = H.length := by
      rcases Nat.lt_or_ge i H.length with k | k
      · rw [push_low (by omega), hL i k] at h1; cases h1
      · omega
    subst hin
    have hw : wpOp P (H ++ [o]).toArray Q H.length (fun a w => Q .normal a w) a w := by
      unfold wpOp
      rw [ops_top]
      exact h
    refine wpOp_mono (fun a' w' hq => all_done (fun j hj => ?_) hq f) hw
    have hj' : j < H.length + 1 := by simpa using hj
    rcases Nat.lt_or_ge j H.length with k | k
    · rw [getD_set_ne true (by omega), push_low (by omega)]
      exact hL j k
    · have : j = H.length := by omega
      subst this
      rw [Array.getD_eq_getD_getElem?, Array.getElem?_setIfInBounds_self_of_lt (by simp [hs])]
      rfl

theorem any_last (hb : ∀ (i : Nat) (x : Oper), H[i]? = some x → x.guard = none ∧ ∀ e ∈ x.after, Region.binds md e = true → e.on < i) (ho : ∀ e ∈ o.after, e.on < H.length) (hw : ∀ i, i < H.length → ∃ e ∈ o.after, Region.binds md e = true ∧ e.on = i) :
    ∀ (fuel : Nat) (L : Array Bool) (a : Act) (w : World), L.size = H.length → C w → wpAnyQ P md H.toArray C (fun a => ∀ w, C w → wpList P (H ++ [o]).toArray Q [o] a w) fuel L a →
      wpAny P md (H ++ [o]).toArray Q (fuel + 1) (L.push false) a w
  | 0, L, a, w, hs, hC, h => one_left ho hs (none_left hb hs h.1) (h.2 w hC) 0
  | fuel + 1, L, a, w, hs, hC, h => by
    by_cases e : Region.ready md H.toArray L = []
    · exact one_left ho hs (none_left hb hs e) (h.1 e w hC) (fuel + 1)
    · obtain ⟨i0, hi0⟩ := List.exists_mem_of_ne_nil _ e
      obtain ⟨u0, x0, y0, z0⟩ := mem_ready.1 hi0
      have l0 : i0 < H.length := by simpa using (Array.getElem?_eq_some_iff.1 y0).1
      have r0 : i0 ∈ Region.ready md (H ++ [o]).toArray (L.push false) := mem_ready.2 ⟨by rw [push_low (by omega)]; exact u0, x0, by rw [ops_low l0]; exact y0, fun e he hbi => by
        have h1 := (hb i0 x0 (by simpa using y0)).2 e he hbi
        rw [push_low (by omega)]
        exact z0 e he hbi⟩
      refine ⟨fun e1 => (by rw [e1] at r0; cases r0), fun i hi => ?_⟩
      obtain ⟨u, x, y, z⟩ := mem_ready.1 hi
      have h3 : i < H.length + 1 := by simpa using (Array.getElem?_eq_some_iff.1 y).1
      have hin : i < H.length := by
        rcases Nat.lt_or_ge i H.length with k | k
        · exact k
        · exfalso
          have : i = H.length := by omega
          subst this
          rw [ops_top] at y
          cases y
          obtain ⟨e2, he2, hb2, on2⟩ := hw i0 l0
          have h4 := z e2 he2 hb2
          rw [on2, push_low (by omega), getD_any (by omega) false true, u0] at h4
          cases h4
      rw [ops_low hin] at y
      have hx : H[i]? = some x := by simpa using y
      have hr : i ∈ Region.ready md H.toArray L := mem_ready.2 ⟨by rw [push_low (by omega)] at u; exact u, x, y, fun e he hbi => by
        have h1 := (hb i x hx).2 e he hbi
        have h2 := z e he hbi
        rw [push_low (by omega)] at h2
        exact h2⟩
      have hq := h.2 i hr
      have hq2 : qOp P (H ++ [o]).toArray C i (wpAnyQ P md H.toArray C (fun a => ∀ w, C w → wpList P (H ++ [o]).toArray Q [o] a w) fuel (L.setIfInBounds i true)) a := by
        unfold qOp at hq ⊢
        rw [ops_low hin]
        rw [y] at hq ⊢
        simp only [Region.wanted, (hb i x hx).1, if_true] at hq ⊢
        exact hq
      have hset : (L.push false).setIfInBounds i true = (L.setIfInBounds i true).push false := by
        apply Array.ext_getElem?
        intro j
        rw [Array.getElem?_setIfInBounds, Array.getElem?_push, Array.getElem?_push, Array.getElem?_setIfInBounds]
        simp only [Array.size_push, Array.size_setIfInBounds]
        by_cases hij : i = j
        · subst hij
          rw [if_pos rfl, if_pos (by omega), if_neg (by omega), if_pos rfl, if_pos (by omega)]
        · rw [if_neg hij, if_neg hij]
      rw [hset]
      exact wpOp_of_qOp hC (fun a' w' hC' h' => any_last hb ho hw fuel _ a' w' (by simp [hs]) hC' h') hq2

/-- THE WHOLE: the operations but the last one walked in the order of the text, each quiet in the class; then the last one, in any world of the class. -/
theorem wp_region_last {id : Nat} {a : Act} {w : World} {l : List Oper} (H : List Oper) (o : Oper) (hl : l = H ++ [o]) (hm : P.follows .mixedOrders = true) (hB : Region.lexB .any H.toArray = true) (hB2 : lastB .any H o = true) (hC : C { w with drawn := w.drawn + 1 })
    (h : wpQuiet P H.toArray C (fun a' => ∀ w', C w' → wpList P l.toArray Q [o] a' w') H a) : (Code.region id l.toArray true).wp P Q a w := by
  subst hl
  simp only [Region.lexB, Bool.and_eq_true] at hB
  obtain ⟨h1, h2, h3⟩ := lastB_spec hB2
  refine wp_region_any hm ?_
  have k := wpAnyQ_lex (C := C) (md := .any) hB.1 H 0 (Array.replicate H.toArray.size false) a (by simp) (by simpa using hB.2) h
  have k2 := any_last h1 h2 h3 H.length (Array.replicate H.toArray.size false) a _ (by simp) hC k
  have e : (Array.replicate H.toArray.size false).push false = Array.replicate (H ++ [o]).toArray.size false := by
    simp [Array.replicate_succ]
  rw [e] at k2
  simpa using k2

/-- The same at the class of all worlds in whose old blocks nothing has turned. -/
theorem wp_region_kept_last {P : Program} {Q : Exit → Act → World → Prop} {id : Nat} {a : Act} {w : World} {l : List Oper} (H : List Oper) (o : Oper) (hl : l = H ++ [o]) (hm : P.follows .mixedOrders = true) (hB : Region.lexB .any H.toArray = true) (hB2 : lastB .any H o = true)
    (h : wpQuiet P H.toArray (fun w' => ∃ x : Kept w, w' = x.val) (fun a' => ∀ w', (∃ x : Kept w, w' = x.val) → wpList P l.toArray Q [o] a' w') H a) : (Code.region id l.toArray true).wp P Q a w :=
  wp_region_last (C := fun w' => ∃ x : Kept w, w' = x.val) H o hl hm hB hB2 ⟨kept (Below.refl _ w).drew, rfl⟩ h
end Go.Proofs.Ytliedfjaeakgeaa
