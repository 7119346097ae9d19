/- A region that draws its order, makes a variable and stores a struct into it, while calls make memory of their own ('x, n := f(y, g(y))'): the other operations walked once, in the order of the text; the variable may be made ahead of any of them. No word of the program is in it. -/
import Derived.Test.YtliedfjaeakgeaaLastOp
import Derived.Laws.Rows
import Derived.Laws.Tables
import Derived.Laws.CopyOwn
namespace Go.Proofs.Ytliedfjaeakgeaa
open Go.RowKit
set_option linter.unusedVariables false

/-- The worlds in whose old blocks nothing has turned. -/
def KC (W : World) : World → Prop := fun w' => ∃ x : Kept W, w' = x.val
theorem kc_self (W : World) : KC W W := ⟨kept (Below.refl _ W), rfl⟩
theorem kc_below {W w : World} (h : KC W w) : Below W.heap.size W w := by obtain ⟨x, rfl⟩ := h; exact x.below

variable {P : Program} {md : Region.Mode} {H : List Oper} {C : World → Prop} {A1 : Act} {wa : World}

theorem unset {L : Array Bool} {i j : Nat} (h : (L.setIfInBounds i true).getD j true = false) : L.getD j true = false ∧ j ≠ i := by
  by_cases e : i = j
  · subst e
    exfalso
    rcases Nat.lt_or_ge i L.size with k | k
    · rw [Array.getD_eq_getD_getElem?, Array.getElem?_setIfInBounds_self_of_lt k] at h
      cases h
    · rw [Array.getD_eq_getD_getElem?, Array.getElem?_eq_none (by simpa using k)] at h
      cases h
  · exact ⟨by rwa [getD_set_ne true e] at h, fun k => e k.symm⟩

/-- A slot that no operation writes that is still to come is in the end what it is now. -/
theorem slot_kept (d : Tmp) : ∀ (fuel : Nat) (L : Array Bool) (a : Act), (∀ (j : Nat) (o : Oper), H[j]? = some o → L.getD j true = false → o.dst ≠ some d) →
    wpAnyQ P md H.toArray C (fun a => a = A1) fuel L a → A1.eval (.tmp d) = a.eval (.tmp d)
  | 0, L, a, hd, h => by rw [← h.2]
  | fuel + 1, L, a, hd, h => by
    by_cases e : Region.ready md H.toArray L = []
    · rw [← h.1 e]
    · obtain ⟨i, hi⟩ := List.exists_mem_of_ne_nil _ e
      obtain ⟨u, o, ho, _⟩ := mem_ready.1 hi
      have ho' : H[i]? = some o := by simpa using ho
      obtain ⟨v, _, hv⟩ := yieldsIn_of_qOp ho (h.2 i hi)
      have k := slot_kept d fuel _ _ (fun j x hx hj => hd j x hx (unset hj).1) hv
      rw [k]
      exact Act.eval_put fun d' hd' e2 => hd i o ho' u (by rw [hd']; cases e2; rfl)

/-- The walk of all orders, whatever world it begins in. -/
def Fam (P : Program) (md : Region.Mode) (H : List Oper) (A1 : Act) (wa : World) (fuel : Nat) (L : Array Bool) (a : Act) : Prop :=
  ∀ W, Below wa.heap.size wa W → wpAnyQ P md H.toArray (KC W) (fun a => a = A1) fuel L a

/-- What is asked of the operations: none is guarded or a select, each has a slot of its own, none reads or writes slot dA, each waits for earlier ones alone. -/
def ownB (md : Region.Mode) (H : List Oper) (N : Nat) (dA : Tmp) : Bool :=
  (List.range H.length).all fun i => match H[i]? with
    | none => true
    | some o => o.guard.isNone && (match o.op with | .select _ _ => false | _ => true) && !(o.looksAt H.toArray).contains dA && o.after.all (fun e => !Region.binds md e || decide (e.on < i)) &&
      (match o.dst with | none => false | some d => decide (d < N) && decide (d ≠ dA) && (List.range H.length).all fun j => decide (j = i) || (match H[j]? with | none => true | some x => decide (x.dst ≠ some d)))
theorem ownB_spec {N : Nat} {dA : Tmp} (h : ownB md H N dA = true) {i : Nat} {o : Oper} (ho : H[i]? = some o) :
    o.guard = none ∧ (∀ cs b, o.op ≠ .select cs b) ∧ dA ∉ o.looksAt H.toArray ∧ (∀ e ∈ o.after, Region.binds md e = true → e.on < i) ∧ ∃ d, o.dst = some d ∧ d < N ∧ d ≠ dA ∧ ∀ (j : Nat) (x : Oper), H[j]? = some x → j ≠ i → x.dst ≠ some d := by
  have hi : i < H.length := by
    rcases Nat.lt_or_ge i H.length with k | k
    · exact k
    · rw [List.getElem?_eq_none k] at ho; cases ho
  have k := List.all_eq_true.1 h i (List.mem_range.2 hi)
  rw [ho] at k
  simp only [Bool.and_eq_true, Option.isNone_iff_eq_none] at k
  obtain ⟨⟨⟨⟨k1, k2⟩, k3⟩, k4⟩, k5⟩ := k
  refine ⟨k1, fun cs b e => ?_, by simpa using k3, fun e he hb => ?_, ?_⟩
  · rw [e] at k2; cases k2
  · have := Array.all_eq_true'.1 k4 e he
    simpa [hb] using this
  · split at k5
    · cases k5
    · rename_i d hd
      simp only [Bool.and_eq_true, decide_eq_true_eq] at k5
      refine ⟨d, hd, k5.1.1, k5.1.2, fun j x hx hji => ?_⟩
      have hj : j < H.length := by
        rcases Nat.lt_or_ge j H.length with k | k
        · exact k
        · rw [List.getElem?_eq_none k] at hx; cases hx
      have k6 := List.all_eq_true.1 k5.2 j (List.mem_range.2 hj)
      rw [hx] at k6
      simpa [hji] using k6

theorem put_size (a : Act) (d : Option Tmp) (v : Value) : (a.put d v).tmps.size = a.tmps.size := by cases d <;> simp [Act.put]
theorem put_eval (a : Act) (d : Tmp) (v : Value) (h : d < a.tmps.size) : (a.put (some d) v).eval (.tmp d) = v := by
  simp [Act.eval, Act.put, h]

theorem fam_step {N : Nat} {dA : Tmp} (hO : ownB md H N dA = true) {fuel : Nat} {L : Array Bool} {a : Act} {i : Nat} {o : Oper} (hi : i ∈ Region.ready md H.toArray L) (ho : H[i]? = some o) (hF : Fam P md H A1 wa (fuel + 1) L a) (hN : a.tmps.size = N) :
    ∃ v, (∀ W, Below wa.heap.size wa W → ∀ w, KC W w → o.quietAt P a (KC W) w v) ∧ Fam P md H A1 wa fuel (L.setIfInBounds i true) (a.put o.dst v) := by
  obtain ⟨g0, g1, g2, g3, d, hd, hdN, hdA, hdj⟩ := ownB_spec hO ho
  have hoa : H.toArray[i]? = some o := by simpa using ho
  have key : ∀ W, Below wa.heap.size wa W → (∀ w, KC W w → o.quietAt P a (KC W) w (A1.eval (.tmp d))) ∧ wpAnyQ P md H.toArray (KC W) (fun a => a = A1) fuel (L.setIfInBounds i true) (a.put o.dst (A1.eval (.tmp d))) := by
    intro W hW
    obtain ⟨v, hy, hv⟩ := yieldsIn_of_qOp hoa ((hF W hW).2 i hi)
    have e := slot_kept d fuel _ _ (fun j x hx hj => hdj j x hx (unset hj).2) hv
    rw [hd, put_eval a d v (by rw [hN]; exact hdN)] at e
    subst e
    rcases hy with ⟨_, hy⟩ | ⟨hy, _⟩
    · exact ⟨hy, hv⟩
    · simp [Region.wanted, g0] at hy
  exact ⟨_, fun W hW => (key W hW).1, fun W hW => (key W hW).2⟩

/-! ### The variable: not made yet; made, and what its block holds -/
def actS (dA : Tmp) : Option (Nat × Array Value) → Act → Act
  | none, a => a
  | some (g, _), a => a.put (some dA) (.pointer (some ⟨g, 0, none⟩))
def inS (wa : World) (t : TypeId) : Option (Nat × Array Value) → World → Prop
  | none, w => Below wa.heap.size wa w
  | some (g, cs), w => Below wa.heap.size wa w ∧ w.heap[g]? = some (.cells cs t (0, 0)) ∧ wa.heap.size ≤ g
theorem inS.below {t : TypeId} {s : Option (Nat × Array Value)} {w : World} (h : inS wa t s w) : Below wa.heap.size wa w := by
  match s, h with
  | none, h => exact h
  | some (g, cs), h => exact h.1
theorem inS.next {t : TypeId} {s : Option (Nat × Array Value)} {w w' : World} (h : inS wa t s w) (k : Below w.heap.size w w') : inS wa t s w' := by
  match s, h with
  | none, h => exact bnext h k
  | some (g, cs), h => exact ⟨bnext h.1 k, (k.block g (lt_of_block h.2.1)).trans h.2.1, h.2.2⟩
theorem actS_put (dA : Tmp) (s : Option (Nat × Array Value)) (a : Act) (d : Option Tmp) (v : Value) (h : d ≠ some dA) : (actS dA s a).put d v = actS dA s (a.put d v) := by
  match s with
  | none => rfl
  | some (g, cs) => exact Act.put_comm a _ v fun d' e => by cases e; exact h
theorem step_low {ops : Array Oper} {Q : Exit → Act → World → Prop} {N : Nat} {dA : Tmp} (hO : ownB md H N dA = true) {fuel : Nat} {L : Array Bool} {a : Act} {i : Nat} {o : Oper} (hi : i ∈ Region.ready md H.toArray L) (ho : H[i]? = some o) (hoo : ops[i]? = some o)
    (hF : Fam P md H A1 wa (fuel + 1) L a) (hN : a.tmps.size = N) {t : TypeId} {s : Option (Nat × Array Value)} {w : World} (hin : inS wa t s w) {K : Act → World → Prop}
    (hK : ∀ v w', inS wa t s w' → Fam P md H A1 wa fuel (L.setIfInBounds i true) (a.put o.dst v) → K (actS dA s (a.put o.dst v)) w') : wpOp P ops Q i K (actS dA s a) w := by
  obtain ⟨g0, g1, g2, g3, d, hd, hdN, hdA, hdj⟩ := ownB_spec hO ho
  obtain ⟨v, hq, hF'⟩ := fam_step hO hi ho hF hN
  unfold wpOp
  rw [hoo]
  simp only [Region.wanted, g0, if_true]
  refine .inl (Oper.wp_of_quiet (C := KC w) (K := fun a' => a' = (actS dA s a).put o.dst v) (kc_self w) (fun a' w' hc e => ?_) ⟨v, fun w1 h1 => ?_, rfl⟩)
  · subst e
    rw [actS_put dA s a o.dst v (by rw [hd]; intro e; cases e; exact hdA rfl)]
    exact hK v w' (hin.next (kc_below hc)) hF'
  · have k := hq w hin.below w1 h1
    unfold Oper.quietAt at *
    have e : execOp (actS dA s a).eval o = execOp a.eval o := by
      match s with
      | none => rfl
      | some (g, cs) => exact execOp_put (ops := H.toArray) o g1 a (some dA) _ (fun d' e => by cases e; exact g2)
    rw [e]
    exact k

/-! ### What has come up, and what may -/
theorem push_cell {L : Array Bool} {i : Nat} (h : i < L.size) (b : Bool) : (L.push b).setIfInBounds i true = (L.setIfInBounds i true).push b := by
  apply Array.ext_getElem?
  intro j
  rw [Array.getElem?_setIfInBounds, Array.getElem?_push, Array.getElem?_push, Array.getElem?_setIfInBounds]
  simp only [Array.size_push, Array.size_setIfInBounds]
  by_cases hij : i = j
  · subst hij
    rw [if_pos rfl, if_pos (by omega), if_neg (by omega), if_pos rfl, if_pos (by omega)]
  · rw [if_neg hij, if_neg hij]
theorem push_cell_top {L : Array Bool} (b : Bool) : (L.push b).setIfInBounds L.size true = L.push true := by
  apply Array.ext_getElem?
  intro j
  rw [Array.getElem?_setIfInBounds, Array.getElem?_push, Array.getElem?_push]
  by_cases hij : L.size = j
  · subst hij
    simp
  · rw [if_neg hij, if_neg (fun e => hij e.symm), if_neg (fun e => hij e.symm)]
/-- The listing: of H, of the variable's making, of the store, of the last one. -/
def lst (L : Array Bool) (x y : Bool) : Array Bool := ((L.push x).push y).push false
theorem lst_low {L : Array Bool} {x y : Bool} {j : Nat} (h : j < L.size) (d : Bool) : (lst L x y).getD j d = L.getD j d := by
  unfold lst
  rw [push_low (by simp; omega), push_low (by simp; omega), push_low h]
theorem lst_a {L : Array Bool} {x y : Bool} (d : Bool) : (lst L x y).getD L.size d = x := by
  unfold lst
  rw [push_low (by simp; omega), push_low (by simp), push_top]
theorem lst_s {L : Array Bool} {x y : Bool} (d : Bool) : (lst L x y).getD (L.size + 1) d = y := by
  unfold lst
  rw [push_low (by simp)]
  have := push_top (L := L.push x) y d
  simpa using this
theorem lst_set {L : Array Bool} {x y : Bool} {i : Nat} (h : i < L.size) : (lst L x y).setIfInBounds i true = lst (L.setIfInBounds i true) x y := by
  unfold lst
  rw [push_cell (by simp; omega), push_cell (by simp; omega), push_cell h]
theorem lst_set_a {L : Array Bool} {x y : Bool} : (lst L x y).setIfInBounds L.size true = lst L true y := by
  unfold lst
  rw [push_cell (by simp; omega), push_cell (by simp), push_cell_top]
theorem lst_set_s {L : Array Bool} {x y : Bool} : (lst L x y).setIfInBounds (L.size + 1) true = lst L x true := by
  unfold lst
  rw [push_cell (by simp)]
  have := push_cell_top (L := L.push x) y
  simp at this
  rw [this]

variable {oA oS oF : Oper} {N : Nat} {dA : Tmp}
theorem three_low {i : Nat} (h : i < H.length) : ((H ++ [oA, oS]) ++ [oF]).toArray[i]? = H.toArray[i]? := by
  simp [List.getElem?_append_left h]
theorem three_a : ((H ++ [oA, oS]) ++ [oF]).toArray[H.length]? = some oA := by simp
theorem three_s : ((H ++ [oA, oS]) ++ [oF]).toArray[H.length + 1]? = some oS := by simp
theorem three_f : ((H ++ [oA, oS]) ++ [oF]).toArray[H.length + 2]? = some oF := by simp
theorem ready_down (hO : ownB md H N dA = true) {L : Array Bool} {x y : Bool} (hs : L.size = H.length) {i : Nat} (h : i < H.length) (k : i ∈ Region.ready md ((H ++ [oA, oS]) ++ [oF]).toArray (lst L x y)) : i ∈ Region.ready md H.toArray L := by
  obtain ⟨u, o, ho, hall⟩ := mem_ready.1 k
  rw [three_low h] at ho
  have ho' : H[i]? = some o := by simpa using ho
  rw [lst_low (by omega)] at u
  exact mem_ready.2 ⟨u, o, ho, fun e he hb => by
    have h1 := (ownB_spec hO ho').2.2.2.1 e he hb
    have h2 := hall e he hb
    rwa [lst_low (by omega)] at h2⟩
theorem ready_up (hO : ownB md H N dA = true) {L : Array Bool} {x y : Bool} (hs : L.size = H.length) {i : Nat} (k : i ∈ Region.ready md H.toArray L) : i ∈ Region.ready md ((H ++ [oA, oS]) ++ [oF]).toArray (lst L x y) := by
  obtain ⟨u, o, ho, hall⟩ := mem_ready.1 k
  have ho' : H[i]? = some o := by simpa using ho
  have h : i < H.length := by
    rcases Nat.lt_or_ge i H.length with k | k
    · exact k
    · rw [List.getElem?_eq_none k] at ho'; cases ho'
  exact mem_ready.2 ⟨by rw [lst_low (by omega)]; exact u, o, by rw [three_low h]; exact ho, fun e he hb => by
    have h1 := (ownB_spec hO ho').2.2.2.1 e he hb
    rw [lst_low (by omega)]
    exact hall e he hb⟩
/-- Where none is ready all have come up. -/
theorem low_done (hO : ownB md H N dA = true) {L : Array Bool} (hs : L.size = H.length) (h : Region.ready md H.toArray L = []) : ∀ i, i < H.length → L.getD i true = true := by
  intro i
  induction i using Nat.strongRecOn with
  | _ i ih =>
    intro hi
    cases k : L.getD i true with
    | true => rfl
    | false =>
      exfalso
      have hx : H[i]? = some H[i] := List.getElem?_eq_getElem hi
      have : i ∈ Region.ready md H.toArray L := mem_ready.2 ⟨k, H[i], by simp, fun e he hb => by
        have h1 := (ownB_spec hO hx).2.2.2.1 e he hb
        rw [getD_any (by omega) false true]
        exact ih e.on h1 (by omega)⟩
      rw [h] at this
      cases this

/-- What is asked of the last three: the first waits for none; the store waits for it and for what it stores; the last one for all. -/
def tailB (md : Region.Mode) (H : List Oper) (oA oS oF : Oper) (dA x : Tmp) : Bool :=
  (oA.guard.isNone && decide (oA.dst = some dA)) && (oS.guard.isNone && decide (oS.dst = none) && decide (x ≠ dA)) &&
  (oS.after.all (fun e => !Region.binds md e || decide (e.on ≤ H.length)) && oS.after.any (fun e => Region.binds md e && e.on == H.length)) &&
  ((List.range H.length).all fun j => match H[j]? with | some o => decide (o.dst ≠ some x) || oS.after.any (fun e => Region.binds md e && e.on == j) | none => true) &&
  (oF.after.all (fun e => decide (e.on < H.length + 2)) && (List.range (H.length + 2)).all fun i => oF.after.any fun e => Region.binds md e && e.on == i)
theorem any_on {l : Array Edge} {i : Nat} (h : (l.any fun e => Region.binds md e && e.on == i) = true) : ∃ e ∈ l, Region.binds md e = true ∧ e.on = i := by
  obtain ⟨e, he, hb⟩ := Array.any_eq_true'.1 h
  simp only [Bool.and_eq_true, beq_iff_eq] at hb
  exact ⟨e, he, hb⟩
theorem tailB_spec {x : Tmp} (h : tailB md H oA oS oF dA x = true) :
    (oA.guard = none ∧ oA.dst = some dA) ∧ (oS.guard = none ∧ oS.dst = none ∧ x ≠ dA) ∧ (∀ e ∈ oS.after, Region.binds md e = true → e.on ≤ H.length) ∧ (∃ e ∈ oS.after, Region.binds md e = true ∧ e.on = H.length) ∧
      (∀ (j : Nat) (o : Oper), H[j]? = some o → o.dst = some x → ∃ e ∈ oS.after, Region.binds md e = true ∧ e.on = j) ∧ (∀ e ∈ oF.after, e.on < H.length + 2) ∧ ∀ i, i < H.length + 2 → ∃ e ∈ oF.after, Region.binds md e = true ∧ e.on = i := by
  unfold tailB at h
  simp only [Bool.and_eq_true, Option.isNone_iff_eq_none, decide_eq_true_eq] at h
  obtain ⟨⟨⟨⟨h1, h2⟩, h3, h4⟩, h5⟩, h6, h7⟩ := h
  refine ⟨h1, ⟨h2.1.1, h2.1.2, h2.2⟩, fun e he hb => ?_, any_on h4, fun j o ho hx => ?_, fun e he => ?_, fun i hi => ?_⟩
  · have := Array.all_eq_true'.1 h3 e he
    simpa [hb] using this
  · have hj : j < H.length := by
      rcases Nat.lt_or_ge j H.length with k | k
      · exact k
      · rw [List.getElem?_eq_none k] at ho; cases ho
    have k := List.all_eq_true.1 h5 j (List.mem_range.2 hj)
    rw [ho] at k
    simp only [Bool.or_eq_true, decide_eq_true_eq] at k
    rcases k with k | k
    · exact absurd hx k
    · exact any_on k
  · simpa using Array.all_eq_true'.1 h6 e he
  · exact any_on (List.all_eq_true.1 h7 i (List.mem_range.2 hi))

theorem parts_of {L : Array Bool} {x y : Bool} (hs : L.size = H.length) {i : Nat} (k : i ∈ Region.ready md ((H ++ [oA, oS]) ++ [oF]).toArray (lst L x y)) :
    i < H.length ∨ (i = H.length ∧ x = false) ∨ (i = H.length + 1 ∧ y = false) ∨ i = H.length + 2 := by
  obtain ⟨u, o, ho, _⟩ := mem_ready.1 k
  have h3 : i < H.length + 3 := by simpa using (Array.getElem?_eq_some_iff.1 ho).1
  rcases Nat.lt_or_ge i H.length with h | h
  · exact .inl h
  · by_cases e : i = H.length
    · subst e
      rw [← hs, lst_a] at u
      exact .inr (.inl ⟨rfl, u⟩)
    · by_cases e2 : i = H.length + 1
      · subst e2
        rw [← hs, lst_s] at u
        exact .inr (.inr (.inl ⟨rfl, u⟩))
      · exact .inr (.inr (.inr (by omega)))
theorem last_waits {x : Tmp} (hT : tailB md H oA oS oF dA x = true) {L : Array Bool} {p q : Bool} (k : H.length + 2 ∈ Region.ready md ((H ++ [oA, oS]) ++ [oF]).toArray (lst L p q)) : ∀ i, i < H.length + 2 → (lst L p q).getD i false = true := by
  obtain ⟨u, o, ho, hall⟩ := mem_ready.1 k
  rw [three_f] at ho
  cases ho
  intro i hi
  obtain ⟨e, he, hb, on⟩ := (tailB_spec hT).2.2.2.2.2.2 i hi
  rw [← on]
  exact hall e he hb
theorem fam_end {fuel : Nat} {L : Array Bool} {a : Act} (hF : Fam P md H A1 wa fuel L a) (e : Region.ready md H.toArray L = []) : a = A1 := by
  have h := hF wa (Below.refl _ _)
  cases fuel with
  | zero => exact h.2
  | succ f => exact h.1 e
theorem fam_more {fuel : Nat} {L : Array Bool} {a : Act} (hF : Fam P md H A1 wa fuel L a) {i : Nat} (e : i ∈ Region.ready md H.toArray L) : ∃ f, fuel = f + 1 := by
  have h := hF wa (Below.refl _ _)
  cases fuel with
  | zero => rw [h.1] at e; cases e
  | succ f => exact ⟨f, rfl⟩

variable {Q : Exit → Act → World → Prop} {t : TypeId} {x : Tmp}
theorem stage2 {g : Nat} {row : Array Value} (hO : ownB md H N dA = true) (hT : tailB md H oA oS oF dA x = true)
    (hEnd : ∀ w, inS wa t (some (g, row)) w → wpList P ((H ++ [oA, oS]) ++ [oF]).toArray Q [oF] (actS dA (some (g, row)) A1) w) :
    ∀ (fuel : Nat) (L : Array Bool) (a : Act) (w : World), L.size = H.length → a.tmps.size = N → inS wa t (some (g, row)) w → Fam P md H A1 wa fuel L a →
      wpAny P md ((H ++ [oA, oS]) ++ [oF]).toArray Q (fuel + 1) (lst L true true) (actS dA (some (g, row)) a) w := by
  intro fuel
  induction fuel with
  | zero =>
    intro L a w hs hN hin hF
    have e : Region.ready md H.toArray L = [] := (hF wa (Below.refl _ _)).1
    have hall := low_done hO hs e
    have hA := fam_end hF e
    subst hA
    exact one_left (H := H ++ [oA, oS]) (o := oF) (by simpa using (tailB_spec hT).2.2.2.2.2.1) (by simp [hs]) (fun i hi => by
      have hi' : i < H.length + 2 := by simpa using hi
      have k : (lst L true true).getD i true = true := by
        by_cases h1 : i < H.length
        · rw [lst_low (by omega)]; exact hall i h1
        · by_cases h2 : i = H.length
          · subst h2; rw [← hs]; exact lst_a true
          · have h3 : i = H.length + 1 := by omega
            subst h3; rw [← hs]; exact lst_s true
      unfold lst at k
      rwa [push_low (by simp [hs]; omega)] at k) (hEnd w hin) 0
  | succ fuel ih =>
    intro L a w hs hN hin hF
    by_cases e : Region.ready md H.toArray L = []
    · have hall := low_done hO hs e
      have hA := fam_end hF e
      subst hA
      exact one_left (H := H ++ [oA, oS]) (o := oF) (by simpa using (tailB_spec hT).2.2.2.2.2.1) (by simp [hs]) (fun i hi => by
        have hi' : i < H.length + 2 := by simpa using hi
        have k : (lst L true true).getD i true = true := by
          by_cases h1 : i < H.length
          · rw [lst_low (by omega)]; exact hall i h1
          · by_cases h2 : i = H.length
            · subst h2; rw [← hs]; exact lst_a true
            · have h3 : i = H.length + 1 := by omega
              subst h3; rw [← hs]; exact lst_s true
        unfold lst at k
        rwa [push_low (by simp [hs]; omega)] at k) (hEnd w hin) (fuel + 1)
    · obtain ⟨i0, hi0⟩ := List.exists_mem_of_ne_nil _ e
      refine ⟨fun e1 => ?_, fun i hi => ?_⟩
      · have := ready_up (oA := oA) (oS := oS) (oF := oF) (x := true) (y := true) hO hs hi0
        rw [e1] at this
        cases this
      · rcases parts_of hs hi with h | ⟨_, h⟩ | ⟨_, h⟩ | h
        · have hr := ready_down hO hs h hi
          obtain ⟨u, o, ho, _⟩ := mem_ready.1 hr
          have ho' : H[i]? = some o := by simpa using ho
          refine step_low hO hr ho' (by rw [three_low h]; exact ho) hF hN hin fun v w' hin' hF' => ?_
          rw [lst_set (by omega)]
          exact ih _ _ _ (by simpa using hs) (by rw [put_size]; exact hN) hin' hF'
        · cases h
        · cases h
        · subst h
          exfalso
          obtain ⟨u0, o0, ho0, _⟩ := mem_ready.1 hi0
          have l0 : i0 < H.length := by simpa using (Array.getElem?_eq_some_iff.1 ho0).1
          have k := last_waits hT hi i0 (by omega)
          rw [lst_low (by omega), getD_any (by omega) false true, u0] at k
          cases k

theorem stage1 {g : Nat} {zs row : Array Value} {ty : TypeId} (hO : ownB md H N dA = true) (hT : tailB md H oA oS oF dA x = true) (hop : oS.op = .store ty (.tmp dA) (.tmp x)) (hi : (P.info? ty).map (·.size) = some row.size) (hold : zs.size = row.size) (h1 : row.all (·.oneCell') = true)
    (hx : A1.eval (.tmp x) = .agg row) (hdN : dA < N)
    (hEnd : ∀ w, inS wa t (some (g, row)) w → wpList P ((H ++ [oA, oS]) ++ [oF]).toArray Q [oF] (actS dA (some (g, row)) A1) w) :
    ∀ (fuel : Nat) (L : Array Bool) (a : Act) (w : World), L.size = H.length → a.tmps.size = N → inS wa t (some (g, zs)) w → Fam P md H A1 wa fuel L a →
      wpAny P md ((H ++ [oA, oS]) ++ [oF]).toArray Q (fuel + 2) (lst L true false) (actS dA (some (g, zs)) a) w := by
  obtain ⟨⟨a1, a2⟩, ⟨s1, s2, s3⟩, s4, s5, s6, f1, f2⟩ := tailB_spec hT
  intro fuel
  induction fuel using Nat.strongRecOn with
  | _ fuel ih =>
    intro L a w hs hN hin hF
    refine ⟨fun e1 => ?_, fun i hi' => ?_⟩
    · exfalso
      by_cases e : Region.ready md H.toArray L = []
      · have hall := low_done hO hs e
        have : H.length + 1 ∈ Region.ready md ((H ++ [oA, oS]) ++ [oF]).toArray (lst L true false) := mem_ready.2 ⟨by rw [← hs]; exact lst_s true, oS, three_s, fun e he hb => by
          have k := s4 e he hb
          rcases Nat.lt_or_ge e.on H.length with k2 | k2
          · rw [lst_low (by omega), getD_any (by omega) false true]; exact hall _ k2
          · have k3 : e.on = L.size := by omega
            rw [k3]; exact lst_a false⟩
        rw [e1] at this
        cases this
      · obtain ⟨i0, hi0⟩ := List.exists_mem_of_ne_nil _ e
        have := ready_up (oA := oA) (oS := oS) (oF := oF) (x := true) (y := false) hO hs hi0
        rw [e1] at this
        cases this
    · rcases parts_of hs hi' with h | ⟨_, h⟩ | ⟨h, _⟩ | h
      · have hr := ready_down hO hs h hi'
        obtain ⟨u, o, ho, _⟩ := mem_ready.1 hr
        have ho' : H[i]? = some o := by simpa using ho
        obtain ⟨f, rfl⟩ := fam_more hF hr
        refine step_low hO hr ho' (by rw [three_low h]; exact ho) hF hN hin fun v w' hin' hF' => ?_
        rw [lst_set (by omega)]
        exact ih f (by omega) _ _ _ (by simpa using hs) (by rw [put_size]; exact hN) hin' hF'
      · cases h
      · subst h
        obtain ⟨u, o, ho, hall⟩ := mem_ready.1 hi'
        unfold wpOp
        rw [three_s]
        simp only [Region.wanted, s1, if_true]
        have ex : a.eval (.tmp x) = .agg row := by
          rw [← hx]
          refine (slot_kept x fuel L a (fun j p hp hj hd => ?_) (hF wa (Below.refl _ _))).symm
          rw [three_s] at ho
          cases ho
          obtain ⟨e, he, hb, on⟩ := s6 j p hp hd
          have k := hall e he hb
          have hjl : j < H.length := by
            rcases Nat.lt_or_ge j H.length with k | k
            · exact k
            · rw [List.getElem?_eq_none k] at hp; cases hp
          rw [on, lst_low (by omega), getD_any (by omega) false true, hj] at k
          cases k
        refine .inl (wp_store_row ty (.tmp dA) (.tmp x) hop g row (put_eval a dA _ (by rw [hN]; exact hdN)) ?_ t zs hin.2.1 hi hold h1 ?_)
        · show (a.put (some dA) _).eval (.tmp x) = _
          rw [Act.eval_put (fun d e e2 => by cases e; cases e2; exact s3 rfl)]
          exact ex
        · rw [s2, ← hs, lst_set_s]
          exact stage2 hO hT hEnd fuel L a _ hs hN ⟨below_setRow hin.1 hin.2.2 _, setRow_heap _ _ _ _ _ _ hin.2.1, hin.2.2⟩ hF
      · subst h
        exfalso
        have k := last_waits hT hi' (H.length + 1) (by omega)
        rw [← hs, lst_s] at k
        cases k
theorem stage0 {zs row : Array Value} {ty : TypeId} (hO : ownB md H N dA = true) (hT : tailB md H oA oS oF dA x = true) (hop : oS.op = .store ty (.tmp dA) (.tmp x)) (hi : (P.info? ty).map (·.size) = some row.size) (hold : zs.size = row.size) (h1 : row.all (·.oneCell') = true)
    (hx : A1.eval (.tmp x) = .agg row) (hdN : dA < N) (hA : ∀ (a : Act) (w : World), (execOp a.eval oA).run P w = .ok (.value (.pointer (some ⟨w.heap.size, 0, none⟩))) (w.alloc (.cells zs t)))
    (hEnd : ∀ g w, inS wa t (some (g, row)) w → wpList P ((H ++ [oA, oS]) ++ [oF]).toArray Q [oF] (actS dA (some (g, row)) A1) w) :
    ∀ (fuel : Nat) (L : Array Bool) (a : Act) (w : World), L.size = H.length → a.tmps.size = N → inS wa t none w → Fam P md H A1 wa fuel L a → (∀ e ∈ oA.after, Region.binds md e = false) →
      wpAny P md ((H ++ [oA, oS]) ++ [oF]).toArray Q (fuel + 3) (lst L false false) a w := by
  obtain ⟨⟨a1, a2⟩, ⟨s1, s2, s3⟩, s4, ⟨eS, heS, hbS, onS⟩, s6, f1, f2⟩ := tailB_spec hT
  intro fuel
  induction fuel using Nat.strongRecOn with
  | _ fuel ih =>
    intro L a w hs hN hin hF hn
    refine ⟨fun e1 => ?_, fun i hi' => ?_⟩
    · exfalso
      have : H.length ∈ Region.ready md ((H ++ [oA, oS]) ++ [oF]).toArray (lst L false false) := mem_ready.2 ⟨by rw [← hs]; exact lst_a true, oA, three_a, fun e he hb => by rw [hn e he] at hb; cases hb⟩
      rw [e1] at this
      cases this
    · rcases parts_of hs hi' with h | ⟨h, _⟩ | ⟨h, _⟩ | h
      · have hr := ready_down hO hs h hi'
        obtain ⟨u, o, ho, _⟩ := mem_ready.1 hr
        have ho' : H[i]? = some o := by simpa using ho
        obtain ⟨f, rfl⟩ := fam_more hF hr
        refine step_low (s := none) hO hr ho' (by rw [three_low h]; exact ho) hF hN hin fun v w' hin' hF' => ?_
        rw [lst_set (by omega)]
        exact ih f (by omega) (L.setIfInBounds i true) (a.put o.dst v) w' (by simpa using hs) (by rw [put_size]; exact hN) hin' hF' hn
      · subst h
        unfold wpOp
        rw [three_a]
        simp only [Region.wanted, a1, if_true]
        refine .inl ?_
        unfold Oper.wp
        rw [hA]
        show wpAny P md _ Q (fuel + 2) ((lst L false false).setIfInBounds H.length true) (a.put oA.dst _) (w.alloc _)
        rw [a2, ← hs, lst_set_a]
        exact stage1 hO hT hop hi hold h1 hx hdN (hEnd w.heap.size) fuel L a _ hs hN ⟨hin.alloc hin.size _, heap_alloc_new _ _, hin.size⟩ hF
      · subst h
        exfalso
        obtain ⟨u, o, ho, hall⟩ := mem_ready.1 hi'
        rw [three_s] at ho
        cases ho
        have k := hall eS heS hbS
        rw [onS, ← hs, lst_a] at k
        cases k
      · subst h
        exfalso
        have k := last_waits hT hi' (H.length + 1) (by omega)
        rw [← hs, lst_s] at k
        cases k

/-- THE WHOLE: the operations but the last three walked in the order of the text, each quiet in each class, the frame behind them the same; then the last one, the variable's block wherever it is. -/
theorem wp_region_cell {id : Nat} {a : Act} {w : World} {l : List Oper} (H : List Oper) (oA oS oF : Oper) (hl : l = (H ++ [oA, oS]) ++ [oF]) (zs row : Array Value) (ty : TypeId) (N : Nat) (dA x : Tmp) (t : TypeId) (hm : P.follows .mixedOrders = true) (hB : Region.lexB .any H.toArray = true)
    (hO : ownB .any H N dA = true) (hT : tailB .any H oA oS oF dA x = true) (hn : oA.after = #[]) (hN : a.tmps.size = N) (hdN : dA < N) (hop : oS.op = .store ty (.tmp dA) (.tmp x)) (hi : (P.info? ty).map (·.size) = some row.size) (hold : zs.size = row.size) (h1 : row.all (·.oneCell') = true)
    (hA : ∀ (a : Act) (w : World), (execOp a.eval oA).run P w = .ok (.value (.pointer (some ⟨w.heap.size, 0, none⟩))) (w.alloc (.cells zs t)))
    (h : ∃ A1 : Act, (∀ W, Below w.heap.size w W → wpQuiet P H.toArray (fun w' => ∃ x : Kept W, w' = x.val) (fun a' => a' = A1) H a) ∧ A1.eval (.tmp x) = .agg row ∧
      ∀ g w', Below w.heap.size w w' → w'.heap[g]? = some (.cells row t (0, 0)) → w.heap.size ≤ g → wpList P l.toArray Q [oF] (A1.put (some dA) (.pointer (some ⟨g, 0, none⟩))) w') : (Code.region id l.toArray true).wp P Q a w := by
  obtain ⟨A1, hW, hx, hEnd⟩ := h
  subst hl
  simp only [Region.lexB, Bool.and_eq_true] at hB
  refine wp_region_any hm ?_
  have bd : Below w.heap.size w { w with drawn := w.drawn + 1 } := (Below.refl _ w).drew
  have hF : Fam P .any H A1 { w with drawn := w.drawn + 1 } H.length (Array.replicate H.toArray.size false) a := fun W hW' =>
    wpAnyQ_lex (C := KC W) (md := .any) hB.1 H 0 (Array.replicate H.toArray.size false) a (by simp) (by simpa using hB.2) (hW W (bd.trans hW'))
  have k := stage0 (Q := Q) (wa := { w with drawn := w.drawn + 1 }) hO hT hop hi hold h1 hx hdN hA (fun g w' h => hEnd g w' (bd.trans h.1) h.2.1 h.2.2) H.length (Array.replicate H.toArray.size false) a _ (by simp) hN (Below.refl _ _) hF (by rw [hn]; intro e he; simp at he)
  have e : lst (Array.replicate H.toArray.size false) false false = Array.replicate ((H ++ [oA, oS]) ++ [oF]).toArray.size false := by
    unfold lst
    simp [Array.replicate_succ]
  rw [e] at k
  simpa using k
end Go.Proofs.Ytliedfjaeakgeaa
