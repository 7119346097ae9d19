/- A region that draws its order, whatever it makes: each operation yields a value of which a fact holds that new memory does not take away; an operation may lean on the facts of those alone that it waits for. One goal an operation, and one for what follows. No word of the program is in it. -/
import Derived.Test.YtcpilhbinkamiaaDoorKit
import Derived.Test.YtcpilhbinkamiaaDoorLastOp
namespace Go.Proofs.YtcpilhbinkamiaaDoor
open Go.RowKit
set_option linter.unusedVariables false

variable {P : Program} {md : Region.Mode} {Q : Exit → Act → World → Prop}

/-- The frame with these values in the operations' slots. -/
def putAll (a : Act) : List Oper → Nat → (Nat → Value) → Act
  | [], _, _ => a
  | o :: rest, k, vals => putAll (a.put o.dst (vals k)) rest (k + 1) vals
def updV (vals : Nat → Value) (i : Nat) (v : Value) : Nat → Value := fun j => if j = i then v else vals j
theorem put_comm (a : Act) {d d' : Option Tmp} (h : ∀ x, d = some x → d' = some x → False) (v v' : Value) : (a.put d v).put d' v' = (a.put d' v').put d v := by
  cases d with
  | none => rfl
  | some x =>
    cases d' with
    | none => rfl
    | some y =>
      have e : x ≠ y := fun k => h x rfl (by rw [k])
      show ({ a with tmps := (a.tmps.setIfInBounds x v).setIfInBounds y v' } : Act) = { a with tmps := (a.tmps.setIfInBounds y v').setIfInBounds x v }
      rw [Array.setIfInBounds_comm _ _ e]
theorem put_twice (a : Act) (d : Option Tmp) (v v' : Value) : (a.put d v).put d v' = a.put d v' := by
  cases d with
  | none => rfl
  | some x =>
    show ({ a with tmps := (a.tmps.setIfInBounds x v).setIfInBounds x v' } : Act) = { a with tmps := a.tmps.setIfInBounds x v' }
    simp
theorem put_own (a : Act) (d : Option Tmp) (v : Value) (h : ∀ x, d = some x → v = a.tmps.getD x undef) : a.put d v = a := by
  cases d with
  | none => rfl
  | some x =>
    rw [h x rfl]
    show ({ a with tmps := a.tmps.setIfInBounds x (a.tmps.getD x undef) } : Act) = a
    have e : a.tmps.setIfInBounds x (a.tmps.getD x undef) = a.tmps := by
      apply Array.ext_getElem?
      intro j
      rw [Array.getElem?_setIfInBounds]
      split
      · rename_i k
        subst k
        split
        · rename_i k
          simp [k]
        · rename_i k
          rw [Array.getElem?_eq_none (by omega)]
      · rfl
    rw [e]
theorem putAll_ext {vals vals' : Nat → Value} : ∀ (l : List Oper) (a : Act) (k : Nat), (∀ j, k ≤ j → vals j = vals' j) → putAll a l k vals = putAll a l k vals'
  | [], _, _, _ => rfl
  | o :: rest, a, k, h => by
    show putAll (a.put o.dst (vals k)) rest (k + 1) vals = putAll (a.put o.dst (vals' k)) rest (k + 1) vals'
    rw [h k (Nat.le_refl _)]
    exact putAll_ext rest _ _ fun j hj => h j (by omega)
theorem putAll_past (d : Option Tmp) (v : Value) (vals : Nat → Value) : ∀ (l : List Oper) (a : Act) (k : Nat), (∀ o ∈ l, ∀ x, o.dst = some x → d = some x → False) → (putAll a l k vals).put d v = putAll (a.put d v) l k vals
  | [], _, _, _ => rfl
  | o :: rest, a, k, h => by
    show (putAll (a.put o.dst (vals k)) rest (k + 1) vals).put d v = putAll ((a.put d v).put o.dst (vals k)) rest (k + 1) vals
    rw [putAll_past d v vals rest _ _ (fun p hp => h p (List.mem_cons_of_mem _ hp)), put_comm _ (fun x e1 e2 => h o (List.mem_cons_self ..) x e1 e2)]
/-- No two operations have one slot. -/
def slotsB : List Oper → Bool
  | [] => true
  | o :: rest => rest.all (fun p => match o.dst, p.dst with | some x, some y => x != y | _, _ => true) && slotsB rest
theorem slotsB_head {o : Oper} {rest : List Oper} (h : slotsB (o :: rest) = true) : (∀ p ∈ rest, ∀ x, p.dst = some x → o.dst = some x → False) ∧ slotsB rest = true := by
  simp only [slotsB, Bool.and_eq_true] at h
  refine ⟨fun p hp x e1 e2 => ?_, h.2⟩
  have k := List.all_eq_true.1 h.1 p hp
  simp [e1, e2] at k
theorem putAll_put (v : Value) : ∀ (l : List Oper) (a : Act) (k i : Nat) (o : Oper) (vals : Nat → Value), slotsB l = true → l[i]? = some o → (putAll a l k vals).put o.dst v = putAll a l k (updV vals (k + i) v)
  | [], _, _, _, _, _, _, h => by cases h
  | p :: rest, a, k, 0, o, vals, hs, h => by
    obtain rfl : p = o := by simpa using h
    have e : putAll a (p :: rest) k (updV vals (k + 0) v) = putAll (a.put p.dst v) rest (k + 1) (updV vals (k + 0) v) := by
      show putAll (a.put p.dst (updV vals (k + 0) v k)) rest (k + 1) _ = _
      have e2 : updV vals (k + 0) v k = v := by unfold updV; rw [if_pos (by omega)]
      rw [e2]
    rw [e, putAll_ext rest _ _ (vals' := vals) (fun j hj => by unfold updV; rw [if_neg (by omega)])]
    show (putAll (a.put p.dst (vals k)) rest (k + 1) vals).put p.dst v = _
    rw [putAll_past _ _ _ _ _ _ (fun q hq x e1 e2 => (slotsB_head hs).1 q hq x e1 e2), put_twice]
  | p :: rest, a, k, i + 1, o, vals, hs, h => by
    have h' : rest[i]? = some o := by simpa using h
    have e : putAll a (p :: rest) k (updV vals (k + (i + 1)) v) = putAll (a.put p.dst (vals k)) rest (k + 1) (updV vals (k + 1 + i) v) := by
      show putAll (a.put p.dst (updV vals (k + (i + 1)) v k)) rest (k + 1) (updV vals (k + (i + 1)) v) = _
      have e2 : updV vals (k + (i + 1)) v k = vals k := by unfold updV; rw [if_neg (by omega)]
      rw [e2, show k + (i + 1) = k + 1 + i by omega]
    rw [e]
    exact putAll_put v rest _ (k + 1) i o vals (slotsB_head hs).2 h'
/-- What an operation waits for stands ahead of it. -/
def aheadB (md : Region.Mode) (l : List Oper) : Bool := (List.range l.length).all fun i => match l[i]? with | some o => o.after.all (fun e => !Region.binds md e || decide (e.on < i)) | none => true
theorem aheadB_spec {l : List Oper} (h : aheadB md l = true) {i : Nat} {o : Oper} (ho : l[i]? = some o) : ∀ e ∈ o.after, Region.binds md e = true → e.on < i := by
  intro e he hb
  have hi : i < l.length := by
    rcases Nat.lt_or_ge i l.length with k | k
    · exact k
    · rw [List.getElem?_eq_none k] at ho; cases ho
  have k := List.all_eq_true.1 h i (List.mem_range.2 hi)
  simp only [ho] at k
  have k2 := Array.all_eq_true'.1 k e he
  simp [hb] at k2
  exact k2
theorem none_ready {l : List Oper} (hA : aheadB md l = true) {L : Array Bool} (h : Region.ready md l.toArray L = []) (hs : L.size = l.length) : ∀ i, i < l.length → L.getD i true = true := by
  intro i
  induction i using Nat.strongRecOn with
  | _ i ih =>
    intro hi
    cases k : L.getD i true with
    | true => rfl
    | false =>
      have : i ∈ Region.ready md l.toArray L := mem_ready.2 ⟨k, l[i], by simp, fun e he hb => by
        have h1 := aheadB_spec hA (show l[i]? = some l[i] by simp) e he hb
        have h2 := ih e.on h1 (by omega)
        rw [getD_any (by omega) false true]
        exact h2⟩
      rw [h] at this
      cases this
/-- The facts of what an operation waits for. -/
def factsOf (md : Region.Mode) (R : Nat → Value → World → Prop) (vals : Nat → Value) (w : World) : List Edge → Prop
  | [] => True
  | e :: rest => (match Region.binds md e with | true => R e.on (vals e.on) w | false => True) ∧ factsOf md R vals w rest
theorem factsOf_mk {R : Nat → Value → World → Prop} {vals : Nat → Value} {w : World} : ∀ es : List Edge, (∀ e ∈ es, Region.binds md e = true → R e.on (vals e.on) w) → factsOf md R vals w es
  | [], _ => trivial
  | e :: rest, h => by
    refine ⟨?_, factsOf_mk rest fun x hx => h x (List.mem_cons_of_mem _ hx)⟩
    cases hb : Region.binds md e with
    | true => exact h e (List.mem_cons_self ..) hb
    | false => trivial
/-- What is asked behind one operation. -/
def stepPost (A : Act) (d : Option Tmp) (R : Value → World → Prop) (w : World) (x : Exit) (a' : Act) (w' : World) : Prop := ∃ v, x = .normal ∧ a' = A.put d v ∧ R v w' ∧ Below w.heap.size w w'
theorem stepPost_mk {A : Act} {d : Option Tmp} {R : Value → World → Prop} {w : World} {a' : Act} {w' : World} (v : Value) (h : a' = A.put d v) (r : R v w') (b : Below w.heap.size w w') : stepPost A d R w .normal a' w' := ⟨v, rfl, h, r, b⟩
/-- What is asked of one operation; F: the frame by the operations' values. -/
def stepAt (P : Program) (md : Region.Mode) (l : List Oper) (F : (Nat → Value) → Act) (W : World) (R : Nat → Value → World → Prop) (i : Nat) (o : Oper) : Prop :=
  ∀ (vals : Nat → Value) (w : World), Below W.heap.size W w → factsOf md R vals w o.after.toList → wpList P l.toArray (stepPost (F vals) o.dst (R i) w) [o] (F vals) w
def stepsFrom (P : Program) (md : Region.Mode) (l : List Oper) (F : (Nat → Value) → Act) (W : World) (R : Nat → Value → World → Prop) : Nat → List Oper → Prop
  | _, [] => True
  | i, o :: rest => stepAt P md l F W R i o ∧ stepsFrom P md l F W R (i + 1) rest
theorem steps_nil {l : List Oper} {F : (Nat → Value) → Act} {W : World} {R : Nat → Value → World → Prop} {i : Nat} : stepsFrom P md l F W R i [] := trivial
theorem steps_cons {l rest : List Oper} {F : (Nat → Value) → Act} {W : World} {R : Nat → Value → World → Prop} {i : Nat} {o : Oper}
    (h : ∀ (vals : Nat → Value) (w : World), Below W.heap.size W w → factsOf md R vals w o.after.toList → wpList P l.toArray (stepPost (F vals) o.dst (R i) w) [o] (F vals) w)
    (k : stepsFrom P md l F W R (i + 1) rest) : stepsFrom P md l F W R i (o :: rest) := ⟨h, k⟩
theorem steps_at {l : List Oper} {F : (Nat → Value) → Act} {W : World} {R : Nat → Value → World → Prop} : ∀ (rest : List Oper) (k i : Nat) (o : Oper), stepsFrom P md l F W R k rest → rest[i]? = some o → stepAt P md l F W R (k + i) o
  | [], _, _, _, _, h => by cases h
  | p :: rest, k, 0, o, hs, h => by
    obtain rfl : p = o := by simpa using h
    exact hs.1
  | p :: rest, k, i + 1, o, hs, h => by
    have h' : rest[i]? = some o := by simpa using h
    rw [show k + (i + 1) = k + 1 + i by omega]
    exact steps_at rest (k + 1) i o hs.2 h'
/-- The facts of all. -/
def allFacts (R : Nat → Value → World → Prop) (vals : Nat → Value) (w : World) : Nat → List Oper → Prop
  | _, [] => True
  | i, _ :: rest => R i (vals i) w ∧ allFacts R vals w (i + 1) rest
theorem allFacts_mk {R : Nat → Value → World → Prop} {vals : Nat → Value} {w : World} : ∀ (rest : List Oper) (k : Nat), (∀ i, i < rest.length → R (k + i) (vals (k + i)) w) → allFacts R vals w k rest
  | [], _, _ => trivial
  | o :: rest, k, h => ⟨h 0 (by simp), allFacts_mk rest (k + 1) fun i hi => by rw [show k + 1 + i = k + (i + 1) by omega]; exact h (i + 1) (by simpa using hi)⟩
def unlisted (L : Array Bool) : Nat := (L.toList.filter fun b => !b).length
theorem unlisted_set {L : Array Bool} {i : Nat} (h : L.getD i true = false) : unlisted L = unlisted (L.setIfInBounds i true) + 1 := by
  have hi : i < L.size := by
    rcases Nat.lt_or_ge i L.size with k | k
    · exact k
    · rw [Array.getD_eq_getD_getElem?, Array.getElem?_eq_none k] at h; cases h
  have hv : L.toList[i]'(by simpa using hi) = false := by
    rw [Array.getD_eq_getD_getElem?, Array.getElem?_eq_getElem hi] at h
    simpa using h
  unfold unlisted
  rw [Array.toList_setIfInBounds]
  have aux : ∀ (xs : List Bool) (i : Nat) (hi : i < xs.length), xs[i] = false → (xs.filter fun b => !b).length = ((xs.set i true).filter fun b => !b).length + 1 := by
    intro xs
    induction xs with
    | nil => intro i hi; cases hi
    | cons x xs ih =>
      intro i hi he
      cases i with
      | zero =>
        have : x = false := by simpa using he
        subst this
        simp
      | succ i =>
        have k := ih i (by simpa using hi) (by simpa using he)
        cases x with
        | true => simpa using k
        | false => simp only [List.set_cons_succ, List.filter_cons, Bool.not_false, if_true, List.length_cons]; omega
  exact aux _ _ _ hv
theorem unlisted_zero {L : Array Bool} (h : unlisted L = 0) (i : Nat) : L.getD i true = true := by
  cases k : L.getD i true with
  | true => rfl
  | false => have := unlisted_set k; omega
/-- An operation under more that is asked of what follows; ways out that there are none of. -/
theorem wp_both {o : Oper} {a : Act} {w : World} {K K' : Act → World → Prop} {Q Q' : Exit → Act → World → Prop} (h : ∀ a w, K a w → K' a w) (hq : ∀ x a w, x ≠ .normal → Q x a w → Q' x a w) (hh : o.wp P a w K Q) : o.wp P a w K' Q' := by
  unfold Oper.wp at *
  generalize (execOp a.eval o).run P w = r at *
  have out : LetsOut Q → LetsOut Q' := fun ⟨a, w, k⟩ => ⟨a, w, hq _ _ _ (by intro e; cases e) k⟩
  cases r with
  | ok n w' =>
    cases n <;> simp only [Oper.upon] at hh ⊢ <;>
      first
        | exact h _ _ hh
        | exact Calls.mono hh (fun e w'' he => by cases e <;> first | exact h _ _ he | exact hq _ _ _ (by intro e; cases e) he | exact out he)
        | exact Rows.mono hh (fun _ _ he => h _ _ he)
  | halt x w' =>
    cases x <;> simp only [Oper.upon] at hh ⊢ <;> first | exact hh | exact hq _ _ _ (by intro e; cases e) hh
theorem facts_any {l : List Oper} {a : Act} {W : World} {R : Nat → Value → World → Prop} (hS : slotsB l = true) (hA : aheadB md l = true)
    (hR : ∀ i v w w', R i v w → Below w.heap.size w w' → R i v w') (hs : stepsFrom P md l (putAll a l 0) W R 0 l)
    (hQ : ∀ vals w, Below W.heap.size W w → allFacts R vals w 0 l → Q .normal (putAll a l 0 vals) w) :
    ∀ (fuel : Nat) (L : Array Bool) (vals : Nat → Value) (w : World), L.size = l.length → unlisted L ≤ fuel → Below W.heap.size W w → (∀ i, i < l.length → L.getD i true = true → R i (vals i) w) → wpAny P md l.toArray Q fuel L (putAll a l 0 vals) w := by
  intro fuel
  induction fuel with
  | zero =>
    intro L vals w hL hf hb hF
    have all := fun i (hi : i < l.length) => unlisted_zero (L := L) (by omega) i
    refine ⟨?_, hQ vals w hb (allFacts_mk l 0 fun i hi => by rw [Nat.zero_add]; exact hF i hi (all i hi))⟩
    apply List.eq_nil_iff_forall_not_mem.2
    intro j hj
    obtain ⟨u, o, ho, _⟩ := mem_ready.1 hj
    rw [unlisted_zero (L := L) (by omega) j] at u
    cases u
  | succ fuel ih =>
    intro L vals w hL hf hb hF
    refine ⟨fun e => ?_, fun i hi => ?_⟩
    · have all := none_ready hA e hL
      exact hQ vals w hb (allFacts_mk l 0 fun i hi => by rw [Nat.zero_add]; exact hF i hi (all i hi))
    · obtain ⟨u, o, ho, hall⟩ := mem_ready.1 hi
      have ho' : l[i]? = some o := by simpa using ho
      have hil : i < l.length := by
        rcases Nat.lt_or_ge i l.length with k | k
        · exact k
        · rw [List.getElem?_eq_none k] at ho'; cases ho'
      have st := steps_at l 0 i o hs ho' vals w hb (factsOf_mk _ fun e he hbd => by
        have he' : e ∈ o.after := by simpa using he
        have h1 := aheadB_spec hA ho' e he' hbd
        have h2 := hall e he' hbd
        rw [getD_any (by omega) false true] at h2
        exact hF e.on (by omega) h2)
      have st2 : wpOp P l.toArray Q i (fun a' w' => ∃ v, a' = (putAll a l 0 vals).put o.dst v ∧ R i v w' ∧ Below w.heap.size w w') (putAll a l 0 vals) w := by
        unfold wpOp
        rw [ho]
        unfold wpList at st
        simp only [wpList, Nat.zero_add, stepPost] at st
        show if Region.wanted o (yielded l.toArray (putAll a l 0 vals).tmps) = true then _ else _
        split
        · rename_i hw
          rw [if_pos hw] at st
          rcases st with st | ⟨_, st⟩
          · exact .inl (wp_both (fun a' w' ⟨v, _, h⟩ => ⟨v, h⟩) (fun x a' w' hx ⟨v, h, _⟩ => absurd h hx) st)
          · obtain ⟨a', w', v, h, _⟩ := st
            cases h
        · rename_i hw
          rw [if_neg hw] at st
          obtain ⟨v, _, h⟩ := st
          exact ⟨v, h⟩
      refine wpOp_mono (fun a' w' ⟨v, ea, hr, hbw⟩ => ?_) st2
      subst ea
      rw [putAll_put v l a 0 i o vals hS ho', Nat.zero_add]
      refine ih _ _ w' (by simpa using hL) (by have := unlisted_set u; omega) (bnext hb hbw) fun j hj hlist => ?_
      by_cases e : j = i
      · subst e
        unfold updV
        rw [if_pos rfl]
        exact hr
      · unfold updV
        rw [if_neg e]
        rw [getD_set_ne true (fun h => e h.symm)] at hlist
        exact hR j _ w w' (hF j hj hlist) hbw
/-- THE WHOLE. R: the facts, by the operations' numbers. -/
theorem wp_region_facts {id : Nat} {a : Act} {w : World} {l : List Oper} (R : Nat → Value → World → Prop) (F : (Nat → Value) → Act) (hF : ∀ vals, putAll a l 0 vals = F vals) (hm : P.follows .mixedOrders = true) (hS : slotsB l = true) (hA : aheadB .any l = true)
    (hR : ∀ i v w w', R i v w → Below w.heap.size w w' → R i v w') (hs : stepsFrom P .any l F w R 0 l)
    (hQ : ∀ vals w', Below w.heap.size w w' → allFacts R vals w' 0 l → Q .normal (F vals) w') : (Code.region id l.toArray true).wp P Q a w := by
  obtain rfl : putAll a l 0 = F := funext hF
  refine wp_region_any hm ?_
  have e : putAll a l 0 (fun i => ((l[i]?).bind (·.dst)).elim undef fun d => a.tmps.getD d undef) = a := by
    have aux : ∀ (rest : List Oper) (k : Nat) (vals : Nat → Value), (∀ i o, rest[i]? = some o → ∀ d, o.dst = some d → vals (k + i) = a.tmps.getD d undef) → putAll a rest k vals = a := by
      intro rest
      induction rest with
      | nil => intros; rfl
      | cons o rest ih =>
        intro k vals h
        show putAll (a.put o.dst (vals k)) rest (k + 1) vals = a
        rw [put_own a o.dst (vals k) (fun x hx => h 0 o rfl x hx)]
        exact ih (k + 1) vals fun i p hp d hd => by rw [show k + 1 + i = k + (i + 1) by omega]; exact h (i + 1) p (by simpa using hp) d hd
    refine aux l 0 _ fun i o ho d hd => ?_
    rw [Nat.zero_add, ho]
    simp [hd]
  have bd : Below w.heap.size w { w with drawn := w.drawn + 1 } := (Below.refl _ w).drew
  have k := facts_any (Q := Q) hS hA hR hs hQ l.toArray.size (Array.replicate l.toArray.size false) (fun i => ((l[i]?).bind (·.dst)).elim undef fun d => a.tmps.getD d undef) { w with drawn := w.drawn + 1 } (by simp) (by
    unfold unlisted
    simp) bd (fun i hi h => by
    rw [Array.getD_eq_getD_getElem?, Array.getElem?_replicate, if_pos (by simpa using hi)] at h
    cases h)
  rw [e] at k
  exact k

/-! ### The same with a last operation that waits for all others and may do whatever it likes (a store) -/
def allAheadB (md : Region.Mode) (n : Nat) (o : Oper) : Bool := (List.range n).all fun i => o.after.any fun e => Region.binds md e && e.on == i
theorem allAheadB_spec {n : Nat} {o : Oper} (h : allAheadB md n o = true) {i : Nat} (hi : i < n) : ∃ e ∈ o.after, Region.binds md e = true ∧ e.on = i := by
  have k := List.all_eq_true.1 h i (List.mem_range.2 hi)
  obtain ⟨e, he, k2⟩ := Array.any_eq_true'.1 k
  simp only [Bool.and_eq_true, beq_iff_eq] at k2
  exact ⟨e, he, k2.1, k2.2⟩
theorem facts_last_any {H : List Oper} {o : Oper} {a : Act} {W : World} {R : Nat → Value → World → Prop} (hS : slotsB H = true) (hA : aheadB md (H ++ [o]) = true) (hO : allAheadB md H.length o = true)
    (hR : ∀ i v w w', R i v w → Below w.heap.size w w' → R i v w') (hs : stepsFrom P md (H ++ [o]) (putAll a H 0) W R 0 H)
    (hQ : ∀ vals w, Below W.heap.size W w → allFacts R vals w 0 H → wpList P (H ++ [o]).toArray Q [o] (putAll a H 0 vals) w) :
    ∀ (fuel : Nat) (L : Array Bool) (vals : Nat → Value) (w : World), L.size = H.length + 1 → unlisted L ≤ fuel → L.getD H.length true = false → Below W.heap.size W w → (∀ i, i < H.length → L.getD i true = true → R i (vals i) w) → wpAny P md (H ++ [o]).toArray Q fuel L (putAll a H 0 vals) w := by
  intro fuel
  induction fuel with
  | zero =>
    intro L vals w hL hf hn hb hF
    rw [unlisted_zero (L := L) (by omega) H.length] at hn
    cases hn
  | succ fuel ih =>
    intro L vals w hL hf hn hb hF
    refine ⟨fun e => ?_, fun i hi => ?_⟩
    · have all := none_ready hA e (by simpa using hL) H.length (by simp)
      rw [hn] at all
      cases all
    · obtain ⟨u, p, hp, hall⟩ := mem_ready.1 hi
      by_cases hil : i < H.length
      · have hp' : H[i]? = some p := by simpa [List.getElem?_append_left hil] using hp
        have hp2 : (H ++ [o])[i]? = some p := by simpa using hp
        have st := steps_at H 0 i p hs hp' vals w hb (factsOf_mk _ fun e he hbd => by
          have he' : e ∈ p.after := by simpa using he
          have h1 := aheadB_spec hA hp2 e he' hbd
          have h2 := hall e he' hbd
          rw [getD_any (by omega) false true] at h2
          exact hF e.on (by omega) h2)
        have st2 : wpOp P (H ++ [o]).toArray Q i (fun a' w' => ∃ v, a' = (putAll a H 0 vals).put p.dst v ∧ R i v w' ∧ Below w.heap.size w w') (putAll a H 0 vals) w := by
          unfold wpOp
          rw [hp]
          unfold wpList at st
          simp only [wpList, Nat.zero_add, stepPost] at st
          show if Region.wanted p (yielded (H ++ [o]).toArray (putAll a H 0 vals).tmps) = true then _ else _
          split
          · rename_i hw
            rw [if_pos hw] at st
            rcases st with st | ⟨_, st⟩
            · exact .inl (wp_both (fun a' w' ⟨v, _, h⟩ => ⟨v, h⟩) (fun x a' w' hx ⟨v, h, _⟩ => absurd h hx) st)
            · obtain ⟨a', w', v, h, _⟩ := st
              cases h
          · rename_i hw
            rw [if_neg hw] at st
            obtain ⟨v, _, h⟩ := st
            exact ⟨v, h⟩
        refine wpOp_mono (fun a' w' ⟨v, ea, hr, hbw⟩ => ?_) st2
        subst ea
        rw [putAll_put v H a 0 i p vals hS hp', Nat.zero_add]
        refine ih _ _ w' (by simpa using hL) (by have := unlisted_set u; omega) (by rw [getD_set_ne true (by omega)]; exact hn) (bnext hb hbw) fun j hj hlist => ?_
        by_cases e : j = i
        · subst e
          unfold updV
          rw [if_pos rfl]
          exact hr
        · unfold updV
          rw [if_neg e]
          rw [getD_set_ne true (fun h => e h.symm)] at hlist
          exact hR j _ w w' (hF j hj hlist) hbw
      · have hin : i = H.length := by
          have h3 : i < H.length + 1 := by simpa using (Array.getElem?_eq_some_iff.1 hp).1
          omega
        subst hin
        have ep : p = o := by simpa using hp.symm
        subst ep
        have lis : ∀ j, j < H.length → L.getD j true = true := fun j hj => by
          obtain ⟨e, he, hbd, rfl⟩ := allAheadB_spec hO hj
          have h2 := hall e he hbd
          rw [getD_any (by omega) false true] at h2
          exact h2
        have st := hQ vals w hb (allFacts_mk H 0 fun j hj => by rw [Nat.zero_add]; exact hF j hj (lis j hj))
        have st2 : wpOp P (H ++ [p]).toArray Q H.length (fun a' w' => Q .normal a' w') (putAll a H 0 vals) w := by
          unfold wpOp
          rw [hp]
          exact st
        refine wpOp_mono (fun a' w' hq => wpAny_done ?_ hq fuel) st2
        apply List.eq_nil_iff_forall_not_mem.2
        intro j hj
        obtain ⟨u2, q, hq2, _⟩ := mem_ready.1 hj
        have hjl : j < H.length + 1 := by simpa using (Array.getElem?_eq_some_iff.1 hq2).1
        by_cases ej : j = H.length
        · subst ej
          rw [Array.getD_eq_getD_getElem?, Array.getElem?_setIfInBounds_self_of_lt (by omega)] at u2
          cases u2
        · rw [getD_set_ne true (fun h => ej h.symm), lis j (by omega)] at u2
          cases u2
/-- THE WHOLE, with a last operation. -/
theorem wp_region_facts_last {id : Nat} {a : Act} {w : World} {l : List Oper} (H : List Oper) (o : Oper) (hl : l = H ++ [o]) (R : Nat → Value → World → Prop) (F : (Nat → Value) → Act) (hF : ∀ vals, putAll a H 0 vals = F vals) (hm : P.follows .mixedOrders = true) (hS : slotsB H = true) (hA : aheadB .any (H ++ [o]) = true) (hO : allAheadB .any H.length o = true)
    (hR : ∀ i v w w', R i v w → Below w.heap.size w w' → R i v w') (hs : stepsFrom P .any l F w R 0 H)
    (hQ : ∀ vals w', Below w.heap.size w w' → allFacts R vals w' 0 H → wpList P l.toArray Q [o] (F vals) w') : (Code.region id l.toArray true).wp P Q a w := by
  obtain rfl : putAll a H 0 = F := funext hF
  subst hl
  refine wp_region_any hm ?_
  have e : putAll a H 0 (fun i => ((H[i]?).bind (·.dst)).elim undef fun d => a.tmps.getD d undef) = a := by
    have aux : ∀ (rest : List Oper) (k : Nat) (vals : Nat → Value), (∀ i o, rest[i]? = some o → ∀ d, o.dst = some d → vals (k + i) = a.tmps.getD d undef) → putAll a rest k vals = a := by
      intro rest
      induction rest with
      | nil => intros; rfl
      | cons o rest ih =>
        intro k vals h
        show putAll (a.put o.dst (vals k)) rest (k + 1) vals = a
        rw [put_own a o.dst (vals k) (fun x hx => h 0 o rfl x hx)]
        exact ih (k + 1) vals fun i p hp d hd => by rw [show k + 1 + i = k + (i + 1) by omega]; exact h (i + 1) p (by simpa using hp) d hd
    refine aux H 0 _ fun i o ho d hd => ?_
    rw [Nat.zero_add, ho]
    simp [hd]
  have bd : Below w.heap.size w { w with drawn := w.drawn + 1 } := (Below.refl _ w).drew
  have k := facts_last_any (Q := Q) hS hA hO hR hs hQ (H ++ [o]).toArray.size (Array.replicate (H ++ [o]).toArray.size false) (fun i => ((H[i]?).bind (·.dst)).elim undef fun d => a.tmps.getD d undef) { w with drawn := w.drawn + 1 } (by simp) (by
    unfold unlisted
    simp) (by
    rw [Array.getD_eq_getD_getElem?, Array.getElem?_replicate, if_pos (by simp)]
    rfl) bd (fun i hi h => by
    rw [Array.getD_eq_getD_getElem?, Array.getElem?_replicate, if_pos (by simp; omega)] at h
    cases h)
  rw [e] at k
  exact k
end Go.Proofs.YtcpilhbinkamiaaDoor
