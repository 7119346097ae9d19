/- A region that draws its order and whose operations may write memory: one step an operation, whatever has come up ahead of it. V: what each yields; S: what holds of the world, by what has come up. No word of the program is in it. -/
import Derived.Test.YthelklkfcllddaaGreatDoorTopCardsJ01
namespace Go.Proofs.YthelklkfcllddaaGreatDoor
set_option maxRecDepth 20000
open Go.RowKit
set_option linter.unusedVariables false
variable {P : Program} {md : Region.Mode} {Q : Exit → Act → World → Prop}
def closedD (md : Region.Mode) (l : List Oper) (d : Nat → Bool) : Prop := ∀ (j : Nat) (o : Oper), l[j]? = some o → d j = true → ∀ e ∈ o.after, Region.binds md e = true → d e.on = true
def updD (d : Nat → Bool) (i : Nat) : Nat → Bool := fun j => if j = i then true else d j
theorem updD_same (d : Nat → Bool) (i : Nat) : updD d i i = true := by simp [updD]
theorem updD_other (d : Nat → Bool) {i j : Nat} (h : ¬ j = i) : updD d i j = d j := by simp [updD, h]
def knownOf (md : Region.Mode) (V : Nat → Value → Prop) (vals : Nat → Value) (d : Nat → Bool) : List Edge → Prop
  | [] => True
  | e :: rest => (match Region.binds md e with | true => V e.on (vals e.on) ∧ d e.on = true | false => True) ∧ knownOf md V vals d rest
theorem knownOf_mk {V : Nat → Value → Prop} {vals : Nat → Value} {d : Nat → Bool} : ∀ es : List Edge, (∀ e ∈ es, Region.binds md e = true → V e.on (vals e.on) ∧ d e.on = true) → knownOf md V vals d es
  | [], _ => trivial
  | e :: rest, h => by
    refine ⟨?_, knownOf_mk rest fun x hx => h x (List.mem_cons_of_mem _ hx)⟩
    cases hb : Region.binds md e with
    | true => exact h e (List.mem_cons_self ..) hb
    | false => trivial
def postS (A : Act) (dst : Option Tmp) (V : Value → Prop) (S : World → Prop) (x : Exit) (a' : Act) (w' : World) : Prop := ∃ v, x = .normal ∧ a' = A.put dst v ∧ V v ∧ S w'
theorem postS_mk {A : Act} {dst : Option Tmp} {V : Value → Prop} {S : World → Prop} {a' : Act} {w' : World} (v : Value) (h : a' = A.put dst v) (r : V v) (b : S w') : postS A dst V S .normal a' w' := ⟨v, rfl, h, r, b⟩
def stepS (P : Program) (md : Region.Mode) (l : List Oper) (F : (Nat → Value) → Act) (V : Nat → Value → Prop) (S : (Nat → Bool) → World → Prop) (i : Nat) (o : Oper) : Prop :=
  ∀ (vals : Nat → Value) (d : Nat → Bool) (w : World), d i = false → closedD md l d → knownOf md V vals d o.after.toList → S d w → wpList P l.toArray (postS (F vals) o.dst (V i) (S (updD d i))) [o] (F vals) w
def stepsS (P : Program) (md : Region.Mode) (l : List Oper) (F : (Nat → Value) → Act) (V : Nat → Value → Prop) (S : (Nat → Bool) → World → Prop) : Nat → List Oper → Prop
  | _, [] => True
  | i, o :: rest => stepS P md l F V S i o ∧ stepsS P md l F V S (i + 1) rest
theorem stepsS_nil {l : List Oper} {F : (Nat → Value) → Act} {V : Nat → Value → Prop} {S : (Nat → Bool) → World → Prop} {i : Nat} : stepsS P md l F V S i [] := trivial
theorem stepsS_cons {l rest : List Oper} {F : (Nat → Value) → Act} {V : Nat → Value → Prop} {S : (Nat → Bool) → World → Prop} {i : Nat} {o : Oper}
    (h : ∀ (vals : Nat → Value) (d : Nat → Bool) (w : World), d i = false → closedD md l d → knownOf md V vals d o.after.toList → S d w → wpList P l.toArray (postS (F vals) o.dst (V i) (S (updD d i))) [o] (F vals) w) (k : stepsS P md l F V S (i + 1) rest) : stepsS P md l F V S i (o :: rest) := ⟨h, k⟩
theorem stepsS_at {l : List Oper} {F : (Nat → Value) → Act} {V : Nat → Value → Prop} {S : (Nat → Bool) → World → Prop} : ∀ (rest : List Oper) (k i : Nat) (o : Oper), stepsS P md l F V S k rest → rest[i]? = some o → stepS P md l F V S (k + i) o
  | [], _, _, _, _, h => by cases h
  | x :: rest, k, 0, o, hs, h => by
    obtain rfl : x = o := by simpa using h
    exact hs.1
  | x :: rest, k, i + 1, o, hs, h => by
    have := stepsS_at rest (k + 1) i o hs.2 (by simpa using h)
    rwa [show k + 1 + i = k + (i + 1) by omega] at this
def allV (V : Nat → Value → Prop) (vals : Nat → Value) : Nat → List Oper → Prop
  | _, [] => True
  | i, _ :: rest => V i (vals i) ∧ allV V vals (i + 1) rest
theorem allV_mk {V : Nat → Value → Prop} {vals : Nat → Value} : ∀ (rest : List Oper) (k : Nat), (∀ i, i < rest.length → V (k + i) (vals (k + i))) → allV V vals k rest
  | [], _, _ => trivial
  | _ :: rest, k, h => ⟨h 0 (by simp), allV_mk rest (k + 1) fun i hi => by rw [show k + 1 + i = k + (i + 1) by omega]; exact h (i + 1) (by simpa using hi)⟩
def doneOf (L : Array Bool) : Nat → Bool := fun j => L.getD j false
theorem doneOf_set {L : Array Bool} {i : Nat} (h : i < L.size) : doneOf (L.setIfInBounds i true) = updD (doneOf L) i := by
  funext j
  unfold doneOf updD
  by_cases e : j = i
  · subst e
    rw [if_pos rfl, Array.getD_eq_getD_getElem?, Array.getElem?_setIfInBounds_self_of_lt h]
    rfl
  · rw [if_neg e, getD_set_ne false (fun k => e k.symm)]
theorem state_any {l : List Oper} {a : Act} {V : Nat → Value → Prop} {S : (Nat → Bool) → World → Prop} (hS : slotsB l = true) (hA : aheadB md l = true) (hs : stepsS P md l (putAll a l 0) V S 0 l)
    (hQ : ∀ vals d w, (∀ i, i < l.length → d i = true) → S d w → allV V vals 0 l → Q .normal (putAll a l 0 vals) w) :
    ∀ (fuel : Nat) (L : Array Bool) (vals : Nat → Value) (w : World), L.size = l.length → unlisted L ≤ fuel → closedD md l (doneOf L) → S (doneOf L) w → (∀ i, i < l.length → L.getD i true = true → V i (vals i)) → wpAny P md l.toArray Q fuel L (putAll a l 0 vals) w := by
  intro fuel
  induction fuel with
  | zero =>
    intro L vals w hL hf hc hb hF
    have all := fun i (hi : i < l.length) => unlisted_zero (L := L) (by omega) i
    refine ⟨?_, hQ vals (doneOf L) w (fun i hi => by unfold doneOf; rw [getD_any (by omega) false true]; exact all i hi) hb (allV_mk l 0 fun i hi => by rw [Nat.zero_add]; exact hF i hi (all i hi))⟩
    apply List.eq_nil_iff_forall_not_mem.2
    intro j hj
    obtain ⟨u, o, ho, _⟩ := mem_ready.1 hj
    rw [unlisted_zero (L := L) (by omega) j] at u
    cases u
  | succ fuel ih =>
    intro L vals w hL hf hc hb hF
    refine ⟨fun e => ?_, fun i hi => ?_⟩
    · have all := none_ready hA e hL
      exact hQ vals (doneOf L) w (fun i hi => by unfold doneOf; rw [getD_any (by omega) false true]; exact all i hi) hb (allV_mk l 0 fun i hi => by rw [Nat.zero_add]; exact hF i hi (all i hi))
    · obtain ⟨u, o, ho, hall⟩ := mem_ready.1 hi
      have ho' : l[i]? = some o := by simpa using ho
      have hil : i < l.length := by
        rcases Nat.lt_or_ge i l.length with k | k
        · exact k
        · rw [List.getElem?_eq_none k] at ho'; cases ho'
      have hdi : doneOf L i = false := by
        unfold doneOf
        rw [getD_any (by omega) false true]
        exact u
      have haw : ∀ e ∈ o.after, Region.binds md e = true → doneOf L e.on = true := fun e he hbd => hall e he hbd
      have st := stepsS_at l 0 i o hs ho' vals (doneOf L) w (by rw [Nat.zero_add]; exact hdi) hc (knownOf_mk _ fun e he hbd => by
        have he' : e ∈ o.after := by simpa using he
        have h1 := aheadB_spec hA ho' e he' hbd
        have h2 := hall e he' hbd
        refine ⟨?_, h2⟩
        rw [getD_any (by omega) false true] at h2
        exact hF e.on (by omega) h2) hb
      have st2 : wpOp P l.toArray Q i (fun a' w' => ∃ v, a' = (putAll a l 0 vals).put o.dst v ∧ V i v ∧ S (updD (doneOf L) i) w') (putAll a l 0 vals) w := by
        unfold wpOp
        rw [ho]
        unfold wpList at st
        simp only [wpList, Nat.zero_add, postS] at st
        show if Region.wanted o (yielded l.toArray (putAll a l 0 vals).tmps) = true then _ else _
        split
        · rename_i hw
          rw [if_pos hw] at st
          rcases st with st | ⟨_, st⟩
          · exact .inl (wp_both (fun a' w' ⟨v, _, h⟩ => ⟨v, h⟩) (fun x a' w' hx ⟨v, h, _⟩ => absurd h hx) st)
          · obtain ⟨a', w', v, h, _⟩ := st
            cases h
        · rename_i hw
          rw [if_neg hw] at st
          obtain ⟨v, _, h⟩ := st
          exact ⟨v, h⟩
      refine wpOp_mono (fun a' w' ⟨v, ea, hr, hbw⟩ => ?_) st2
      subst ea
      rw [putAll_put v l a 0 i o vals hS ho', Nat.zero_add]
      have hset := doneOf_set (L := L) (i := i) (by omega)
      refine ih _ _ w' (by simpa using hL) (by have := unlisted_set u; omega) ?_ (by rw [hset]; exact hbw) fun j hj hlist => ?_
      · rw [hset]
        intro j x hx hj e he hbd
        by_cases ej : j = i
        · subst ej
          rw [ho'] at hx
          cases hx
          by_cases ei : e.on = j
          · rw [ei, updD_same]
          · rw [updD_other _ ei]
            exact haw e he hbd
        · rw [updD_other _ ej] at hj
          have k := hc j x hx hj e he hbd
          by_cases ei : e.on = i
          · rw [ei, updD_same]
          · rw [updD_other _ ei]
            exact k
      · by_cases e : j = i
        · subst e
          unfold updV
          rw [if_pos rfl]
          exact hr
        · unfold updV
          rw [if_neg e]
          rw [getD_set_ne true (fun h => e h.symm)] at hlist
          exact hF j hj hlist
theorem wp_region_state {id : Nat} {a : Act} {w : World} {l : List Oper} (V : Nat → Value → Prop) (S : (Nat → Bool) → World → Prop) (F : (Nat → Value) → Act) (hF : ∀ vals, putAll a l 0 vals = F vals) (hm : P.follows .mixedOrders = true) (hS : slotsB l = true) (hA : aheadB .any l = true)
    (h0 : ∀ d, (∀ i, d i = false) → S d w.drew) (hs : stepsS P .any l F V S 0 l)
    (hQ : ∀ vals d w', (∀ i, i < l.length → d i = true) → S d w' → allV V vals 0 l → Q .normal (F vals) w') : (Code.region id l.toArray true).wp P Q a w := by
  obtain rfl : putAll a l 0 = F := funext hF
  refine wp_region_any hm ?_
  have e : putAll a l 0 (fun i => ((l[i]?).bind (·.dst)).elim undef fun d => a.tmps.getD d undef) = a := by
    have aux : ∀ (rest : List Oper) (k : Nat) (vals : Nat → Value), (∀ i o, rest[i]? = some o → ∀ d, o.dst = some d → vals (k + i) = a.tmps.getD d undef) → putAll a rest k vals = a := by
      intro rest
      induction rest with
      | nil => intros; rfl
      | cons o rest ih =>
        intro k vals h
        show putAll (a.put o.dst (vals k)) rest (k + 1) vals = a
        rw [put_own a o.dst (vals k) (fun x hx => h 0 o rfl x hx)]
        exact ih (k + 1) vals fun i p hp d hd => by rw [show k + 1 + i = k + (i + 1) by omega]; exact h (i + 1) p (by simpa using hp) d hd
    refine aux l 0 _ fun i o ho d hd => ?_
    rw [Nat.zero_add, ho]
    simp [hd]
  have d0 : ∀ i, doneOf (Array.replicate l.toArray.size false) i = false := fun i => by
    unfold doneOf
    rw [Array.getD_eq_getD_getElem?, Array.getElem?_replicate]
    split <;> rfl
  have k := state_any (Q := Q) hS hA hs hQ l.toArray.size (Array.replicate l.toArray.size false) (fun i => ((l[i]?).bind (·.dst)).elim undef fun d => a.tmps.getD d undef) w.drew (by simp) (by
    unfold unlisted
    simp) (fun j o ho hj => by rw [d0] at hj; cases hj) (h0 _ d0) (fun i hi h => by
    rw [Array.getD_eq_getD_getElem?, Array.getElem?_replicate, if_pos (by simpa using hi)] at h
    cases h)
  rw [e] at k
  exact k
def ofList (l : List Value) (i : Nat) (v : Value) : Prop := v = l.getD i undef
end Go.Proofs.YthelklkfcllddaaGreatDoor
