/- A region that draws its order, makes a variable while a call makes memory of its own, and then stores a struct into it ('x := f(a[i], a[j])'): the other operations walked once, in the order of the text; the variable may be made ahead of any of them. No word of the program is in it. -/
import Derived.Test.YtliedfjaeakgeaaCell1
import Derived.Test.YtliedfjaeakgeaaLastAny
namespace Go.Proofs.Ytliedfjaeakgeaa
open Go.RowKit
set_option linter.unusedVariables false

variable {P : Program} {md : Region.Mode} {H : List Oper} {A1 : Act} {wa : World} {Q : Exit → Act → World → Prop} {oA oS : Oper} {N : Nat} {dA : Tmp} {tA : TypeId} {zA : Array Value}

def lst2 (L : Array Bool) (x : Bool) : Array Bool := (L.push x).push false
theorem lst2_low {L : Array Bool} {x : Bool} {j : Nat} (h : j < L.size) (d : Bool) : (lst2 L x).getD j d = L.getD j d := by
  unfold lst2
  rw [push_low (by simp; omega), push_low h]
theorem lst2_a {L : Array Bool} {x : Bool} (d : Bool) : (lst2 L x).getD L.size d = x := by
  unfold lst2
  rw [push_low (by simp), push_top]
theorem lst2_set {L : Array Bool} {x : Bool} {i : Nat} (h : i < L.size) : (lst2 L x).setIfInBounds i true = lst2 (L.setIfInBounds i true) x := by
  unfold lst2
  rw [push_cell (by simp; omega), push_cell h]
theorem lst2_set_a {L : Array Bool} {x : Bool} : (lst2 L x).setIfInBounds L.size true = lst2 L true := by
  unfold lst2
  rw [push_cell (by simp), push_cell_top]
theorem duo_low {i : Nat} (h : i < H.length) : ((H ++ [oA]) ++ [oS]).toArray[i]? = H.toArray[i]? := by
  simp [List.getElem?_append_left h]
theorem duo_a : ((H ++ [oA]) ++ [oS]).toArray[H.length]? = some oA := by simp
theorem duo_s : ((H ++ [oA]) ++ [oS]).toArray[H.length + 1]? = some oS := by simp
theorem duo_down (hO : ownB md H N dA = true) {L : Array Bool} {x : Bool} (hs : L.size = H.length) {i : Nat} (h : i < H.length) (k : i ∈ Region.ready md ((H ++ [oA]) ++ [oS]).toArray (lst2 L x)) : i ∈ Region.ready md H.toArray L := by
  obtain ⟨u, o, ho, hall⟩ := mem_ready.1 k
  rw [duo_low h] at ho
  have ho' : H[i]? = some o := by simpa using ho
  rw [lst2_low (by omega)] at u
  exact mem_ready.2 ⟨u, o, ho, fun e he hb => by
    have h1 := (ownB_spec hO ho').2.2.2.1 e he hb
    have h2 := hall e he hb
    rwa [lst2_low (by omega)] at h2⟩
theorem duo_up (hO : ownB md H N dA = true) {L : Array Bool} {x : Bool} (hs : L.size = H.length) {i : Nat} (k : i ∈ Region.ready md H.toArray L) : i ∈ Region.ready md ((H ++ [oA]) ++ [oS]).toArray (lst2 L x) := by
  obtain ⟨u, o, ho, hall⟩ := mem_ready.1 k
  have ho' : H[i]? = some o := by simpa using ho
  have h : i < H.length := by
    rcases Nat.lt_or_ge i H.length with k | k
    · exact k
    · rw [List.getElem?_eq_none k] at ho'; cases ho'
  exact mem_ready.2 ⟨by rw [lst2_low (by omega)]; exact u, o, by rw [duo_low h]; exact ho, fun e he hb => by
    have h1 := (ownB_spec hO ho').2.2.2.1 e he hb
    rw [lst2_low (by omega)]
    exact hall e he hb⟩
theorem duo_shut (hO : ownB md H N dA = true) {L : Array Bool} (hs : L.size = H.length) (h : ShutAny md H L) {i : Nat} (hi : i ∈ Region.ready md H.toArray L) : ShutAny md H (L.setIfInBounds i true) := by
  obtain ⟨u, o, ho, hall⟩ := mem_ready.1 hi
  have ho' : H[i]? = some o := by simpa using ho
  have more : ∀ j, L.getD j true = true → (L.setIfInBounds i true).getD j true = true := by
    intro j hj
    by_cases e : i = j
    · subst e
      rcases Nat.lt_or_ge i L.size with k | k
      · rw [Array.getD_eq_getD_getElem?, Array.getElem?_setIfInBounds_self_of_lt k]; rfl
      · rw [Array.getD_eq_getD_getElem?, Array.getElem?_eq_none (by simpa using k)]; rfl
    · rwa [getD_set_ne true e]
  intro j p hp hj e he hb
  by_cases eij : i = j
  · subst eij
    obtain rfl : o = p := Option.some.inj (ho'.symm.trans hp)
    have hl := (ownB_spec hO ho').2.2.2.1 e he hb
    have hi : i < H.length := by
      rcases Nat.lt_or_ge i H.length with k | k
      · exact k
      · rw [List.getElem?_eq_none k] at ho'; cases ho'
    have k := hall e he hb
    rw [getD_any (by omega) false true] at k
    exact more _ k
  · rw [getD_set_ne true eij] at hj
    exact more _ (h j p hp hj e he hb)
/-- What is asked of the last two: the first waits for none; the second for it and, if only through others, for all ahead. -/
def tail1B (md : Region.Mode) (H : List Oper) (oA oS : Oper) (dA : Tmp) : Bool :=
  (oA.guard.isNone && decide (oA.dst = some dA) && oA.after.isEmpty) && (oS.after.all (fun e => decide (e.on < H.length + 1)) && oS.after.any (fun e => Region.binds md e && e.on == H.length)) &&
  (List.range H.length).all fun i => oS.after.any (fun e => Region.binds md e && e.on == i) || (List.range H.length).any fun j => match H[j]? with | some o => o.after.any (fun e => Region.binds md e && e.on == i) | none => false
theorem tail1B_spec (h : tail1B md H oA oS dA = true) :
    (oA.guard = none ∧ oA.dst = some dA ∧ oA.after = #[]) ∧ (∀ e ∈ oS.after, e.on < H.length + 1) ∧ (∃ e ∈ oS.after, Region.binds md e = true ∧ e.on = H.length) ∧
      ∀ i, i < H.length → (∃ e ∈ oS.after, Region.binds md e = true ∧ e.on = i) ∨ ∃ (j : Nat) (x : Oper), H[j]? = some x ∧ ∃ e ∈ x.after, Region.binds md e = true ∧ e.on = i := by
  unfold tail1B at h
  simp only [Bool.and_eq_true, Option.isNone_iff_eq_none, decide_eq_true_eq, Array.isEmpty_iff] at h
  obtain ⟨⟨⟨⟨a1, a2⟩, a3⟩, s1, s2⟩, s4⟩ := h
  refine ⟨⟨a1, a2, a3⟩, fun e he => ?_, any_on s2, fun i hi => ?_⟩
  · simpa using Array.all_eq_true'.1 s1 e he
  · have k := List.all_eq_true.1 s4 i (List.mem_range.2 hi)
    rw [Bool.or_eq_true] at k
    rcases k with k | k
    · exact .inl (any_on k)
    · obtain ⟨j, hj, k4⟩ := List.any_eq_true.1 k
      split at k4
      · rename_i o ho
        exact .inr ⟨j, o, ho, any_on k4⟩
      · cases k4
def cost1 : Option (Nat × Array Value) → Nat
  | none => 1
  | some _ => 0
theorem duo_parts {L : Array Bool} {x : Bool} (hs : L.size = H.length) {i : Nat} (k : i ∈ Region.ready md ((H ++ [oA]) ++ [oS]).toArray (lst2 L x)) : i < H.length ∨ (i = H.length ∧ x = false) ∨ i = H.length + 1 := by
  obtain ⟨u, o, ho, _⟩ := mem_ready.1 k
  have h3 : i < H.length + 2 := by simpa using (Array.getElem?_eq_some_iff.1 ho).1
  rcases Nat.lt_or_ge i H.length with h | h
  · exact .inl h
  · by_cases e : i = H.length
    · subst e
      rw [← hs, lst2_a] at u
      exact .inr (.inl ⟨rfl, u⟩)
    · exact .inr (.inr (by omega))
theorem duo_waits (hO : ownB md H N dA = true) (hT : tail1B md H oA oS dA = true) {L : Array Bool} {x : Bool} (hs : L.size = H.length) (hsh : ShutAny md H L) (k : H.length + 1 ∈ Region.ready md ((H ++ [oA]) ++ [oS]).toArray (lst2 L x)) : x = true ∧ ∀ i, i < H.length → L.getD i true = true := by
  obtain ⟨_, hl, ⟨eA, hA, bA, nA⟩, hr⟩ := tail1B_spec hT
  obtain ⟨u, o, ho, hall⟩ := mem_ready.1 k
  rw [duo_s] at ho
  cases ho
  have kA := hall eA hA bA
  rw [nA, ← hs, lst2_a] at kA
  refine ⟨kA, fun i hi => all_up (o := oS) hr (fun i x hx => ⟨(ownB_spec hO hx).1, (ownB_spec hO hx).2.2.2.1⟩) hsh (fun e he hb => ?_) H.length i hi (by omega)⟩
  have k1 := hall e he hb
  have := hl e he
  by_cases q : e.on < H.length
  · rw [lst2_low (by omega), getD_any (by omega) false true] at k1
    exact k1
  · rw [Array.getD_eq_getD_getElem?, Array.getElem?_eq_none (by omega)]
    rfl
theorem duo_made (hO : ownB md H N dA = true) (hT : tail1B md H oA oS dA = true)
    (hA : ∀ (a : Act) (w : World), (execOp a.eval oA).run P w = .ok (.value (.pointer (some ⟨w.heap.size, 0, none⟩))) (w.alloc (.cells zA tA)))
    (hEnd : ∀ g w, inS wa tA (some (g, zA)) w → wpList P ((H ++ [oA]) ++ [oS]).toArray Q [oS] (actS dA (some (g, zA)) A1) w) :
    ∀ (n fuel : Nat) (s : Option (Nat × Array Value)) (L : Array Bool) (a : Act) (w : World), n = fuel + cost1 s → (∀ p, s = some p → p.2 = zA) → L.size = H.length → a.tmps.size = N → ShutAny md H L → inS wa tA s w → Fam P md H A1 wa fuel L a →
      wpAny P md ((H ++ [oA]) ++ [oS]).toArray Q (n + 1) (lst2 L s.isSome) (actS dA s a) w := by
  obtain ⟨⟨a1, a2, a3⟩, sS, _, _⟩ := tail1B_spec hT
  intro n
  induction n using Nat.strongRecOn with
  | _ n ih =>
    intro fuel s L a w hn h1 hs hN hsh hin hF
    by_cases done : Region.ready md H.toArray L = [] ∧ s.isSome = true
    · obtain ⟨e, q1⟩ := done
      obtain ⟨⟨g, z⟩, rfl⟩ := Option.isSome_iff_exists.1 q1
      obtain rfl : z = zA := h1 _ rfl
      have hall := low_done hO hs e
      have hA1 := fam_end hF e
      subst hA1
      exact one_left (H := H ++ [oA]) (by simpa using sS) (L := L.push true) (by simp [hs]) (fun i hi => by
        have hi' : i < H.length + 1 := by simpa using hi
        by_cases k1 : i < H.length
        · rw [push_low (by omega)]; exact hall i k1
        · have k2 : i = L.size := by omega
          subst k2
          exact push_top _ _) (hEnd g w hin) n
    · have npos : ∃ m, n = m + 1 := by
        by_cases e : Region.ready md H.toArray L = []
        · cases s with
          | none => exact ⟨fuel, by rw [hn]; simp only [cost1]⟩
          | some p => exact absurd ⟨e, rfl⟩ done
        · obtain ⟨i0, hi0⟩ := List.exists_mem_of_ne_nil _ e
          obtain ⟨f, rfl⟩ := fam_more hF hi0
          exact ⟨f + cost1 s, by omega⟩
      obtain ⟨m, rfl⟩ := npos
      refine ⟨fun e1 => ?_, fun i hi => ?_⟩
      · exfalso
        by_cases e : Region.ready md H.toArray L = []
        · cases s with
          | none =>
            have : H.length ∈ Region.ready md ((H ++ [oA]) ++ [oS]).toArray (lst2 L (none : Option (Nat × Array Value)).isSome) := mem_ready.2 ⟨by rw [← hs]; exact lst2_a true, oA, duo_a, fun e he hb => by rw [a3] at he; simp at he⟩
            rw [e1] at this
            cases this
          | some p => exact done ⟨e, rfl⟩
        · obtain ⟨i0, hi0⟩ := List.exists_mem_of_ne_nil _ e
          have := duo_up (oA := oA) (oS := oS) (x := s.isSome) hO hs hi0
          rw [e1] at this
          cases this
      · rcases duo_parts hs hi with h | ⟨h, hx⟩ | h
        · have hr := duo_down hO hs h hi
          obtain ⟨u, o, ho, _⟩ := mem_ready.1 hr
          have ho' : H[i]? = some o := by simpa using ho
          obtain ⟨f, rfl⟩ := fam_more hF hr
          refine step_low hO hr ho' (by rw [duo_low h]; exact ho) hF hN hin fun v w' hin' hF' => ?_
          rw [lst2_set (by omega)]
          exact ih m (by omega) f s _ _ w' (by omega) h1 (by simpa using hs) (by rw [put_size]; exact hN) (duo_shut hO hs hsh hr) hin' hF'
        · subst h
          have hs1 : s = none := by cases s with | none => rfl | some p => cases hx
          subst hs1
          unfold wpOp
          rw [duo_a]
          simp only [Region.wanted, a1, if_true]
          refine .inl ?_
          unfold Oper.wp
          rw [hA]
          show wpAny P md _ Q (m + 1) ((lst2 L false).setIfInBounds H.length true) (a.put oA.dst _) (w.alloc _)
          rw [a2, ← hs, lst2_set_a]
          have hin' : Below wa.heap.size wa w := hin
          have hlt := hin'.size
          have hb : Below w.heap.size w (w.alloc (.cells zA tA)) := (Below.refl _ w).alloc (Nat.le_refl _) _
          exact ih m (by omega) fuel (some (w.heap.size, zA)) L a _ (by have hn' : m + 1 = fuel + 1 := hn; show m = fuel + 0; omega) (fun p e => by cases e; rfl) hs hN hsh ⟨bnext hin' hb, heap_alloc_new _ _, hlt⟩ hF
        · subst h
          exfalso
          obtain ⟨x1, x3⟩ := duo_waits hO hT hs hsh hi
          refine done ⟨?_, x1⟩
          apply List.eq_nil_iff_forall_not_mem.2
          intro j hj
          obtain ⟨u, o, ho, _⟩ := mem_ready.1 hj
          have hj' : j < H.length := by simpa using (Array.getElem?_eq_some_iff.1 ho).1
          rw [x3 j hj'] at u
          cases u
/-- THE WHOLE: the operations but the last two walked in the order of the text, each quiet in each class, the frame behind them the same; then the store, the variable's block wherever it is. -/
theorem wp_region_one {id : Nat} {a : Act} {w : World} {l : List Oper} (H : List Oper) (oA oS : Oper) (hl : l = (H ++ [oA]) ++ [oS]) (zA : Array Value) (tA : TypeId) (N : Nat) (dA : Tmp) (hm : P.follows .mixedOrders = true) (hLex : Region.lexB .any H.toArray = true)
    (hO : ownB .any H N dA = true) (hT : tail1B .any H oA oS dA = true) (hN : a.tmps.size = N)
    (hA : ∀ (a : Act) (w : World), (execOp a.eval oA).run P w = .ok (.value (.pointer (some ⟨w.heap.size, 0, none⟩))) (w.alloc (.cells zA tA)))
    (h : ∃ A1 : Act, (∀ W, Below w.heap.size w W → wpQuiet P H.toArray (fun w' => ∃ x : Kept W, w' = x.val) (fun a' => a' = A1) H a) ∧
      ∀ g w', Below w.heap.size w w' → w'.heap[g]? = some (.cells zA tA (0, 0)) → w.heap.size ≤ g → wpList P l.toArray Q [oS] (A1.put (some dA) (.pointer (some ⟨g, 0, none⟩))) w') : (Code.region id l.toArray true).wp P Q a w := by
  obtain ⟨A1, hW, hEnd⟩ := h
  subst hl
  simp only [Region.lexB, Bool.and_eq_true] at hLex
  refine wp_region_any hm ?_
  have bd : Below w.heap.size w { w with drawn := w.drawn + 1 } := (Below.refl _ w).drew
  have hF : Fam P .any H A1 { w with drawn := w.drawn + 1 } H.length (Array.replicate H.toArray.size false) a := fun W hW' =>
    wpAnyQ_lex (C := KC W) (md := .any) hLex.1 H 0 (Array.replicate H.toArray.size false) a (by simp) (by simpa using hLex.2) (hW W (bd.trans hW'))
  have hsh : ShutAny .any H (Array.replicate H.toArray.size false) := fun i o ho hi => by
    have hi' : i < H.length := by
      rcases Nat.lt_or_ge i H.length with k | k
      · exact k
      · rw [List.getElem?_eq_none k] at ho; cases ho
    rw [Array.getD_eq_getD_getElem?, Array.getElem?_replicate, if_pos (by simpa using hi')] at hi
    cases hi
  have k := duo_made (Q := Q) (wa := { w with drawn := w.drawn + 1 }) (zA := zA) hO hT hA (fun g w' hi => hEnd g w' (bd.trans hi.1) hi.2.1 hi.2.2) (H.length + 1) H.length none (Array.replicate H.toArray.size false) a _ rfl (fun _ e => by cases e) (by simp) hN hsh (Below.refl _ _) hF
  have e : lst2 (Array.replicate H.toArray.size false) false = Array.replicate ((H ++ [oA]) ++ [oS]).toArray.size false := by
    unfold lst2
    simp [Array.replicate_succ]
  have k : wpAny P .any ((H ++ [oA]) ++ [oS]).toArray Q (H.length + 1 + 1) (lst2 (Array.replicate H.toArray.size false) false) a { w with drawn := w.drawn + 1 } := k
  rw [e] at k
  simpa using k
end Go.Proofs.Ytliedfjaeakgeaa
