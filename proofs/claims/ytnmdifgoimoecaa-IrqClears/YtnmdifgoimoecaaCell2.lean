/- A region that draws its order, makes two variables while calls make memory of their own, and then stores two structs into them ('x, y := f(a), g(b)'): the other operations walked once, in the order of the text; the variables may be made ahead of any of them, in either order. No word of the program is in it. -/
import Derived.Test.YtnmdifgoimoecaaCell1
namespace Go.Proofs.Ytnmdifgoimoecaa
open Go.RowKit
set_option linter.unusedVariables false

variable {P : Program} {md : Region.Mode} {H : List Oper} {A1 : Act} {wa : World} {Q : Exit → Act → World → Prop} {oA oB oS oT : Oper} {N : Nat} {dA dB : Tmp} {tA tB : TypeId} {zA zB : Array Value}

/-! ### The last two, in their order -/
theorem two_left {G : List Oper} (hS : ∀ e ∈ oS.after, e.on < G.length) (hT : ∀ e ∈ oT.after, e.on < G.length + 1) (hTS : ∃ e ∈ oT.after, Region.binds md e = true ∧ e.on = G.length) {L : Array Bool} (hs : L.size = G.length) (hL : ∀ i, i < G.length → L.getD i true = true) {a : Act} {w : World}
    (h : wpList P ((G ++ [oS]) ++ [oT]).toArray Q [oS, oT] a w) (f : Nat) : wpAny P md ((G ++ [oS]) ++ [oT]).toArray Q (f + 2) ((L.push false).push false) a w := by
  have top : ((G ++ [oS]) ++ [oT]).toArray[G.length]? = some oS := by simp
  refine ⟨fun e => ?_, fun i hi => ?_⟩
  · exfalso
    have : G.length ∈ Region.ready md ((G ++ [oS]) ++ [oT]).toArray ((L.push false).push false) := mem_ready.2 ⟨by rw [push_low (by simp [hs]), ← hs]; exact push_top _ _, oS, top, fun e he _ => by
      have h1 := hS e he
      rw [push_low (by simp [hs]; omega), push_low (by omega), getD_any (by omega) false true]
      exact hL _ h1⟩
    rw [e] at this
    cases this
  · obtain ⟨h1, x, h2, h4⟩ := mem_ready.1 hi
    have h3 : i < G.length + 2 := by simpa using (Array.getElem?_eq_some_iff.1 h2).1
    have hin : i = G.length := by
      rcases Nat.lt_or_ge i G.length with k | k
      · rw [push_low (by simp [hs]; omega), push_low (by omega), hL i k] at h1; cases h1
      · rcases Nat.lt_or_ge i (G.length + 1) with k2 | k2
        · omega
        · exfalso
          have hi1 : i = G.length + 1 := by omega
          subst hi1
          have hx : x = oT := by
            have : ((G ++ [oS]) ++ [oT]).toArray[G.length + 1]? = some oT := by simp
            exact Option.some.inj (h2.symm.trans this)
          subst hx
          obtain ⟨e, he, hb, on⟩ := hTS
          have k3 := h4 e he hb
          rw [on, push_low (by simp [hs]), ← hs, push_top] at k3
          cases k3
    subst hin
    have hw : wpOp P ((G ++ [oS]) ++ [oT]).toArray Q G.length (fun a w => wpList P ((G ++ [oS]) ++ [oT]).toArray Q [oT] a w) a w := by
      unfold wpOp
      rw [top]
      exact h
    refine wpOp_mono (fun a' w' hq => ?_) hw
    have hset : ((L.push false).push false).setIfInBounds G.length true = (L.push true).push false := by
      rw [push_set (by simp [hs]), ← hs, push_set_top]
    rw [hset]
    exact one_left (H := G ++ [oS]) (o := oT) (by simpa using hT) (by simp [hs]) (fun j hj => by
      have hj' : j < G.length + 1 := by simpa using hj
      rcases Nat.lt_or_ge j G.length with k | k
      · rw [push_low (by omega)]; exact hL j k
      · have : j = L.size := by omega
        subst this; exact push_top _ _) hq f

/-! ### Two variables: not made yet, or made -/
def act2 (dA dB : Tmp) (s1 s2 : Option (Nat × Array Value)) (a : Act) : Act := actS dA s1 (actS dB s2 a)
def in2 (wa : World) (tA tB : TypeId) (s1 s2 : Option (Nat × Array Value)) (w : World) : Prop := inS wa tA s1 w ∧ inS wa tB s2 w ∧ ∀ p q, s1 = some p → s2 = some q → p.1 ≠ q.1
theorem in2.next {s1 s2 : Option (Nat × Array Value)} {w w' : World} (h : in2 wa tA tB s1 s2 w) (k : Below w.heap.size w w') : in2 wa tA tB s1 s2 w' := ⟨h.1.next k, h.2.1.next k, h.2.2⟩
theorem act2_put (s1 s2 : Option (Nat × Array Value)) (a : Act) (d : Option Tmp) (v : Value) (h1 : d ≠ some dA) (h2 : d ≠ some dB) : (act2 dA dB s1 s2 a).put d v = act2 dA dB s1 s2 (a.put d v) := by
  unfold act2
  rw [actS_put dA s1 _ d v h1, actS_put dB s2 a d v h2]
theorem exec_skip {ops : Array Oper} {o : Oper} (g1 : ∀ cs b, o.op ≠ .select cs b) {d : Tmp} (g2 : d ∉ o.looksAt ops) (s : Option (Nat × Array Value)) (a : Act) : execOp (actS d s a).eval o = execOp a.eval o := by
  match s with
  | none => rfl
  | some (g, cs) => exact execOp_put (ops := ops) o g1 a (some d) _ (fun d' e => by cases e; exact g2)
theorem step2 {ops : Array Oper} (hO : ownB md H N dA = true) (hO2 : ownB md H N dB = true) {fuel : Nat} {L : Array Bool} {a : Act} {i : Nat} {o : Oper} (hi : i ∈ Region.ready md H.toArray L) (ho : H[i]? = some o) (hoo : ops[i]? = some o)
    (hF : Fam P md H A1 wa (fuel + 1) L a) (hN : a.tmps.size = N) {s1 s2 : Option (Nat × Array Value)} {w : World} (hin : in2 wa tA tB s1 s2 w) {K : Act → World → Prop}
    (hK : ∀ v w', in2 wa tA tB s1 s2 w' → Fam P md H A1 wa fuel (L.setIfInBounds i true) (a.put o.dst v) → K (act2 dA dB s1 s2 (a.put o.dst v)) w') : wpOp P ops Q i K (act2 dA dB s1 s2 a) w := by
  obtain ⟨g0, g1, g2, g3, d, hd, hdN, hdA, hdj⟩ := ownB_spec hO ho
  obtain ⟨_, _, g2', _, d', hd', _, hdB, _⟩ := ownB_spec hO2 ho
  obtain rfl : d = d' := Option.some.inj (hd.symm.trans hd')
  obtain ⟨v, hq, hF'⟩ := fam_step hO hi ho hF hN
  unfold wpOp
  rw [hoo]
  simp only [Region.wanted, g0, if_true]
  refine .inl (Oper.wp_of_quiet (C := KC w) (K := fun a' => a' = (act2 dA dB s1 s2 a).put o.dst v) (kc_self w) (fun a' w' hc e => ?_) ⟨v, fun w1 h1 => ?_, rfl⟩)
  · subst e
    rw [act2_put s1 s2 a o.dst v (by rw [hd]; intro e; cases e; exact hdA rfl) (by rw [hd]; intro e; cases e; exact hdB rfl)]
    exact hK v w' (hin.next (kc_below hc)) hF'
  · have k := hq w hin.1.below w1 h1
    unfold Oper.quietAt at *
    have e : execOp (act2 dA dB s1 s2 a).eval o = execOp a.eval o := by
      unfold act2
      rw [exec_skip (ops := H.toArray) g1 g2, exec_skip (ops := H.toArray) g1 g2']
    rw [e]
    exact k

/-! ### What has come up -/
def lst4 (L : Array Bool) (x y : Bool) : Array Bool := (((L.push x).push y).push false).push false
theorem lst4_low {L : Array Bool} {x y : Bool} {j : Nat} (h : j < L.size) (d : Bool) : (lst4 L x y).getD j d = L.getD j d := by
  unfold lst4
  rw [push_low (by simp; omega), push_low (by simp; omega), push_low (by simp; omega), push_low h]
theorem lst4_a {L : Array Bool} {x y : Bool} (d : Bool) : (lst4 L x y).getD L.size d = x := by
  unfold lst4
  rw [push_low (by simp; omega), push_low (by simp; omega), push_low (by simp), push_top]
theorem lst4_b {L : Array Bool} {x y : Bool} (d : Bool) : (lst4 L x y).getD (L.size + 1) d = y := by
  unfold lst4
  rw [push_low (by simp), push_low (by simp)]
  have := push_top (L := L.push x) y d
  simpa using this
theorem lst4_s {L : Array Bool} {x y : Bool} (d : Bool) : (lst4 L x y).getD (L.size + 2) d = false := by
  unfold lst4
  rw [push_low (by simp)]
  have := push_top (L := (L.push x).push y) false d
  simpa using this
theorem lst4_set {L : Array Bool} {x y : Bool} {i : Nat} (h : i < L.size) : (lst4 L x y).setIfInBounds i true = lst4 (L.setIfInBounds i true) x y := by
  unfold lst4
  rw [push_set (by simp; omega), push_set (by simp; omega), push_set (by simp; omega), push_set h]
theorem lst4_set_a {L : Array Bool} {x y : Bool} : (lst4 L x y).setIfInBounds L.size true = lst4 L true y := by
  unfold lst4
  rw [push_set (by simp; omega), push_set (by simp; omega), push_set (by simp), push_set_top]
theorem lst4_set_b {L : Array Bool} {x y : Bool} : (lst4 L x y).setIfInBounds (L.size + 1) true = lst4 L x true := by
  unfold lst4
  rw [push_set (by simp), push_set (by simp)]
  have := push_set_top (L := L.push x) y
  simp at this
  rw [this]

theorem four_low {i : Nat} (h : i < H.length) : (((H ++ [oA, oB]) ++ [oS]) ++ [oT]).toArray[i]? = H.toArray[i]? := by
  simp [List.getElem?_append_left h]
theorem four_a : (((H ++ [oA, oB]) ++ [oS]) ++ [oT]).toArray[H.length]? = some oA := by simp
theorem four_b : (((H ++ [oA, oB]) ++ [oS]) ++ [oT]).toArray[H.length + 1]? = some oB := by simp
theorem four_s : (((H ++ [oA, oB]) ++ [oS]) ++ [oT]).toArray[H.length + 2]? = some oS := by simp
theorem four_t : (((H ++ [oA, oB]) ++ [oS]) ++ [oT]).toArray[H.length + 3]? = some oT := by simp
theorem down4 (hO : ownB md H N dA = true) {L : Array Bool} {x y : Bool} (hs : L.size = H.length) {i : Nat} (h : i < H.length) (k : i ∈ Region.ready md (((H ++ [oA, oB]) ++ [oS]) ++ [oT]).toArray (lst4 L x y)) : i ∈ Region.ready md H.toArray L := by
  obtain ⟨u, o, ho, hall⟩ := mem_ready.1 k
  rw [four_low h] at ho
  have ho' : H[i]? = some o := by simpa using ho
  rw [lst4_low (by omega)] at u
  exact mem_ready.2 ⟨u, o, ho, fun e he hb => by
    have h1 := (ownB_spec hO ho').2.2.2.1 e he hb
    have h2 := hall e he hb
    rwa [lst4_low (by omega)] at h2⟩
theorem up4 (hO : ownB md H N dA = true) {L : Array Bool} {x y : Bool} (hs : L.size = H.length) {i : Nat} (k : i ∈ Region.ready md H.toArray L) : i ∈ Region.ready md (((H ++ [oA, oB]) ++ [oS]) ++ [oT]).toArray (lst4 L x y) := by
  obtain ⟨u, o, ho, hall⟩ := mem_ready.1 k
  have ho' : H[i]? = some o := by simpa using ho
  have h : i < H.length := by
    rcases Nat.lt_or_ge i H.length with k | k
    · exact k
    · rw [List.getElem?_eq_none k] at ho'; cases ho'
  exact mem_ready.2 ⟨by rw [lst4_low (by omega)]; exact u, o, by rw [four_low h]; exact ho, fun e he hb => by
    have h1 := (ownB_spec hO ho').2.2.2.1 e he hb
    rw [lst4_low (by omega)]
    exact hall e he hb⟩

/-- What has come up has all come up that it waits for. -/
def shutL (md : Region.Mode) (H : List Oper) (L : Array Bool) : Prop := ∀ (i : Nat) (o : Oper), H[i]? = some o → L.getD i true = true → ∀ e ∈ o.after, Region.binds md e = true → L.getD e.on false = true
theorem shut_set {L : Array Bool} (hs : L.size = H.length) (h : shutL md H L) {i : Nat} (hi : i ∈ Region.ready md H.toArray L) : shutL md H (L.setIfInBounds i true) := by
  obtain ⟨u, o, ho, hall⟩ := mem_ready.1 hi
  have ho' : H[i]? = some o := by simpa using ho
  have more : ∀ j, L.getD j false = true → (L.setIfInBounds i true).getD j false = true := by
    intro j hj
    by_cases e : i = j
    · subst e
      rcases Nat.lt_or_ge i L.size with k | k
      · rw [Array.getD_eq_getD_getElem?, Array.getElem?_setIfInBounds_self_of_lt k]; rfl
      · rw [Array.getD_eq_getD_getElem?, Array.getElem?_eq_none k] at hj; cases hj
    · rwa [getD_set_ne false e]
  intro j p hp hj e he hb
  by_cases eij : i = j
  · subst eij
    obtain rfl : o = p := Option.some.inj (ho'.symm.trans hp)
    exact more _ (hall e he hb)
  · rw [getD_set_ne true eij] at hj
    exact more _ (h j p hp hj e he hb)

/-- What is asked of the last four: the first two wait for none; the third for all ahead of it, if only by what it waits for; the fourth for the third. -/
def tail2B (md : Region.Mode) (H : List Oper) (oA oB oS oT : Oper) (dA dB : Tmp) : Bool :=
  (oA.guard.isNone && decide (oA.dst = some dA) && oA.after.isEmpty) && (oB.guard.isNone && decide (oB.dst = some dB) && oB.after.isEmpty) && decide (dA ≠ dB) &&
  (oS.after.all (fun e => decide (e.on < H.length + 2)) && oS.after.any (fun e => Region.binds md e && e.on == H.length) && oS.after.any (fun e => Region.binds md e && e.on == H.length + 1)) &&
  ((List.range H.length).all fun i => oS.after.any (fun e => Region.binds md e && e.on == i) || (List.range H.length).any fun j => oS.after.any (fun e => Region.binds md e && e.on == j) && (match H[j]? with | some o => o.after.any (fun e => Region.binds md e && e.on == i) | none => false)) &&
  (oT.after.all (fun e => decide (e.on < H.length + 3)) && oT.after.any (fun e => Region.binds md e && e.on == H.length + 2))
theorem tail2B_spec (h : tail2B md H oA oB oS oT dA dB = true) :
    (oA.guard = none ∧ oA.dst = some dA ∧ oA.after = #[]) ∧ (oB.guard = none ∧ oB.dst = some dB ∧ oB.after = #[]) ∧ dA ≠ dB ∧ (∀ e ∈ oS.after, e.on < H.length + 2) ∧ (∃ e ∈ oS.after, Region.binds md e = true ∧ e.on = H.length) ∧ (∃ e ∈ oS.after, Region.binds md e = true ∧ e.on = H.length + 1) ∧
      (∀ i, i < H.length → (∃ e ∈ oS.after, Region.binds md e = true ∧ e.on = i) ∨ ∃ (j : Nat) (o : Oper), H[j]? = some o ∧ j < H.length ∧ (∃ e ∈ oS.after, Region.binds md e = true ∧ e.on = j) ∧ ∃ e ∈ o.after, Region.binds md e = true ∧ e.on = i) ∧
      (∀ e ∈ oT.after, e.on < H.length + 3) ∧ ∃ e ∈ oT.after, Region.binds md e = true ∧ e.on = H.length + 2 := by
  unfold tail2B at h
  simp only [Bool.and_eq_true, Option.isNone_iff_eq_none, decide_eq_true_eq, Array.isEmpty_iff] at h
  obtain ⟨⟨⟨⟨⟨⟨⟨a1, a2⟩, a3⟩, ⟨b1, b2⟩, b3⟩, hab⟩, ⟨s1, s2⟩, s3⟩, s4⟩, t1, t2⟩ := h
  refine ⟨⟨a1, a2, a3⟩, ⟨b1, b2, b3⟩, hab, fun e he => ?_, any_on s2, any_on s3, fun i hi => ?_, fun e he => ?_, any_on t2⟩
  · simpa using Array.all_eq_true'.1 s1 e he
  · have k := List.all_eq_true.1 s4 i (List.mem_range.2 hi)
    rw [Bool.or_eq_true] at k
    rcases k with k | k
    · exact .inl (any_on k)
    · obtain ⟨j, hj, k2⟩ := List.any_eq_true.1 k
      rw [Bool.and_eq_true] at k2
      obtain ⟨k3, k4⟩ := k2
      split at k4
      · rename_i o ho
        exact .inr ⟨j, o, ho, List.mem_range.1 hj, any_on k3, any_on k4⟩
      · cases k4
  · simpa using Array.all_eq_true'.1 t1 e he

def cost : Option (Nat × Array Value) → Nat
  | none => 1
  | some _ => 0
theorem parts4 {L : Array Bool} {x y : Bool} (hs : L.size = H.length) {i : Nat} (k : i ∈ Region.ready md (((H ++ [oA, oB]) ++ [oS]) ++ [oT]).toArray (lst4 L x y)) :
    i < H.length ∨ (i = H.length ∧ x = false) ∨ (i = H.length + 1 ∧ y = false) ∨ i = H.length + 2 ∨ i = H.length + 3 := by
  obtain ⟨u, o, ho, _⟩ := mem_ready.1 k
  have h3 : i < H.length + 4 := by simpa using (Array.getElem?_eq_some_iff.1 ho).1
  rcases Nat.lt_or_ge i H.length with h | h
  · exact .inl h
  · by_cases e : i = H.length
    · subst e
      rw [← hs, lst4_a] at u
      exact .inr (.inl ⟨rfl, u⟩)
    · by_cases e2 : i = H.length + 1
      · subst e2
        rw [← hs, lst4_b] at u
        exact .inr (.inr (.inl ⟨rfl, u⟩))
      · by_cases e3 : i = H.length + 2
        · exact .inr (.inr (.inr (.inl e3)))
        · exact .inr (.inr (.inr (.inr (by omega))))
/-- Where the third is ready all ahead of it have come up. -/
theorem third_waits (hT : tail2B md H oA oB oS oT dA dB = true) {L : Array Bool} {x y : Bool} (hs : L.size = H.length) (hsh : shutL md H L) (k : H.length + 2 ∈ Region.ready md (((H ++ [oA, oB]) ++ [oS]) ++ [oT]).toArray (lst4 L x y)) : x = true ∧ y = true ∧ ∀ i, i < H.length → L.getD i true = true := by
  obtain ⟨_, _, _, _, ⟨eA, hA, bA, nA⟩, ⟨eB, hB, bB, nB⟩, hr, _, _⟩ := tail2B_spec hT
  obtain ⟨u, o, ho, hall⟩ := mem_ready.1 k
  rw [four_s] at ho
  cases ho
  have kA := hall eA hA bA
  rw [nA, ← hs, lst4_a] at kA
  have kB := hall eB hB bB
  rw [nB, ← hs, lst4_b] at kB
  refine ⟨kA, kB, fun i hi => ?_⟩
  rcases hr i hi with ⟨e, he, hb, on⟩ | ⟨j, o, ho, hj, ⟨e, he, hb, on⟩, e2, he2, hb2, on2⟩
  · have k1 := hall e he hb
    rw [on, lst4_low (by omega), getD_any (by omega) false true] at k1
    exact k1
  · have k1 := hall e he hb
    rw [on, lst4_low (by omega), getD_any (by omega) false true] at k1
    have k2 := hsh j o ho k1 e2 he2 hb2
    rw [on2, getD_any (by omega) false true] at k2
    exact k2

theorem both_made (hO : ownB md H N dA = true) (hO2 : ownB md H N dB = true) (hT : tail2B md H oA oB oS oT dA dB = true)
    (hA : ∀ (a : Act) (w : World), (execOp a.eval oA).run P w = .ok (.value (.pointer (some ⟨w.heap.size, 0, none⟩))) (w.alloc (.cells zA tA)))
    (hB : ∀ (a : Act) (w : World), (execOp a.eval oB).run P w = .ok (.value (.pointer (some ⟨w.heap.size, 0, none⟩))) (w.alloc (.cells zB tB)))
    (hEnd : ∀ g h w, in2 wa tA tB (some (g, zA)) (some (h, zB)) w → wpList P (((H ++ [oA, oB]) ++ [oS]) ++ [oT]).toArray Q [oS, oT] (act2 dA dB (some (g, zA)) (some (h, zB)) A1) w) :
    ∀ (n fuel : Nat) (s1 s2 : Option (Nat × Array Value)) (L : Array Bool) (a : Act) (w : World), n = fuel + cost s1 + cost s2 → (∀ p, s1 = some p → p.2 = zA) → (∀ p, s2 = some p → p.2 = zB) → L.size = H.length → a.tmps.size = N → shutL md H L → in2 wa tA tB s1 s2 w → Fam P md H A1 wa fuel L a →
      wpAny P md (((H ++ [oA, oB]) ++ [oS]) ++ [oT]).toArray Q (n + 2) (lst4 L s1.isSome s2.isSome) (act2 dA dB s1 s2 a) w := by
  obtain ⟨⟨a1, a2, a3⟩, ⟨b1, b2, b3⟩, hab, sS, _, _, _, sT, sTS⟩ := tail2B_spec hT
  intro n
  induction n using Nat.strongRecOn with
  | _ n ih =>
    intro fuel s1 s2 L a w hn h1 h2 hs hN hsh hin hF
    by_cases done : Region.ready md H.toArray L = [] ∧ s1.isSome = true ∧ s2.isSome = true
    · obtain ⟨e, q1, q2⟩ := done
      obtain ⟨⟨g, z⟩, rfl⟩ := Option.isSome_iff_exists.1 q1
      obtain ⟨⟨h, z'⟩, rfl⟩ := Option.isSome_iff_exists.1 q2
      obtain rfl : z = zA := h1 _ rfl
      obtain rfl : z' = zB := h2 _ rfl
      have hall := low_done hO hs e
      have hA1 := fam_end hF e
      subst hA1
      exact two_left (G := H ++ [oA, oB]) (by simpa using sS) (by simpa using sT) (by simpa using sTS) (L := (L.push true).push true) (by simp [hs]) (fun i hi => by
        have hi' : i < H.length + 2 := by simpa using hi
        have k : (lst4 L true true).getD i true = true := by
          by_cases k1 : i < H.length
          · rw [lst4_low (by omega)]; exact hall i k1
          · by_cases k2 : i = H.length
            · subst k2; rw [← hs]; exact lst4_a true
            · have k3 : i = H.length + 1 := by omega
              subst k3; rw [← hs]; exact lst4_b true
        unfold lst4 at k
        rwa [push_low (by simp [hs]; omega), push_low (by simp [hs]; omega)] at k) (hEnd g h w hin) n
    · have npos : ∃ m, n = m + 1 := by
        by_cases e : Region.ready md H.toArray L = []
        · cases s1 with
          | none => exact ⟨fuel + cost s2, by rw [hn]; simp only [cost]; omega⟩
          | some p =>
            cases s2 with
            | none => exact ⟨fuel, by rw [hn]; simp only [cost]⟩
            | some q => exact absurd ⟨e, rfl, rfl⟩ done
        · obtain ⟨i0, hi0⟩ := List.exists_mem_of_ne_nil _ e
          obtain ⟨f, rfl⟩ := fam_more hF hi0
          exact ⟨f + cost s1 + cost s2, by omega⟩
      obtain ⟨m, rfl⟩ := npos
      refine ⟨fun e1 => ?_, fun i hi => ?_⟩
      · exfalso
        by_cases e : Region.ready md H.toArray L = []
        · cases s1 with
          | none =>
            have : H.length ∈ Region.ready md (((H ++ [oA, oB]) ++ [oS]) ++ [oT]).toArray (lst4 L (none : Option (Nat × Array Value)).isSome s2.isSome) := mem_ready.2 ⟨by rw [← hs]; exact lst4_a true, oA, four_a, fun e he hb => by rw [a3] at he; simp at he⟩
            rw [e1] at this
            cases this
          | some p =>
            cases s2 with
            | none =>
              have : H.length + 1 ∈ Region.ready md (((H ++ [oA, oB]) ++ [oS]) ++ [oT]).toArray (lst4 L (some p).isSome (none : Option (Nat × Array Value)).isSome) := mem_ready.2 ⟨by rw [← hs]; exact lst4_b true, oB, four_b, fun e he hb => by rw [b3] at he; simp at he⟩
              rw [e1] at this
              cases this
            | some q => exact done ⟨e, rfl, rfl⟩
        · obtain ⟨i0, hi0⟩ := List.exists_mem_of_ne_nil _ e
          have := up4 (oA := oA) (oB := oB) (oS := oS) (oT := oT) (x := s1.isSome) (y := s2.isSome) hO hs hi0
          rw [e1] at this
          cases this
      · rcases parts4 hs hi with h | ⟨h, hx⟩ | ⟨h, hx⟩ | h | h
        · have hr := down4 hO hs h hi
          obtain ⟨u, o, ho, _⟩ := mem_ready.1 hr
          have ho' : H[i]? = some o := by simpa using ho
          obtain ⟨f, rfl⟩ := fam_more hF hr
          refine step2 hO hO2 hr ho' (by rw [four_low h]; exact ho) hF hN hin fun v w' hin' hF' => ?_
          rw [lst4_set (by omega)]
          exact ih m (by omega) f s1 s2 _ _ w' (by omega) h1 h2 (by simpa using hs) (by rw [put_size]; exact hN) (shut_set hs hsh hr) hin' hF'
        · subst h
          have hs1 : s1 = none := by cases s1 with | none => rfl | some p => cases hx
          subst hs1
          unfold wpOp
          rw [four_a]
          simp only [Region.wanted, a1, if_true]
          refine .inl ?_
          unfold Oper.wp
          rw [hA]
          show wpAny P md _ Q (m + 2) ((lst4 L false s2.isSome).setIfInBounds H.length true) ((act2 dA dB none s2 a).put oA.dst _) (w.alloc _)
          rw [a2, ← hs, lst4_set_a]
          have hlt := hin.1.below.size
          have hsz : w.heap.size ≤ w.heap.size := Nat.le_refl _
          have hb : Below w.heap.size w (w.alloc (.cells zA tA)) := (Below.refl _ w).alloc (Nat.le_refl _) _
          refine ih m (by omega) fuel (some (w.heap.size, zA)) s2 L a _ (by have hn' : m + 1 = fuel + 1 + cost s2 := hn; show m = fuel + 0 + cost s2; omega) (fun p e => by cases e; rfl) h2 hs hN hsh ⟨⟨bnext hin.1.below hb, heap_alloc_new _ _, hlt⟩, hin.2.1.next hb, fun p q e1 e2 => ?_⟩ hF
          cases e1
          obtain ⟨h, z⟩ := q
          subst e2
          have := lt_of_block hin.2.1.2.1
          exact fun e => by simp only at e; omega
        · subst h
          have hs2 : s2 = none := by cases s2 with | none => rfl | some p => cases hx
          subst hs2
          unfold wpOp
          rw [four_b]
          simp only [Region.wanted, b1, if_true]
          refine .inl ?_
          unfold Oper.wp
          rw [hB]
          show wpAny P md _ Q (m + 2) ((lst4 L s1.isSome false).setIfInBounds (H.length + 1) true) ((act2 dA dB s1 none a).put oB.dst _) (w.alloc _)
          rw [b2, ← hs, lst4_set_b]
          have hlt := hin.2.1.below.size
          have hb : Below w.heap.size w (w.alloc (.cells zB tB)) := (Below.refl _ w).alloc (Nat.le_refl _) _
          have e : (act2 dA dB s1 none a).put (some dB) (.pointer (some ⟨w.heap.size, 0, none⟩)) = act2 dA dB s1 (some (w.heap.size, zB)) a := by
            show (actS dA s1 a).put (some dB) _ = actS dA s1 (a.put (some dB) _)
            exact actS_put dA s1 a (some dB) _ (fun e => hab (Option.some.inj e).symm)
          rw [e]
          refine ih m (by omega) fuel s1 (some (w.heap.size, zB)) L a _ (by have hn' : m + 1 = fuel + cost s1 + 1 := hn; show m = fuel + cost s1 + 0; omega) h1 (fun p e => by cases e; rfl) hs hN hsh ⟨hin.1.next hb, ⟨bnext hin.2.1.below hb, heap_alloc_new _ _, hlt⟩, fun p q e1 e2 => ?_⟩ hF
          cases e2
          obtain ⟨h, z⟩ := p
          subst e1
          have := lt_of_block hin.1.2.1
          exact fun e => by simp only at e; omega
        · subst h
          exfalso
          obtain ⟨x1, x2, x3⟩ := third_waits hT hs hsh hi
          refine done ⟨?_, x1, x2⟩
          apply List.eq_nil_iff_forall_not_mem.2
          intro j hj
          obtain ⟨u, o, ho, _⟩ := mem_ready.1 hj
          have hj' : j < H.length := by simpa using (Array.getElem?_eq_some_iff.1 ho).1
          rw [x3 j hj'] at u
          cases u
        · subst h
          exfalso
          obtain ⟨u, o, ho, hall⟩ := mem_ready.1 hi
          rw [four_t] at ho
          cases ho
          obtain ⟨e, he, hb, on⟩ := sTS
          have k := hall e he hb
          rw [on, ← hs, lst4_s] at k
          cases k

/-- THE WHOLE: the operations but the last four walked in the order of the text, each quiet in each class, the frame behind them the same; then the two stores, the variables' blocks wherever they are. -/
theorem wp_region_two {id : Nat} {a : Act} {w : World} {l : List Oper} (H : List Oper) (oA oB oS oT : Oper) (hl : l = ((H ++ [oA, oB]) ++ [oS]) ++ [oT]) (zA zB : Array Value) (tA tB : TypeId) (N : Nat) (dA dB : Tmp) (hm : P.follows .mixedOrders = true) (hLex : Region.lexB .any H.toArray = true)
    (hO : ownB .any H N dA = true) (hO2 : ownB .any H N dB = true) (hT : tail2B .any H oA oB oS oT dA dB = true) (hN : a.tmps.size = N)
    (hA : ∀ (a : Act) (w : World), (execOp a.eval oA).run P w = .ok (.value (.pointer (some ⟨w.heap.size, 0, none⟩))) (w.alloc (.cells zA tA)))
    (hB : ∀ (a : Act) (w : World), (execOp a.eval oB).run P w = .ok (.value (.pointer (some ⟨w.heap.size, 0, none⟩))) (w.alloc (.cells zB tB)))
    (h : ∃ A1 : Act, (∀ W, Below w.heap.size w W → wpQuiet P H.toArray (fun w' => ∃ x : Kept W, w' = x.val) (fun a' => a' = A1) H a) ∧
      ∀ g h w', Below w.heap.size w w' → w'.heap[g]? = some (.cells zA tA (0, 0)) → w'.heap[h]? = some (.cells zB tB (0, 0)) → w.heap.size ≤ g → w.heap.size ≤ h → g ≠ h → wpList P l.toArray Q [oS, oT] ((A1.put (some dB) (.pointer (some ⟨h, 0, none⟩))).put (some dA) (.pointer (some ⟨g, 0, none⟩))) w') : (Code.region id l.toArray true).wp P Q a w := by
  obtain ⟨A1, hW, hEnd⟩ := h
  subst hl
  simp only [Region.lexB, Bool.and_eq_true] at hLex
  refine wp_region_any hm ?_
  have bd : Below w.heap.size w { w with drawn := w.drawn + 1 } := (Below.refl _ w).drew
  have hF : Fam P .any H A1 { w with drawn := w.drawn + 1 } H.length (Array.replicate H.toArray.size false) a := fun W hW' =>
    wpAnyQ_lex (C := KC W) (md := .any) hLex.1 H 0 (Array.replicate H.toArray.size false) a (by simp) (by simpa using hLex.2) (hW W (bd.trans hW'))
  have hsh : shutL .any H (Array.replicate H.toArray.size false) := fun i o ho hi => by
    have hi' : i < H.length := by
      rcases Nat.lt_or_ge i H.length with k | k
      · exact k
      · rw [List.getElem?_eq_none k] at ho; cases ho
    rw [Array.getD_eq_getD_getElem?, Array.getElem?_replicate, if_pos (by simpa using hi')] at hi
    cases hi
  have k := both_made (Q := Q) (wa := { w with drawn := w.drawn + 1 }) (zA := zA) (zB := zB) hO hO2 hT hA hB (fun g h w' hi => hEnd g h w' (bd.trans hi.1.1) hi.1.2.1 hi.2.1.2.1 hi.1.2.2 hi.2.1.2.2 (hi.2.2 _ _ rfl rfl)) (H.length + 2) H.length none none (Array.replicate H.toArray.size false) a _ rfl (fun _ e => by cases e) (fun _ e => by cases e) (by simp) hN hsh ⟨Below.refl _ _, Below.refl _ _, fun _ _ e _ => by cases e⟩ hF
  have e : lst4 (Array.replicate H.toArray.size false) false false = Array.replicate (((H ++ [oA, oB]) ++ [oS]) ++ [oT]).toArray.size false := by
    unfold lst4
    simp [Array.replicate_succ]
  have k : wpAny P .any (((H ++ [oA, oB]) ++ [oS]) ++ [oT]).toArray Q (H.length + 2 + 2) (lst4 (Array.replicate H.toArray.size false) false false) a { w with drawn := w.drawn + 1 } := k
  rw [e] at k
  simpa using k
end Go.Proofs.Ytnmdifgoimoecaa
