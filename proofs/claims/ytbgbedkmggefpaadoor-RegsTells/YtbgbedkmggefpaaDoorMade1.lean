/- A region that draws its order and whose first operation makes a row of its own ('[]int{..}[f(..)]'), while calls may make memory: the other operations walked once, in the order of the text, whenever the row is made; then the last ones, one behind the other. No word of the program is in it. -/
import Derived.Test.YtbgbedkmggefpaaDoorCell1
import Derived.Test.YtbgbedkmggefpaaDoorLastAny
namespace Go.Proofs.YtbgbedkmggefpaaDoor
open Go.RowKit
set_option linter.unusedVariables false

variable {P : Program} {md : Region.Mode} {Q : Exit → Act → World → Prop} {ops : Array Oper} {A1 : Act} {wa : World}

/-! ### The last ones, one behind the other -/
def chainB (md : Region.Mode) (n : Nat) (T : List Oper) : Bool :=
  (List.range T.length).all fun k => match T[k]? with
    | none => true
    | some o => o.after.all (fun e => decide (e.on < n + k)) && (decide (k = 0) || o.after.any fun e => Region.binds md e && e.on == n + k - 1)
theorem chainB_spec {n : Nat} {T : List Oper} (h : chainB md n T = true) {k : Nat} {o : Oper} (ho : T[k]? = some o) : (∀ e ∈ o.after, e.on < n + k) ∧ (k ≠ 0 → ∃ e ∈ o.after, Region.binds md e = true ∧ e.on = n + k - 1) := by
  have hk : k < T.length := (List.getElem?_eq_some_iff.1 ho).1
  have g := List.all_eq_true.1 h k (List.mem_range.2 hk)
  rw [ho] at g
  simp only [Bool.and_eq_true, Bool.or_eq_true, decide_eq_true_eq] at g
  refine ⟨fun e he => by simpa using Array.all_eq_true'.1 g.1 e he, fun hk0 => ?_⟩
  rcases g.2 with g2 | g2
  · exact absurd g2 hk0
  · exact any_on g2
theorem tail_left (n : Nat) (T0 : List Oper) (hc : chainB md n T0 = true) (hsz : ops.size = n + T0.length) (hT : ∀ k, k < T0.length → ops[n + k]? = T0[k]?) :
    ∀ (T : List Oper) (m : Nat), m + T.length = T0.length → (∀ k, k < T.length → T[k]? = T0[m + k]?) → ∀ (L : Array Bool) (a : Act) (w : World), L.size = ops.size → (∀ i, i < n + m → L.getD i true = true) → (∀ i, n + m ≤ i → i < ops.size → L.getD i true = false) →
      wpList P ops Q T a w → ∀ f, wpAny P md ops Q (T.length + f) L a w
  | [], m, hm, _, L, a, w, hs, h1, h2, h, f => by
    have hm2 : m = T0.length := by simpa using hm
    subst hm2
    exact all_done (fun j hj => h1 j (by omega)) h _
  | o :: T, m, hm, hTm, L, a, w, hs, h1, h2, h, f => by
    have hml : m < T0.length := by simp at hm; omega
    have ho : T0[m]? = some o := by have := hTm 0 (by simp); simpa using this.symm
    have hoo : ops[n + m]? = some o := (hT m hml).trans ho
    rw [show (o :: T).length + f = (T.length + f) + 1 by simp; omega]
    have isr : n + m ∈ Region.ready md ops L := mem_ready.2 ⟨h2 _ (Nat.le_refl _) (by omega), o, hoo, fun e he _ => by
      have k := (chainB_spec hc ho).1 e he
      rw [getD_any (by omega) false true]
      exact h1 _ k⟩
    refine ⟨fun e => (by rw [e] at isr; cases isr), fun i hi => ?_⟩
    obtain ⟨u, x, hx, z⟩ := mem_ready.1 hi
    have hil : i < ops.size := (Array.getElem?_eq_some_iff.1 hx).1
    have hin : i = n + m := by
      rcases Nat.lt_trichotomy i (n + m) with k | k | k
      · rw [h1 i k] at u; cases u
      · exact k
      · exfalso
        have hx2 : T0[i - n]? = some x := by
          rw [← hx, ← hT (i - n) (by omega)]
          congr 1; omega
        obtain ⟨e, he, hb, on⟩ := (chainB_spec hc hx2).2 (by omega)
        have k2 := z e he hb
        rw [on, show n + (i - n) - 1 = i - 1 by omega, getD_any (by omega) false true, h2 (i - 1) (by omega) (by omega)] at k2
        cases k2
    subst hin
    have hw : wpOp P ops Q (n + m) (fun a w => wpList P ops Q T a w) a w := by
      unfold wpOp
      rw [hoo]
      exact h
    refine wpOp_mono (fun a' w' hq => ?_) hw
    refine tail_left n T0 hc hsz hT T (m + 1) (by simp at hm; omega) (fun k hk => ?_) _ a' w' (by simpa using hs) (fun i hi => ?_) (fun i hi hi2 => ?_) hq f
    · have := hTm (k + 1) (by simp; omega)
      rw [show m + 1 + k = m + (k + 1) by omega, ← this]
      simp
    · by_cases e : i = n + m
      · subst e
        rw [Array.getD_eq_getD_getElem?, Array.getElem?_setIfInBounds_self_of_lt (by omega)]
        rfl
      · rw [getD_set_ne true (fun k => e k.symm)]
        exact h1 i (by omega)
    · rw [getD_set_ne true (by omega)]
      exact h2 i (by omega) hi2

/-! ### The row: not made yet, or made -/
def actM (dA : Tmp) (vA : Nat → Value) : Option Nat → Act → Act
  | none, a => a
  | some g, a => a.put (some dA) (vA g)
def inM (wa : World) (t : TypeId) (row : Array Value) : Option Nat → World → Prop
  | none, w => Below wa.heap.size wa w
  | some g, w => Below wa.heap.size wa w ∧ w.heap[g]? = some (.cells row t (0, 0)) ∧ wa.heap.size ≤ g
theorem inM.below {t : TypeId} {row : Array Value} {s : Option Nat} {w : World} (h : inM wa t row s w) : Below wa.heap.size wa w := by
  match s, h with
  | none, h => exact h
  | some g, h => exact h.1
theorem inM.next {t : TypeId} {row : Array Value} {s : Option Nat} {w w' : World} (h : inM wa t row s w) (k : Below w.heap.size w w') : inM wa t row s w' := by
  match s, h with
  | none, h => exact bnext h k
  | some g, h => exact ⟨bnext h.1 k, (k.block g (lt_of_block h.2.1)).trans h.2.1, h.2.2⟩
theorem actM_put (dA : Tmp) (vA : Nat → Value) (s : Option Nat) (a : Act) (d : Option Tmp) (v : Value) (h : d ≠ some dA) : (actM dA vA s a).put d v = actM dA vA s (a.put d v) := by
  match s with
  | none => rfl
  | some g => exact Act.put_comm a _ v fun d' e => by cases e; exact h
/-- In the place of the row's making, where the others are walked: nothing. -/
def still (oA : Oper) : Oper := { oA with op := .move (.const (.bool false)), dst := none }
/-- What is asked of the others: none is a select, each has a slot of its own, none reads or writes slot dA. -/
def slotB (H : List Oper) (N : Nat) (dA : Tmp) : Bool :=
  (List.range H.length).all fun i => decide (i = 0) || match H[i]? with
    | none => true
    | some o => (match o.op with | .select _ _ => false | _ => true) && !(o.looksAt H.toArray).contains dA &&
      (match o.dst with | none => false | some d => decide (d < N) && decide (d ≠ dA) && (List.range H.length).all fun j => decide (j = i) || (match H[j]? with | none => true | some x => decide (x.dst ≠ some d)))
theorem slotB_spec {H : List Oper} {N : Nat} {dA : Tmp} (h : slotB H N dA = true) {i : Nat} {o : Oper} (ho : H[i]? = some o) (h0 : i ≠ 0) :
    (∀ cs b, o.op ≠ .select cs b) ∧ dA ∉ o.looksAt H.toArray ∧ ∃ d, o.dst = some d ∧ d < N ∧ d ≠ dA ∧ ∀ (j : Nat) (x : Oper), H[j]? = some x → j ≠ i → x.dst ≠ some d := by
  have hi : i < H.length := (List.getElem?_eq_some_iff.1 ho).1
  have k := List.all_eq_true.1 h i (List.mem_range.2 hi)
  rw [ho] at k
  simp only [Bool.or_eq_true, decide_eq_true_eq, h0, false_or, Bool.and_eq_true] at k
  obtain ⟨⟨k2, k3⟩, k5⟩ := k
  refine ⟨fun cs b e => ?_, by simpa using k3, ?_⟩
  · rw [e] at k2; cases k2
  · split at k5
    · cases k5
    · rename_i d hd
      simp only [Bool.and_eq_true, decide_eq_true_eq] at k5
      refine ⟨d, hd, k5.1.1, k5.1.2, fun j x hx hji => ?_⟩
      have hj : j < H.length := (List.getElem?_eq_some_iff.1 hx).1
      have k6 := List.all_eq_true.1 k5.2 j (List.mem_range.2 hj)
      rw [hx] at k6
      simpa [hji] using k6
theorem made_step {H : List Oper} {N : Nat} {dA : Tmp} (hO : slotB H N dA = true) (hb : ∀ (i : Nat) (x : Oper), H[i]? = some x → x.guard = none ∧ ∀ e ∈ x.after, Region.binds md e = true → e.on < i) {fuel : Nat} {L : Array Bool} {a : Act} {i : Nat} {o : Oper} (hi : i ∈ Region.ready md H.toArray L) (ho : H[i]? = some o) (h0 : i ≠ 0) (hF : Fam P md H A1 wa (fuel + 1) L a) (hN : a.tmps.size = N) :
    ∃ v, (∀ W, Below wa.heap.size wa W → ∀ w, KC W w → o.quietAt P a (KC W) w v) ∧ Fam P md H A1 wa fuel (L.setIfInBounds i true) (a.put o.dst v) := by
  obtain ⟨g1, g2, d, hd, hdN, hdA, hdj⟩ := slotB_spec hO ho h0
  have hoa : H.toArray[i]? = some o := by simpa using ho
  have key : ∀ W, Below wa.heap.size wa W → (∀ w, KC W w → o.quietAt P a (KC W) w (A1.eval (.tmp d))) ∧ wpAnyQ P md H.toArray (KC W) (fun a => a = A1) fuel (L.setIfInBounds i true) (a.put o.dst (A1.eval (.tmp d))) := by
    intro W hW
    obtain ⟨v, hy, hv⟩ := yieldsIn_of_qOp hoa ((hF W hW).2 i hi)
    have e := slot_kept d fuel _ _ (fun j x hx hj => hdj j x hx (unset hj).2) hv
    rw [hd, put_eval a d v (by rw [hN]; exact hdN)] at e
    subst e
    rcases hy with ⟨_, hy⟩ | ⟨hy, _⟩
    · exact ⟨hy, hv⟩
    · simp [Region.wanted, (hb i o ho).1] at hy
  exact ⟨_, fun W hW => (key W hW).1, fun W hW => (key W hW).2⟩
theorem made_low {H : List Oper} {N : Nat} {dA : Tmp} {vA : Nat → Value} (hO : slotB H N dA = true) (hb : ∀ (i : Nat) (x : Oper), H[i]? = some x → x.guard = none ∧ ∀ e ∈ x.after, Region.binds md e = true → e.on < i) {fuel : Nat} {L : Array Bool} {a : Act} {i : Nat} {o : Oper} (hi : i ∈ Region.ready md H.toArray L) (ho : H[i]? = some o) (h0 : i ≠ 0) (hoo : ops[i]? = some o)
    (hF : Fam P md H A1 wa (fuel + 1) L a) (hN : a.tmps.size = N) {t : TypeId} {row : Array Value} {s : Option Nat} {w : World} (hin : inM wa t row s w) {K : Act → World → Prop}
    (hK : ∀ v w', inM wa t row s w' → Fam P md H A1 wa fuel (L.setIfInBounds i true) (a.put o.dst v) → K (actM dA vA s (a.put o.dst v)) w') : wpOp P ops Q i K (actM dA vA s a) w := by
  obtain ⟨g1, g2, d, hd, hdN, hdA, hdj⟩ := slotB_spec hO ho h0
  obtain ⟨v, hq, hF'⟩ := made_step hO hb hi ho h0 hF hN
  unfold wpOp
  rw [hoo]
  simp only [Region.wanted, (hb i o ho).1, if_true]
  refine .inl (Oper.wp_of_quiet (C := KC w) (K := fun a' => a' = (actM dA vA s a).put o.dst v) (kc_self w) (fun a' w' hc e => ?_) ⟨v, fun w1 h1 => ?_, rfl⟩)
  · subst e
    rw [actM_put dA vA s a o.dst v (by rw [hd]; intro e; cases e; exact hdA rfl)]
    exact hK v w' (hin.next (kc_below hc)) hF'
  · have k := hq w hin.below w1 h1
    unfold Oper.quietAt at *
    have e : execOp (actM dA vA s a).eval o = execOp a.eval o := by
      match s with
      | none => rfl
      | some g => exact execOp_put (ops := H.toArray) o g1 a (some dA) _ (fun d' e => by cases e; exact g2)
    rw [e]
    exact k

/-! ### All together -/
theorem flags_low {L : Array Bool} {n j : Nat} (h : j < L.size) (d : Bool) : (L ++ Array.replicate n false).getD j d = L.getD j d := by
  rw [Array.getD_eq_getD_getElem?, Array.getD_eq_getD_getElem?, Array.getElem?_append_left h]
theorem flags_high {L : Array Bool} {n j : Nat} (h : L.size ≤ j) (h2 : j < L.size + n) (d : Bool) : (L ++ Array.replicate n false).getD j d = false := by
  rw [Array.getD_eq_getD_getElem?, Array.getElem?_append_right h, Array.getElem?_replicate, if_pos (by omega)]
  rfl
theorem flags_set {L : Array Bool} {n i : Nat} (h : i < L.size) : (L ++ Array.replicate n false).setIfInBounds i true = L.setIfInBounds i true ++ Array.replicate n false := by
  apply Array.ext_getElem?
  intro j
  rw [Array.getElem?_setIfInBounds]
  by_cases hij : i = j
  · subst hij
    rw [if_pos rfl, if_pos (by simp; omega), Array.getElem?_append_left (by simpa using h), Array.getElem?_setIfInBounds_self_of_lt h]
  · rw [if_neg hij]
    rcases Nat.lt_or_ge j L.size with k | k
    · rw [Array.getElem?_append_left k, Array.getElem?_append_left (by simpa using k), Array.getElem?_setIfInBounds_ne hij]
    · rw [Array.getElem?_append_right k, Array.getElem?_append_right (by simpa using k)]
      simp
variable {R T : List Oper} {oA o1 : Oper} {N : Nat} {dA : Tmp} {vA : Nat → Value} {t : TypeId} {row : Array Value}
theorem real_low {i : Nat} (h : i < R.length + 1) (h0 : i ≠ 0) : (oA :: R ++ T).toArray[i]? = (still oA :: R).toArray[i]? := by
  obtain ⟨j, rfl⟩ := Nat.exists_eq_succ_of_ne_zero h0
  simp [List.getElem?_append_left (show j < R.length by omega)]
theorem sim (hO : slotB (still oA :: R) N dA = true) (hB : lastAnyB md (still oA :: R) o1 = true) (hT1 : T[0]? = some o1) (hc : chainB md (R.length + 1) T = true) (gA : oA.guard = none) (dstA : oA.dst = some dA) (aft : oA.after = #[]) (hdN : dA < N)
    (hA : ∀ (a : Act) (w : World), (execOp a.eval oA).run P w = .ok (.value (vA w.heap.size)) (w.alloc (.cells row t)))
    (hEnd : ∀ g w, inM wa t row (some g) w → wpList P (oA :: R ++ T).toArray Q T (actM dA vA (some g) A1) w) :
    ∀ (fuel : Nat) (L : Array Bool) (a : Act) (s : Option Nat) (w : World), L.size = R.length + 1 → a.tmps.size = N → (s = none → L.getD 0 true = false) → (s ≠ none → L.getD 0 true = true) → inM wa t row s w → ShutAny md (still oA :: R) L → Fam P md (still oA :: R) A1 wa fuel L a →
      wpAny P md (oA :: R ++ T).toArray Q (fuel + T.length) (L ++ Array.replicate T.length false) (actM dA vA s a) w := by
  obtain ⟨hb, ho1, hw⟩ := lastAnyB_spec hB
  have hlen : (still oA :: R).length = R.length + 1 := by simp
  have ended : ∀ (L : Array Bool) (s : Option Nat) (w : World) (f : Nat), L.size = R.length + 1 → (s = none → L.getD 0 true = false) → inM wa t row s w → Region.ready md (still oA :: R).toArray L = [] → wpAny P md (oA :: R ++ T).toArray Q (f + T.length) (L ++ Array.replicate T.length false) (actM dA vA s A1) w := by
    intro L s w f hs h0 hin e
    have hall := none_left hb (by simpa using hs) e
    have hs0 : s ≠ none := fun k => by
      have := h0 k
      rw [hall 0 (by simp)] at this
      cases this
    obtain ⟨g, rfl⟩ : ∃ g, s = some g := by
      cases s with
      | none => exact absurd rfl hs0
      | some g => exact ⟨g, rfl⟩
    rw [Nat.add_comm]
    refine tail_left (R.length + 1) T hc (by simp; omega) (fun k hk => ?_) T 0 (by simp) (fun k hk => by simp) _ _ _ (by simp [hs]; omega) (fun i hi => ?_) (fun i hi hi2 => ?_) (hEnd g w hin) f
    · simp [List.getElem?_append_right (show R.length ≤ R.length + k by omega), show R.length + 1 + k = R.length + k + 1 by omega]
    · rw [flags_low (by omega)]
      exact hall i (by simpa using hi)
    · exact flags_high (by omega) (by simp at hi2; omega) _
  intro fuel
  induction fuel with
  | zero =>
    intro L a s w hs hN h0 h1 hin hS hF
    have e := (hF wa (Below.refl _ _)).1
    obtain rfl : a = A1 := (hF wa (Below.refl _ _)).2
    exact ended L s w 0 hs h0 hin e
  | succ fuel ih =>
    intro L a s w hs hN h0 h1 hin hS hF
    by_cases e : Region.ready md (still oA :: R).toArray L = []
    · obtain rfl : a = A1 := (hF wa (Below.refl _ _)).1 e
      exact ended L s w (fuel + 1) hs h0 hin e
    · obtain ⟨i0, hi0⟩ := List.exists_mem_of_ne_nil _ e
      obtain ⟨u0, x0, y0, z0⟩ := mem_ready.1 hi0
      have l0 : i0 < R.length + 1 := by simpa using (Array.getElem?_eq_some_iff.1 y0).1
      have up : ∀ i o, i < R.length + 1 → (oA :: R ++ T).toArray[i]? = some o → ∃ o', (still oA :: R).toArray[i]? = some o' ∧ o'.after = o.after := by
        intro i o hi ho
        by_cases k : i = 0
        · subst k
          refine ⟨still oA, by simp, ?_⟩
          have : o = oA := by simpa using ho.symm
          rw [this]
          rfl
        · rw [real_low hi k] at ho
          exact ⟨o, ho, rfl⟩
      rw [show fuel + 1 + T.length = (fuel + T.length) + 1 by omega]
      refine ⟨fun e1 => ?_, fun i hi => ?_⟩
      · exfalso
        have hreal : ∃ o, (oA :: R ++ T).toArray[i0]? = some o := ⟨_, Array.getElem?_eq_getElem (by simp; omega)⟩
        obtain ⟨o, ho⟩ := hreal
        obtain ⟨o', ho', ha⟩ := up i0 o l0 ho
        rw [y0] at ho'
        cases ho'
        have : i0 ∈ Region.ready md (oA :: R ++ T).toArray (L ++ Array.replicate T.length false) := mem_ready.2 ⟨by rw [flags_low (by omega)]; exact u0, o, ho, fun e he hbi => by
          have h2 := (hb i0 x0 (by simpa using y0)).2 e (by rw [ha]; exact he) hbi
          rw [flags_low (by omega)]
          exact z0 e (by rw [ha]; exact he) hbi⟩
        rw [e1] at this
        cases this
      · obtain ⟨u, x, y, z⟩ := mem_ready.1 hi
        have hil : i < R.length + 1 + T.length := by have := (Array.getElem?_eq_some_iff.1 y).1; simp at this; omega
        have hin2 : i < R.length + 1 := by
          rcases Nat.lt_or_ge i (R.length + 1) with k | k
          · exact k
          · exfalso
            have hx2 : T[i - (R.length + 1)]? = some x := by
              obtain ⟨j, rfl⟩ : ∃ j, i = j + 1 := ⟨i - 1, by omega⟩
              have y2 : (R ++ T)[j]? = some x := by simpa using y
              rw [List.getElem?_append_right (by omega)] at y2
              rw [← y2]
              congr 1; omega
            by_cases hk : i = R.length + 1
            · subst hk
              rw [Nat.sub_self, hT1] at hx2
              cases hx2
              have hr : ∀ e ∈ o1.after, Region.binds md e = true → L.getD e.on true = true := fun e2 he2 hb2 => by
                have h4 := z e2 he2 hb2
                have h5 := ho1 e2 he2
                rw [flags_low (by simp at h5; omega), getD_any (by simp at h5; omega) false true] at h4
                exact h4
              have h6 := all_up hw hb hS hr (still oA :: R).length i0 (by simpa using l0) (by omega)
              rw [u0] at h6
              cases h6
            · obtain ⟨e2, he2, hb2, on2⟩ := (chainB_spec hc hx2).2 (by omega)
              have h4 := z e2 he2 hb2
              rw [on2, flags_high (by omega) (by omega)] at h4
              cases h4
        obtain ⟨x', y', ha⟩ := up i x hin2 y
        have hx' : (still oA :: R)[i]? = some x' := by simpa using y'
        have hr : i ∈ Region.ready md (still oA :: R).toArray L := mem_ready.2 ⟨by rw [flags_low (by omega)] at u; exact u, x', y', fun e he hbi => by
          have h1 := (hb i x' hx').2 e he hbi
          have h2 := z e (by rw [← ha]; exact he) hbi
          rw [flags_low (by omega)] at h2
          exact h2⟩
        have hS2 : ShutAny md (still oA :: R) (L.setIfInBounds i true) := by
          intro j xj hxj hj e he hbe
          have hlt := (hb j xj hxj).2 e he hbe
          by_cases hji : j = i
          · subst hji
            rw [hx'] at hxj
            cases hxj
            have h2 := z e (by rw [← ha]; exact he) hbe
            rw [flags_low (by omega)] at h2
            rw [getD_set_ne true (by omega)]
            rw [getD_any (by omega) false true] at h2
            exact h2
          · have hjl : j < R.length + 1 := by simpa using (List.getElem?_eq_some_iff.1 hxj).1
            rw [getD_set_ne true (by omega)] at hj
            have h2 := hS j xj hxj hj e he hbe
            by_cases hei : e.on = i
            · rw [hei, Array.getD_eq_getD_getElem?, Array.getElem?_setIfInBounds_self_of_lt (by omega)]
              rfl
            · rw [getD_set_ne true (by omega)]
              exact h2
        by_cases hi0' : i = 0
        · subst hi0'
          have hxA : x = oA := by simpa using y.symm
          have hsn : s = none := by
            cases hsv : s with
            | none => rfl
            | some g =>
              rw [flags_low (by omega), h1 (by rw [hsv]; simp)] at u
              cases u
          subst hsn
          unfold wpOp
          rw [y, hxA]
          simp only [Region.wanted, gA, if_true]
          refine .inl ?_
          unfold Oper.wp
          rw [hA]
          show wpAny P md _ Q (fuel + T.length) ((L ++ Array.replicate T.length false).setIfInBounds 0 true) (a.put oA.dst (vA w.heap.size)) (w.alloc _)
          rw [dstA, flags_set (by omega)]
          have hF2 : Fam P md (still oA :: R) A1 wa fuel (L.setIfInBounds 0 true) a := fun W hW => by
            obtain ⟨v, _, hv⟩ := yieldsIn_of_qOp y' ((hF W hW).2 0 hr)
            have hx0 : x' = still oA := by simpa using y'.symm
            rw [hx0] at hv
            exact hv
          refine ih (L.setIfInBounds 0 true) a (some w.heap.size) (w.alloc (.cells row t)) (by simpa using hs) hN (fun k => by cases k) (fun _ => ?_) ⟨inM.below hin |>.alloc (inM.below hin).size _, heap_alloc_new _ _, (inM.below hin).size⟩ hS2 hF2
          rw [Array.getD_eq_getD_getElem?, Array.getElem?_setIfInBounds_self_of_lt (by omega)]
          rfl
        · have hxx : x = x' := by
            rw [real_low hin2 hi0'] at y
            rw [y] at y'
            exact Option.some.inj y'
          subst hxx
          rw [flags_set (by omega)]
          refine made_low hO hb hr hx' hi0' y hF hN hin fun v w' hin' hF' => ?_
          refine ih _ _ s w' (by simpa using hs) (by rw [put_size]; exact hN) (fun k => ?_) (fun k => ?_) hin' hS2 hF'
          · rw [getD_set_ne true hi0']; exact h0 k
          · rw [getD_set_ne true hi0']; exact h1 k

/-- THE WHOLE: the others walked in the order of the text, each quiet in each class, the frame behind them the same; then the last ones, the row wherever it is. -/
theorem wp_region_made {id : Nat} {a : Act} {w : World} {l : List Oper} (oA : Oper) (R T : List Oper) (o1 : Oper) (hl : l = oA :: R ++ T) (hT1 : T[0]? = some o1) (N : Nat) (dA : Tmp) (vA : Nat → Value) (row : Array Value) (t : TypeId) (hm : P.follows .mixedOrders = true) (hB : Region.lexB .any (still oA :: R).toArray = true)
    (hO : slotB (still oA :: R) N dA = true) (hB2 : lastAnyB .any (still oA :: R) o1 = true) (hc : chainB .any (R.length + 1) T = true) (gA : oA.guard = none) (dstA : oA.dst = some dA) (aft : oA.after = #[]) (hN : a.tmps.size = N) (hdN : dA < N)
    (hA : ∀ (a : Act) (w : World), (execOp a.eval oA).run P w = .ok (.value (vA w.heap.size)) (w.alloc (.cells row t)))
    (h : ∃ A1 : Act, (∀ W, Below w.heap.size w W → wpQuiet P (still oA :: R).toArray (fun w' => ∃ x : Kept W, w' = x.val) (fun a' => a' = A1) R a) ∧
      ∀ g w', Below w.heap.size w w' → w'.heap[g]? = some (.cells row t (0, 0)) → w.heap.size ≤ g → wpList P l.toArray Q T (A1.put (some dA) (vA g)) w') : (Code.region id l.toArray true).wp P Q a w := by
  obtain ⟨A1, hW, hEnd⟩ := h
  subst hl
  simp only [Region.lexB, Bool.and_eq_true] at hB
  refine wp_region_any hm ?_
  have bd : Below w.heap.size w { w with drawn := w.drawn + 1 } := (Below.refl _ w).drew
  have hq : ∀ W, Below w.heap.size w W → wpQuiet P (still oA :: R).toArray (KC W) (fun a' => a' = A1) (still oA :: R) a := fun W hb => by
    unfold wpQuiet
    rw [if_pos (show Region.wanted (still oA) _ = true by simp [Region.wanted, still, gA])]
    refine ⟨.bool false, fun w' hC => ?_, hW W hb⟩
    unfold Oper.quietAt execOp
    simp [still, Act.eval]
    exact ⟨rfl, rfl⟩
  have hF : Fam P .any (still oA :: R) A1 { w with drawn := w.drawn + 1 } (still oA :: R).length (Array.replicate (still oA :: R).toArray.size false) a := fun W hW' =>
    wpAnyQ_lex (C := KC W) (md := .any) hB.1 (still oA :: R) 0 (Array.replicate (still oA :: R).toArray.size false) a (by simp) (by simpa using hB.2) (hq W (bd.trans hW'))
  have hS : ShutAny .any (still oA :: R) (Array.replicate (still oA :: R).toArray.size false) := by
    intro j x hx hj
    exfalso
    have hjl : j < (still oA :: R).length := (List.getElem?_eq_some_iff.1 hx).1
    simp [Array.getD] at hj
    simp at hjl
    omega
  have k := sim (Q := Q) (wa := { w with drawn := w.drawn + 1 }) hO hB2 hT1 hc gA dstA aft hdN hA (fun g w' h => hEnd g w' (bd.trans h.1) h.2.1 h.2.2) (still oA :: R).length (Array.replicate (still oA :: R).toArray.size false) a none _ (by simp) hN (fun _ => by simp [Array.getD]) (fun k => absurd rfl k) (Below.refl _ _) hS hF
  have e : Array.replicate (still oA :: R).toArray.size false ++ Array.replicate T.length false = Array.replicate (oA :: R ++ T).toArray.size false := by
    simp [Array.replicate_append_replicate]
    omega
  rw [e] at k
  have e2 : (still oA :: R).length + T.length = (oA :: R ++ T).toArray.size := by simp; omega
  rw [e2] at k
  simpa [actM] using k
end Go.Proofs.YtbgbedkmggefpaaDoor
