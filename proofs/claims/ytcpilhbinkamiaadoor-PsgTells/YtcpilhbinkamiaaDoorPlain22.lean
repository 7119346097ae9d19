/- Sound on plain numbers: how a channel goes on, what is heard, and what holds of it. -/
import Derived.Test.YtcpilhbinkamiaaDoorValP22
import Derived.Test.YtcpilhbinkamiaaDoorStep21
namespace Go.Proofs.YtcpilhbinkamiaaDoor
open Go.RowKit
set_option linter.unusedVariables false

theorem ch_up (f : Nat → Int) (k m : Nat) (v : Int) (k' j : Nat) (hm : m < 40) (hj : j < 40) : ch (up f (4 + k * 40 + m) v) k' j = if k' = k ∧ j = m then v else ch f k' j := by
  unfold ch up
  by_cases h : k' = k ∧ j = m
  · rw [if_pos h, if_pos (by omega)]
  · rw [if_neg h, if_neg (by omega)]
theorem up_head (f : Nat → Int) (k m : Nat) (v : Int) (i : Nat) (hi : i < 4) : up f (4 + k * 40 + m) v i = f i := up_other _ _ _ _ (by omega)

def lfoOf (f : Nat → Int) : Int := if 128 ≤ f 3 then 0 else f 3 % 4
def nyOf (f : Nat → Int) (k : Nat) : Bool := decide (4 ≤ k) && decide (128 ≤ ch f k 3)
def drOf (f : Nat → Int) (k : Nat) : Bool := decide (ch f k 1 / 64 % 2 = 1)
def soOf (f : Nat → Int) (k : Nat) : Bool := decide (128 ≤ ch f k 1)
def goOf (f : Nat → Int) (k : Nat) : Bool := soOf f k && !drOf f k
def heOf (f : Nat → Int) (k : Nat) : Bool := soOf f k && !(decide (k = 1) && decide (lfoOf f ≠ 0))
def orL (n l : Int) : Int := if n = 0 then l else n
/-- The frequency of the channel that is swayed. -/
def frq (f : Nat → Int) : Int := (ch f 0 0 + (ch f 1 (4 + (ch f 1 36).toNat) - 16) * 4 ^ (lfoOf f - 1).toNat) % 4096
def perK (f : Nat → Int) (k : Nat) : Int :=
  if nyOf f k = true then 6 * perOf (ch f k 3) else if k = 0 ∧ lfoOf f ≠ 0 then 6 * orL (frq f) 4096 else if k = 1 ∧ lfoOf f ≠ 0 then 6 * orL (ch f 1 0) 4096 * orL (f 2) 256 else 6 * orL (ch f k 0) 4096
/-- A channel goes on, with that period. -/
def onP (f : Nat → Int) (k : Nat) (p : Int) : Nat → Int :=
  if goOf f k = true then
    if nyOf f k = true then up (up f (4 + k * 40 + 37) ((ch f k 37 + 455) % p)) (4 + k * 40 + 38) ((jumpN (ch f k 38).toNat ((ch f k 37 + 455) / p).toNat : Nat) : Int)
    else up (up f (4 + k * 40 + 37) ((ch f k 37 + 455) % p)) (4 + k * 40 + 36) ((ch f k 36 + (ch f k 37 + 455) / p) % 32)
  else f
def onK (f : Nat → Int) (k : Nat) : Nat → Int := onP f k (perK f k)
def stepF (f : Nat → Int) : Nat → Int := onK (onK (onK (onK (onK (onK f 1) 0) 2) 3) 4) 5
def itF (f : Nat → Int) : Nat → Nat → Int
  | 0 => f
  | n + 1 => stepF (itF f n)
theorem itF_add (f : Nat → Int) (a : Nat) : ∀ b, itF f (a + b) = itF (itF f a) b
  | 0 => rfl
  | b + 1 => by
    show stepF (itF f (a + b)) = stepF (itF (itF f a) b)
    rw [itF_add f a b]
def valK (f : Nat → Int) (k : Nat) : Int := if drOf f k = true then ch f k 39 else if nyOf f k = true then 31 * (ch f k 38 % 2) else ch f k (4 + (ch f k 36).toNat)
def glOf (f : Nat → Int) (k : Nat) : Int := gainOf (ch f k 1) (ch f k 2 / 16) (f 1 / 16)
def grOf (f : Nat → Int) (k : Nat) : Int := gainOf (ch f k 1) (ch f k 2 % 16) (f 1 % 16)
def sumTo (g : Nat → Int) : Nat → Int
  | 0 => 0
  | n + 1 => sumTo g n + g n
def leftK (f : Nat → Int) (k : Nat) : Int := if heOf f k = true then (valK f k - 16) * glOf f k else 0
def rightK (f : Nat → Int) (k : Nat) : Int := if heOf f k = true then (valK f k - 16) * grOf f k else 0
def leftOf (f : Nat → Int) : Int := sumTo (leftK f) 6
def rightOf (f : Nat → Int) : Int := sumTo (rightK f) 6

/-! ### What stays -/
/-- Alike, but for where the channels are. -/
def Alike (f g : Nat → Int) : Prop := (∀ i, i < 4 → g i = f i) ∧ ∀ k j, j < 40 → j ≠ 36 → j ≠ 37 → j ≠ 38 → ch g k j = ch f k j
theorem Alike.refl (f : Nat → Int) : Alike f f := ⟨fun _ _ => rfl, fun _ _ _ _ _ _ => rfl⟩
theorem Alike.trans {f g h : Nat → Int} (a : Alike f g) (b : Alike g h) : Alike f h := ⟨fun i hi => (b.1 i hi).trans (a.1 i hi), fun k j h0 h1 h2 h3 => (b.2 k j h0 h1 h2 h3).trans (a.2 k j h0 h1 h2 h3)⟩
theorem alike_up (f : Nat → Int) (k m : Nat) (v : Int) (hm : m = 36 ∨ m = 37 ∨ m = 38) : Alike f (up f (4 + k * 40 + m) v) :=
  ⟨fun i hi => up_head f k m v i hi, fun k' j h0 h1 h2 h3 => by rw [ch_up _ _ _ _ _ _ (by omega) h0, if_neg (by omega)]⟩
theorem alike_on (f : Nat → Int) (k : Nat) (p : Int) : Alike f (onP f k p) := by
  unfold onP
  split
  · split
    · exact (alike_up f k 37 _ (by simp)).trans (alike_up _ k 38 _ (by simp))
    · exact (alike_up f k 37 _ (by simp)).trans (alike_up _ k 36 _ (by simp))
  · exact Alike.refl f
theorem Alike.lfo {f g : Nat → Int} (h : Alike f g) : lfoOf g = lfoOf f := by unfold lfoOf; rw [h.1 3 (by decide)]
theorem Alike.ny {f g : Nat → Int} (h : Alike f g) (k : Nat) : nyOf g k = nyOf f k := by unfold nyOf; rw [h.2 k 3 (by decide) (by decide) (by decide) (by decide)]
theorem Alike.dr {f g : Nat → Int} (h : Alike f g) (k : Nat) : drOf g k = drOf f k := by unfold drOf; rw [h.2 k 1 (by decide) (by decide) (by decide) (by decide)]
theorem Alike.so {f g : Nat → Int} (h : Alike f g) (k : Nat) : soOf g k = soOf f k := by unfold soOf; rw [h.2 k 1 (by decide) (by decide) (by decide) (by decide)]
theorem Alike.go {f g : Nat → Int} (h : Alike f g) (k : Nat) : goOf g k = goOf f k := by unfold goOf; rw [h.dr, h.so]
theorem Alike.he {f g : Nat → Int} (h : Alike f g) (k : Nat) : heOf g k = heOf f k := by unfold heOf; rw [h.so, h.lfo]
theorem Alike.gl {f g : Nat → Int} (h : Alike f g) (k : Nat) : glOf g k = glOf f k := by unfold glOf; rw [h.1 1 (by decide), h.2 k 1 (by decide) (by decide) (by decide) (by decide), h.2 k 2 (by decide) (by decide) (by decide) (by decide)]
theorem Alike.gr {f g : Nat → Int} (h : Alike f g) (k : Nat) : grOf g k = grOf f k := by unfold grOf; rw [h.1 1 (by decide), h.2 k 1 (by decide) (by decide) (by decide) (by decide), h.2 k 2 (by decide) (by decide) (by decide) (by decide)]
theorem Alike.per {f g : Nat → Int} (h : Alike f g) (k : Nat) (hk : ¬ (k = 0 ∧ lfoOf f ≠ 0)) : perK g k = perK f k := by
  unfold perK
  rw [h.ny, h.lfo, if_neg hk, if_neg hk, h.1 2 (by decide), h.2 k 3 (by decide) (by decide) (by decide) (by decide), h.2 k 0 (by decide) (by decide) (by decide) (by decide), h.2 1 0 (by decide) (by decide) (by decide) (by decide)]
theorem alike_step (f : Nat → Int) : Alike f (stepF f) :=
  ((((((alike_on f 1 _).trans (alike_on _ 0 _)).trans (alike_on _ 2 _)).trans (alike_on _ 3 _)).trans (alike_on _ 4 _)).trans (alike_on _ 5 _))
theorem alike_it (f : Nat → Int) : ∀ n, Alike f (itF f n)
  | 0 => Alike.refl f
  | n + 1 => (alike_it f n).trans (alike_step _)

/-! ### What may be stays so -/
theorem lfoOf_in {f : Nat → Int} (h : okP f) : 0 ≤ lfoOf f ∧ lfoOf f ≤ 3 := by
  have := h.2.2.2.1
  unfold lfoOf
  split <;> omega
theorem perOf_in (b : Int) : 64 ≤ perOf b ∧ perOf b ≤ 3968 := by
  unfold perOf
  split <;> omega
theorem orL_in {n l : Int} (h : 0 ≤ n ∧ n < l) : 0 < orL n l ∧ orL n l ≤ l := by
  unfold orL
  split <;> omega
theorem okP.chan {f : Nat → Int} (h : okP f) {k : Nat} (hk : k < 6) : okC (ch f k) := h.2.2.2.2 k hk
theorem perK_in {f : Nat → Int} (h : okP f) {k : Nat} (hk : k < 6) : 0 < perK f k ∧ perK f k ≤ 6291456 := by
  have hc := (h.chan hk).1
  have h1 := (h.chan (k := 1) (by decide)).1
  have a := perOf_in (ch f k 3)
  have b := orL_in (n := frq f) (l := 4096) (by unfold frq; omega)
  have c := orL_in (n := ch f 1 0) (l := 4096) (by omega)
  have d := orL_in (n := f 2) (l := 256) (by have := h.2.2.1; omega)
  have e := orL_in (n := ch f k 0) (l := 4096) (by omega)
  unfold perK
  split
  · omega
  · split
    · omega
    · split
      · generalize orL (ch f 1 0) 4096 = x at *
        generalize orL (f 2) 256 = y at *
        have q1 : 0 < 6 * x * y := Int.mul_pos (by omega) (by omega)
        have q2 : 6 * x * y ≤ 6 * 4096 * 256 := Int.mul_le_mul (by omega) (by omega) (by omega) (by omega)
        omega
      · omega
theorem okP_up {f : Nat → Int} (h : okP f) (k m : Nat) (v : Int) (hv : (m = 36 ∧ 0 ≤ v ∧ v ≤ 31) ∨ (m = 37 ∧ 0 ≤ v ∧ v ≤ 16777215) ∨ (m = 38 ∧ 1 ≤ v ∧ v ≤ 262143)) : okP (up f (4 + k * 40 + m) v) := by
  obtain ⟨h0, h1, h2, h3, h4⟩ := h
  unfold okP
  rw [up_head _ _ _ _ 0 (by decide), up_head _ _ _ _ 1 (by decide), up_head _ _ _ _ 2 (by decide), up_head _ _ _ _ 3 (by decide)]
  refine ⟨h0, h1, h2, h3, fun k' hk' => ?_⟩
  obtain ⟨c0, c1, c2, c3, c4, c5, c6, c7, c8⟩ := h4 k' hk'
  have hm : m < 40 := by omega
  unfold okC
  rw [ch_up _ _ _ _ _ _ hm (by decide), ch_up _ _ _ _ _ _ hm (by decide), ch_up _ _ _ _ _ _ hm (by decide), ch_up _ _ _ _ _ _ hm (by decide), ch_up _ _ _ _ _ _ hm (by decide), ch_up _ _ _ _ _ _ hm (by decide), ch_up _ _ _ _ _ _ hm (by decide), ch_up _ _ _ _ _ _ hm (by decide)]
  refine ⟨?_, ?_, ?_, ?_, ?_, ?_, ?_, ?_, fun i hi => ?_⟩
  · rw [if_neg (by omega)]; exact c0
  · rw [if_neg (by omega)]; exact c1
  · rw [if_neg (by omega)]; exact c2
  · rw [if_neg (by omega)]; exact c3
  · split <;> omega
  · split <;> omega
  · split <;> omega
  · rw [if_neg (by omega)]; exact c7
  · rw [ch_up _ _ _ _ _ _ hm (by omega), if_neg (by omega)]; exact c8 i hi
theorem quot_in {t p : Int} (h0 : 0 ≤ t) (h1 : t ≤ 16777670) (hp : 0 < p) : 0 ≤ t / p ∧ t / p ≤ 16777670 ∧ 0 ≤ t % p ∧ t % p < p := by
  have a := Int.ediv_nonneg h0 (Int.le_of_lt hp)
  have b := Int.ediv_le_self p h0
  have c := Int.emod_nonneg t (Int.ne_of_gt hp)
  have d := Int.emod_lt_of_pos t hp
  omega
theorem okP_on {f : Nat → Int} (h : okP f) {k : Nat} (hk : k < 6) {p : Int} (hp : 0 < p ∧ p ≤ 6291456) : okP (onP f k p) := by
  obtain ⟨c0, c1, c2, c3, c4, c5, c6, c7, c8⟩ := h.chan hk
  have q := quot_in (t := ch f k 37 + 455) (p := p) (by omega) (by omega) hp.1
  unfold onP
  split
  · have k1 := okP_up h k 37 ((ch f k 37 + 455) % p) (by omega)
    split
    · refine okP_up k1 k 38 _ (Or.inr (Or.inr ⟨rfl, ?_⟩))
      have j := jumpN_in (s := (ch f k 38).toNat) (by omega) (by omega) ((ch f k 37 + 455) / p).toNat
      omega
    · exact okP_up k1 k 36 _ (by omega)
  · exact h
theorem okP_onK {f : Nat → Int} (h : okP f) {k : Nat} (hk : k < 6) : okP (onK f k) := okP_on h hk (perK_in h hk)
theorem okP_step {f : Nat → Int} (h : okP f) : okP (stepF f) := okP_onK (okP_onK (okP_onK (okP_onK (okP_onK (okP_onK h (by decide)) (by decide)) (by decide)) (by decide)) (by decide)) (by decide)
theorem okP_it {f : Nat → Int} (h : okP f) : ∀ n, okP (itF f n)
  | 0 => h
  | n + 1 => okP_step (okP_it h n)

/-! ### How loud it can be -/
theorem valK_in {f : Nat → Int} (h : okP f) {k : Nat} (hk : k < 6) : 0 ≤ valK f k ∧ valK f k ≤ 31 := by
  obtain ⟨c0, c1, c2, c3, c4, c5, c6, c7, c8⟩ := h.chan hk
  have w := c8 (ch f k 36).toNat (by omega)
  unfold valK
  split
  · exact c7
  · split
    · omega
    · exact w
theorem gain_in (v b m : Int) : 0 ≤ gainOf v b m ∧ gainOf v b m ≤ 1024 := level_in _
theorem prod_in {a g : Int} (h0 : -16 ≤ a) (h1 : a ≤ 15) (g0 : 0 ≤ g) (g1 : g ≤ 1024) : -16384 ≤ a * g ∧ a * g ≤ 16384 := by
  have p1 : a * g ≤ 15 * g := Int.mul_le_mul_of_nonneg_right h1 g0
  have p2 : -16 * g ≤ a * g := Int.mul_le_mul_of_nonneg_right h0 g0
  omega
theorem leftK_in {f : Nat → Int} (h : okP f) {k : Nat} (hk : k < 6) : -16384 ≤ leftK f k ∧ leftK f k ≤ 16384 := by
  have v := valK_in h hk
  have g := gain_in (ch f k 1) (ch f k 2 / 16) (f 1 / 16)
  unfold leftK glOf
  split
  · exact prod_in (by omega) (by omega) g.1 g.2
  · omega
theorem rightK_in {f : Nat → Int} (h : okP f) {k : Nat} (hk : k < 6) : -16384 ≤ rightK f k ∧ rightK f k ≤ 16384 := by
  have v := valK_in h hk
  have g := gain_in (ch f k 1) (ch f k 2 % 16) (f 1 % 16)
  unfold rightK grOf
  split
  · exact prod_in (by omega) (by omega) g.1 g.2
  · omega
theorem sumTo_in {g : Nat → Int} : ∀ n, (∀ k, k < n → -16384 ≤ g k ∧ g k ≤ 16384) → -16384 * (n : Int) ≤ sumTo g n ∧ sumTo g n ≤ 16384 * (n : Int)
  | 0, _ => by simp [sumTo]
  | n + 1, h => by
    have a := sumTo_in n fun k hk => h k (by omega)
    have b := h n (by omega)
    simp only [sumTo]
    omega
theorem leftOf_in {f : Nat → Int} (h : okP f) : -98304 ≤ leftOf f ∧ leftOf f ≤ 98304 := sumTo_in 6 fun k hk => leftK_in h hk
theorem rightOf_in {f : Nat → Int} (h : okP f) : -98304 ≤ rightOf f ∧ rightOf f ≤ 98304 := sumTo_in 6 fun k hk => rightK_in h hk

/-! ### The voices: a channel as it sounds, cell by cell -/
def vAt (f : Nat → Int) (A P : Nat → Int) (k j : Nat) : Value :=
  if j = 0 then .int .i64 (ch f k 37) else if j = 1 then .int .i64 (P k) else if j < 42 then .int .i64 (if j = 39 then A k else ch f k (j - 2)) else if j = 42 then .bool (nyOf f k) else if j = 43 then .bool (drOf f k)
  else if j = 44 then .bool (goOf f k) else if j = 45 then .bool (heOf f k) else if j = 46 then .int .i64 (glOf f k) else .int .i64 (grOf f k)
def vrow (f : Nat → Int) (A P : Nat → Int) : Nat → Value := fun i => vAt f A P (i / 48) (i % 48)
theorem vrow_at (f : Nat → Int) (A P : Nat → Int) (k j : Nat) (hj : j < 48) : vrow f A P (k * 48 + j) = vAt f A P k j := by
  unfold vrow
  rw [show (k * 48 + j) / 48 = k by omega, show (k * 48 + j) % 48 = j by omega]
theorem vrow_ext {c : Nat → Value} {f : Nat → Int} {A P : Nat → Int} (h : ∀ k j, k < 6 → j < 48 → c (k * 48 + j) = vAt f A P k j) : ∀ i, i < 288 → c i = vrow f A P i := fun i hi => by
  have k := h (i / 48) (i % 48) (by omega) (by omega)
  rw [show i / 48 * 48 + i % 48 = i by omega] at k
  exact k
theorem vAt_one (f : Nat → Int) (A P : Nat → Int) (k j : Nat) : (vAt f A P k j).oneCell' = true := by
  unfold vAt
  (repeat' split) <;> rfl
theorem updC_at (c : Nat → Value) (i : Nat) (v : Value) (k j k' j' : Nat) (hi : i = k * 48 + j) (hj : j < 48) (hj' : j' < 48) : updC c i v (k' * 48 + j') = if k' = k ∧ j' = j then v else c (k' * 48 + j') := by
  subst hi
  unfold updC
  by_cases h : k' = k ∧ j' = j
  · rw [if_pos h, if_pos (by omega)]
  · rw [if_neg h, if_neg (by omega)]
/-- The ticks are put, the index, the state of the noise, the period. -/
theorem vset_ticks (f : Nat → Int) (A P : Nat → Int) (k : Nat) (v : Int) : ∀ i, i < 288 → updC (vrow f A P) (k * 48) (.int .i64 v) i = vrow (up f (4 + k * 40 + 37) v) A P i := vrow_ext fun k' j hk hj => by
  have al := alike_up f k 37 v (by simp)
  rw [updC_at _ _ _ k 0 k' j (by omega) (by decide) hj, vrow_at _ _ _ _ _ hj]
  unfold vAt
  rw [al.ny, al.dr, al.go, al.he, al.gl, al.gr, ch_up _ _ _ _ _ _ (by decide) (by decide)]
  by_cases h0 : j = 0
  · subst h0
    by_cases e : k' = k
    · simp [e]
    · simp [e]
  · rw [if_neg (by omega), if_neg h0, if_neg h0]
    by_cases h2 : j < 42
    · by_cases h3 : j = 39
      · simp [h3]
      · rw [ch_up _ _ _ _ _ _ (by decide) (by omega), if_neg (c := k' = k ∧ j - 2 = 37) (by omega)]
    · rw [if_neg h2, if_neg h2]
theorem vset_index (f : Nat → Int) (A P : Nat → Int) (k : Nat) (v : Int) : ∀ i, i < 288 → updC (vrow f A P) (k * 48 + 2 + 36) (.int .i64 v) i = vrow (up f (4 + k * 40 + 36) v) A P i := vrow_ext fun k' j hk hj => by
  have al := alike_up f k 36 v (by simp)
  rw [updC_at _ _ _ k 38 k' j (by omega) (by decide) hj, vrow_at _ _ _ _ _ hj]
  unfold vAt
  rw [al.ny, al.dr, al.go, al.he, al.gl, al.gr, ch_up _ _ _ _ _ _ (by decide) (by decide), if_neg (c := k' = k ∧ 37 = 36) (by omega)]
  by_cases h0 : j = 38
  · subst h0
    by_cases e : k' = k
    · simp [e, ch_up]
    · simp [e, ch_up]
  · rw [if_neg (by omega)]
    by_cases h2 : j < 42 ∧ 2 ≤ j
    · rw [ch_up _ _ _ _ _ _ (by decide) (by omega), if_neg (c := k' = k ∧ j - 2 = 36) (by omega)]
    · by_cases h3 : j < 42
      · have : j = 0 ∨ j = 1 := by omega
        rcases this with rfl | rfl <;> rfl
      · rw [if_neg h3, if_neg h3]
theorem vset_rand (f : Nat → Int) (A P : Nat → Int) (k : Nat) (v : Int) : ∀ i, i < 288 → updC (vrow f A P) (k * 48 + 2 + 38) (.int .i64 v) i = vrow (up f (4 + k * 40 + 38) v) A P i := vrow_ext fun k' j hk hj => by
  have al := alike_up f k 38 v (by simp)
  rw [updC_at _ _ _ k 40 k' j (by omega) (by decide) hj, vrow_at _ _ _ _ _ hj]
  unfold vAt
  rw [al.ny, al.dr, al.go, al.he, al.gl, al.gr, ch_up _ _ _ _ _ _ (by decide) (by decide), if_neg (c := k' = k ∧ 37 = 38) (by omega)]
  by_cases h0 : j = 40
  · subst h0
    by_cases e : k' = k
    · simp [e, ch_up]
    · simp [e, ch_up]
  · rw [if_neg (by omega)]
    by_cases h2 : j < 42 ∧ 2 ≤ j
    · rw [ch_up _ _ _ _ _ _ (by decide) (by omega), if_neg (c := k' = k ∧ j - 2 = 38) (by omega)]
    · by_cases h3 : j < 42
      · have : j = 0 ∨ j = 1 := by omega
        rcases this with rfl | rfl <;> rfl
      · rw [if_neg h3, if_neg h3]
def upN (P : Nat → Int) (k : Nat) (v : Int) : Nat → Int := fun j => if j = k then v else P j
theorem vset_period (f : Nat → Int) (A P : Nat → Int) (k : Nat) (v : Int) : ∀ i, i < 288 → updC (vrow f A P) (k * 48 + 1) (.int .i64 v) i = vrow f A (upN P k v) i := vrow_ext fun k' j hk hj => by
  rw [updC_at _ _ _ k 1 k' j (by omega) (by decide) hj, vrow_at _ _ _ _ _ hj]
  unfold vAt upN
  by_cases h0 : j = 1
  · subst h0
    by_cases e : k' = k
    · simp [e]
    · simp [e]
  · rw [if_neg (by omega), if_neg (c := j = 1) h0, if_neg (c := j = 1) h0]
end Go.Proofs.YtcpilhbinkamiaaDoor
