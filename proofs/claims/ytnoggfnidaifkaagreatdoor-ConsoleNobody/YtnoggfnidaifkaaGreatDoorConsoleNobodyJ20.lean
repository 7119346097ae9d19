/- The program's machine: its timer, its lines and its status, under numbers. -/
import Derived.Test.YtnoggfnidaifkaaGreatDoorConsoleNobodyJ17
import Derived.Test.YtnoggfnidaifkaaGreatDoorConsoleNobodyJ18
import Derived.Test.YtnoggfnidaifkaaGreatDoorConsoleNobodyJ19
namespace Go.Proofs.YtnoggfnidaifkaaGreatDoor.L24
set_option maxRecDepth 20000
open B4 C3 G6 I11 M5 P22 R15 T10 W13
open Go.RowKit
set_option linter.unusedVariables false
def tv (r c : Int) (o : Bool) (p : Int) : Nat → Value := fun j => if j = 0 then .int .i64 r else if j = 1 then .int .i64 c else if j = 2 then .bool o else .int .i64 p
def sv (m l : Int) : Nat → Value := fun j => if j = 0 then .int .i64 m else .int .i64 l
theorem tv_row (r c : Int) (o : Bool) (p : Int) : rowF (tv r c o p) 4 = #[.int .i64 r, .int .i64 c, .bool o, .int .i64 p] := rfl
theorem sv_row (m l : Int) : rowF (sv m l) 2 = #[.int .i64 m, .int .i64 l] := rfl
theorem tv_one (r c : Int) (o : Bool) (p : Int) : ∀ j, j < 4 → (tv r c o p j).oneCell' = true := fun j _ => by
  unfold tv
  split
  · rfl
  · split
    · rfl
    · split <;> rfl
theorem sv_one (m l : Int) : ∀ j, j < 2 → (sv m l j).oneCell' = true := fun j _ => by
  unfold sv
  split <;> rfl
def goT (r c : Int) (o : Bool) (p t : Int) : Bool := (o && okT r c o p) && decide (1 ≤ t ∧ t ≤ 1099511627776)
def cT (r c : Int) (o : Bool) (p t : Int) : Int := if goT r c o p t = true then cntOf r c ((t + p) / 3072) else c
def pT (r c : Int) (o : Bool) (p t : Int) : Int := if goT r c o p t = true then (t + p) % 3072 else p
def kT (r c : Int) (o : Bool) (p t : Int) : Int := if goT r c o p t = true then rndOf r c ((t + p) / 3072) else 0
theorem adv_t (r c : Int) (o : Bool) (p t : Int) (w : World) : Calls Tryz.prog 93 #[.agg (rowF (tv r c o p) 4), .int .i64 t] w fun e w' => e = Ending.returned (.tuple #[.agg (rowF (tv r (cT r c o p t) o (pT r c o p t)) 4), .int .i64 (kT r c o p t)]) ∧ Below w.heap.size w w' := by
  rw [tv_row, tv_row]
  unfold cT pT kT
  by_cases h : goT r c o p t = true
  · rw [if_pos h, if_pos h, if_pos h]
    unfold goT at h
    simp only [Bool.and_eq_true, decide_eq_true_eq] at h
    obtain ⟨⟨rfl, h1⟩, h2, h3⟩ := h
    exact adv_on r c p t h1 h2 h3 w
  · rw [if_neg h, if_neg h, if_neg h]
    refine adv_still r c o p t ?_ w
    cases hv : (o && okT r c o p)
    · exact .inl rfl
    · right
      unfold goT at h
      rw [hv] at h
      simp at h
      omega
def mT (m k : Int) : Int := if 0 < k then m % 8 else m
def lT (l k : Int) : Int := if 0 < k then or3 l 4 else l
def setL (L : List (Nat × (Nat → Value))) (r n : Int) (o : Bool) (p t m l : Int) : List (Nat × (Nat → Value)) := ((L.set 12 (4, tv r (cT r n o p t) o (pT r n o p t))).set 17 (1, fun _ => Value.int .i64 0)).set 13 (2, sv (mT m (kT r n o p t)) (lT l (kT r n o p t)))
theorem settle_t {w : World} {b v c d : Nat} {L : List (Nat × (Nat → Value))} {bs : List Int} {f : Nat → Int} {wr rd st lo bu : Int} (h : HasX w b v c d L bs f wr rd st lo bu) {r n : Int} {o : Bool} {p t m l : Int} (h12 : L[12]? = some (4, tv r n o p)) (h13 : L[13]? = some (2, sv m l)) (h17 : L[17]? = some (1, fun _ => Value.int .i64 t)) :
    Calls Tryz.prog 57 #[.pointer (some ⟨b, 0, none⟩)] w fun e w' => e = Ending.returned (.tuple #[]) ∧ HasX w' b v c d (setL L r n o p t m l) bs f wr rd st lo bu ∧ OnlyE (EX b v) w w' := by
  by_cases hk : 0 < kT r n o p t
  · have k := settle_round h h12 h17 h13 (adv_t r n o p t) (tv_one _ _ _ _) hk (s' := sv (m % 8) (or3 l 4)) (fun w => by rw [sv_row, sv_row]; exact raise_any m l 4 true w) (sv_one _ _)
    have e : setL L r n o p t m l = (((L.set 12 (4, tv r (cT r n o p t) o (pT r n o p t))).set 17 (1, fun _ => Value.int .i64 0)).set 13 (2, sv (m % 8) (or3 l 4))) := by
      unfold setL mT lT
      rw [if_pos hk, if_pos hk]
    rw [e]
    exact k
  · have k := settle_no h h12 h17 (adv_t r n o p t) (tv_one _ _ _ _) hk
    have e : setL L r n o p t m l = ((L.set 12 (4, tv r (cT r n o p t) o (pT r n o p t))).set 17 (1, fun _ => Value.int .i64 0)) := by
      unfold setL mT lT
      rw [if_neg hk, if_neg hk]
      exact set_id (set_other (set_other h13 _ (by decide)) _ (by decide))
    rw [e]
    exact k
theorem setL_12 {L : List (Nat × (Nat → Value))} {r n : Int} {o : Bool} {p t m l : Int} (h : L[12]? = some (4, tv r n o p)) : (setL L r n o p t m l)[12]? = some (4, tv r (cT r n o p t) o (pT r n o p t)) := set_other (set_other (set_same h _) _ (by decide)) _ (by decide)
theorem setL_13 {L : List (Nat × (Nat → Value))} {r n : Int} {o : Bool} {p t m l : Int} (h : L[13]? = some (2, sv m l)) : (setL L r n o p t m l)[13]? = some (2, sv (mT m (kT r n o p t)) (lT l (kT r n o p t))) := set_same (set_other (set_other h _ (by decide)) _ (by decide)) _
theorem setL_no {L : List (Nat × (Nat → Value))} {r n : Int} {o : Bool} {p t m l : Int} (i : Nat) (h : i ≠ 12 ∧ i ≠ 13 ∧ i ≠ 17) : (setL L r n o p t m l)[i]? = L[i]? := set_other (set_other (set_other rfl _ (fun e => h.1 e.symm)) _ (fun e => h.2.2 e.symm)) _ (fun e => h.2.1 e.symm)
theorem where_at (p k g a : Int) (hk : kindW p = k) (hg : pageW p = g) (ha : atW p = a) : ∀ w, HasPorts w → Calls Tryz.prog 95 #[.int .i64 p] w fun e w' => e = Ending.returned (.agg #[.int .i64 k, .int .i64 g, .int .i64 a]) ∧ Below w.heap.size w w' := fun w hp => by
  have := where_any p w hp
  rw [hk, hg, ha] at this
  exact this
def lookL (L : List (Nat × (Nat → Value))) (m l : Int) : List (Nat × (Nat → Value)) := (L.set 3 (1, fun _ => Value.int .i64 0)).set 13 (2, sv (m % 8) (bic3 l 2))
theorem rd_status {w : World} {b v c d : Nat} {L : List (Nat × (Nat → Value))} {bs : List Int} {f : Nat → Int} {wr rd st lo bu : Int} (h : HasX w b v c d L bs f wr rd st lo bu) (p g : Int) (hk : kindW p = 2) (hg : pageW p = g) (ha : atW p = 0) {s x m l : Int} (h3 : L[3]? = some (1, fun _ => Value.int .i64 s)) (h13 : L[13]? = some (2, sv m l)) (hx : s % 128 = x) : Calls Tryz.prog 58 #[.pointer (some ⟨b, 0, none⟩), .int .i64 p] w fun e w' => e = Ending.returned (.int .i64 x) ∧ HasX w' b v c d (lookL L m l) bs f wr rd st lo bu ∧ OnlyE (EX b v) w w' := by
  refine read_vdc h p g 0 (where_at p 2 g 0 hk hg ha) (R := fun w' => HasX w' b v c d (lookL L m l) bs f wr rd st lo bu ∧ OnlyE (EX b v) w w') fun w1 b1 => ?_
  refine readVdc_0 (h.next b1) 2 g 0 rfl fun w2 b2 => ?_
  exact (takeStatus_is ((h.next b1).next b2) h3 h13 hx (s' := sv (m % 8) (bic3 l 2)) (fun w => by rw [sv_row, sv_row]; exact raise_any m l 2 false w) (sv_one _ _)).mono fun e w' ⟨e1, x2, o2⟩ => ⟨e1, x2, (ex_below (bnext b1 b2)).trans o2⟩
theorem rd_timer {w : World} {b v c d : Nat} {L : List (Nat × (Nat → Value))} {bs : List Int} {f : Nat → Int} {wr rd st lo bu : Int} (h : HasX w b v c d L bs f wr rd st lo bu) (p g a : Int) (hk : kindW p = 5) (hg : pageW p = g) (ha : atW p = a) {r n : Int} {o : Bool} {q t m l : Int} (h12 : L[12]? = some (4, tv r n o q)) (h13 : L[13]? = some (2, sv m l)) (h17 : L[17]? = some (1, fun _ => Value.int .i64 t)) {hd : Int} (h16 : L[16]? = some (1, fun _ => Value.int .i64 hd)) {x u : Int} (hu : bits .and .i64 hd 128 = u) (hx : bits .or .i64 u (cT r n o q t) = x) : Calls Tryz.prog 58 #[.pointer (some ⟨b, 0, none⟩), .int .i64 p] w fun e w' => e = Ending.returned (.int .i64 x) ∧ HasX w' b v c d ((setL L r n o q t m l).set 16 (1, fun _ => Value.int .i64 x)) bs f wr rd st lo bu ∧ OnlyE (EX b v) w w' := by
  refine read_timer h p g a (where_at p 5 g a hk hg ha) (R := fun w' => HasX w' b v c d ((setL L r n o q t m l).set 16 (1, fun _ => Value.int .i64 x)) bs f wr rd st lo bu ∧ OnlyE (EX b v) w w') fun w1 b1 => ?_
  exact (readTimer_is (h.next b1) 5 g a (fun w h => settle_t h h12 h13 h17) ((setL_no 16 (by decide)).trans h16) (setL_12 h12) hu hx (fun w => by rw [tv_row]; exact read_any _ _ _ _ w)).mono fun e w' ⟨e1, x2, o2⟩ => ⟨e1, x2, (ex_below b1).trans o2⟩
theorem rd_irq {w : World} {b v c d : Nat} {L : List (Nat × (Nat → Value))} {bs : List Int} {f : Nat → Int} {wr rd st lo bu : Int} (h : HasX w b v c d L bs f wr rd st lo bu) (p g a : Int) (hk : kindW p = 7) (hg : pageW p = g) (ha : atW p = a) (h23 : a = 2 ∨ a = 3) {r n : Int} {o : Bool} {q t m l : Int} (h12 : L[12]? = some (4, tv r n o q)) (h13 : L[13]? = some (2, sv m l)) (h17 : L[17]? = some (1, fun _ => Value.int .i64 t)) {hd : Int} (h16 : L[16]? = some (1, fun _ => Value.int .i64 hd)) {x u : Int} (hu : bits .and .i64 hd 248 = u) (hx : bits .or .i64 u (readOf (mT m (kT r n o q t)) (lT l (kT r n o q t)) a) = x) : Calls Tryz.prog 58 #[.pointer (some ⟨b, 0, none⟩), .int .i64 p] w fun e w' => e = Ending.returned (.int .i64 x) ∧ HasX w' b v c d ((setL L r n o q t m l).set 16 (1, fun _ => Value.int .i64 x)) bs f wr rd st lo bu ∧ OnlyE (EX b v) w w' := by
  refine read_irq h p g a (where_at p 7 g a hk hg ha) (R := fun w' => HasX w' b v c d ((setL L r n o q t m l).set 16 (1, fun _ => Value.int .i64 x)) bs f wr rd st lo bu ∧ OnlyE (EX b v) w w') fun w1 b1 => ?_
  exact (readIrq_is (h.next b1) 7 g a h23 (fun w h => settle_t h h12 h13 h17) ((setL_no 16 (by decide)).trans h16) (setL_13 h13) hu hx (fun w => by rw [sv_row]; exact I11.read_any _ _ _ w)).mono fun e w' ⟨e1, x2, o2⟩ => ⟨e1, x2, (ex_below b1).trans o2⟩
end Go.Proofs.YtnoggfnidaifkaaGreatDoor.L24
