/- The program's machine: its row in parts, what hangs on it; missing. -/
import Derived.Test.YthelklkfcllddaaGreatDoorTopCardsJ08
import Derived.Test.YthelklkfcllddaaGreatDoorTopCardsJ09
import Derived.Test.YthelklkfcllddaaGreatDoorTopCardsJ02
import Derived.Test.YthelklkfcllddaaGreatDoorTopCardsJ10
import Derived.Test.YthelklkfcllddaaGreatDoorTopCardsJ11
import Derived.Test.YthelklkfcllddaaGreatDoorTopCardsJ12
import Derived.Test.YthelklkfcllddaaGreatDoorTopCardsJ01
namespace Go.Proofs.YthelklkfcllddaaGreatDoor.L24
set_option maxRecDepth 20000
open C3 G6 R15 W13
open Go.RowKit
set_option linter.unusedVariables false
def blens : List Nat := [21, 1, 256, 1, 1, 1, 1, 1, 8192, 8, 514, 244, 4, 2, 4, 10, 1, 1]
def IsB (L : List (Nat × (Nat → Value))) : Prop := L.map Prod.fst = blens
theorem IsB.off {L : List (Nat × (Nat → Value))} (h : IsB L) (k : Nat) {a : Nat} (ha : (blens.take k).sum = a) : soff L k = a := off_of h k ha
theorem IsB.set {L : List (Nat × (Nat → Value))} (h : IsB L) {k n : Nat} {f : Nat → Value} (hk : L[k]? = some (n, f)) (f' : Nat → Value) : IsB (L.set k (n, f')) := lens_set h hk f'
theorem cell_same {w w' : World} {c : Nat} (h : w'.heap[c]? = w.heap[c]?) (o : Nat) : w'.cell? ⟨c, o, none⟩ = w.cell? ⟨c, o, none⟩ := by simp only [World.cell?, h]
def HasCard (w : World) (c d : Nat) (bs : List Int) : Prop := w.cell? ⟨c, 0, none⟩ = some (.slice (some ⟨d, 0, none⟩) bs.length bs.length) ∧ Bytes 5 w d bs ∧ c < w.heap.size
theorem HasCard.next {w w' : World} {c d : Nat} {bs : List Int} (h : HasCard w c d bs) (k : Below w.heap.size w w') : HasCard w' c d bs := ⟨(cell_same (k.block c h.2.2) 0).trans h.1, h.2.1.next k, Nat.lt_of_lt_of_le h.2.2 k.size⟩
theorem HasCard.only {E : Nat → Prop} {w w' : World} {c d : Nat} {bs : List Int} (h : HasCard w c d bs) (k : OnlyE E w w') (hc : ¬ E c) (hd : ¬ E d) : HasCard w' c d bs := ⟨(cell_same (k.block c h.2.2 hc) 0).trans h.1, ⟨k.obj h.2.1.1 hd, h.2.1.2⟩, Nat.lt_of_lt_of_le h.2.2 k.size⟩
def Tabs (w : World) : Prop := HasTab w ∧ HasPorts w ∧ HasMask w
def High (b : Nat) : Prop := 2 < b ∧ 1 < b ∧ 3 < b
theorem Tabs.next {w w' : World} (h : Tabs w) (k : Below w.heap.size w w') : Tabs w' := ⟨h.1.next k, h.2.1.next k, h.2.2.next k⟩
theorem Tabs.high {w : World} (h : Tabs w) {b : Nat} (k : w.heap.size ≤ b) : High b := ⟨Nat.lt_of_lt_of_le h.1.pos k, Nat.lt_of_lt_of_le h.2.1.pos k, Nat.lt_of_lt_of_le h.2.2.pos k⟩
theorem Tabs.only {E : Nat → Prop} {w w' : World} (h : Tabs w) (k : OnlyE E w w') (hE : ∀ b, E b → High b) : Tabs w' := by
  have p0 := h.1.pos
  have p1 := h.2.1.pos
  have p2 := h.2.2.pos
  obtain ⟨⟨t0, f0, e0⟩, ⟨t1, f1, e1⟩, ⟨t2, f2, e2⟩⟩ := h
  exact ⟨⟨t0, f0, k.obj e0 fun e => Nat.lt_irrefl _ (hE _ e).1⟩, ⟨t1, f1, k.obj e1 fun e => Nat.lt_irrefl _ (hE _ e).2.1⟩, ⟨t2, f2, k.obj e2 fun e => Nat.lt_irrefl _ (hE _ e).2.2⟩⟩
def EX (b v : Nat) : Nat → Prop := fun k => k = b ∨ k = v
theorem ex_but {b v : Nat} {w w' : World} (k : But b w w') : OnlyE (EX b v) w w' := ⟨k.1, k.2.1, k.2.2.1, k.size, fun i hi hE => k.block i hi fun e => hE (.inl e)⟩
theorem ex_below {b v : Nat} {w w' : World} (k : Below w.heap.size w w') : OnlyE (EX b v) w w' := OnlyE.of k
def HasX (w : World) (b v c d : Nat) (L : List (Nat × (Nat → Value))) (bs : List Int) (f : Nat → Int) (wr rd st lo bu : Int) : Prop :=
  HasF 63 w b 9263 (segs L) ∧ HasM w v true f wr rd st lo bu ∧ HasCard w c d bs ∧ Tabs w ∧ IsB L ∧ L[1]? = some (1, fun _ => .pointer (some ⟨v, 0, none⟩)) ∧ L[6]? = some (1, fun _ => .pointer (some ⟨c, 0, none⟩)) ∧ (b ≠ v ∧ b ≠ c ∧ b ≠ d ∧ v ≠ c ∧ v ≠ d ∧ High b ∧ High v) ∧ (1 ≤ bs.length / 8192 ∧ bs.length ≤ 10000000) ∧ st ≠ 0
theorem HasX.isB {w : World} {b v c d : Nat} {L : List (Nat × (Nat → Value))} {bs : List Int} {f : Nat → Int} {wr rd st lo bu : Int} (h : HasX w b v c d L bs f wr rd st lo bu) : IsB L := h.2.2.2.2.1
theorem HasX.tabs {w : World} {b v c d : Nat} {L : List (Nat × (Nat → Value))} {bs : List Int} {f : Nat → Int} {wr rd st lo bu : Int} (h : HasX w b v c d L bs f wr rd st lo bu) : Tabs w := h.2.2.2.1
theorem HasX.next {w : World} {b v c d : Nat} {L : List (Nat × (Nat → Value))} {bs : List Int} {f : Nat → Int} {wr rd st lo bu : Int} (h : HasX w b v c d L bs f wr rd st lo bu) {w' : World} (k : Below w.heap.size w w') : HasX w' b v c d L bs f wr rd st lo bu := ⟨h.1.next k, h.2.1.next k, h.2.2.1.next k, h.2.2.2.1.next k, h.2.2.2.2⟩
theorem HasX.row {w : World} {b v c d : Nat} {L : List (Nat × (Nat → Value))} {bs : List Int} {f : Nat → Int} {wr rd st lo bu : Int} (h : HasX w b v c d L bs f wr rd st lo bu) {w' : World} {L' : List (Nat × (Nat → Value))} (k : But b w w') (h' : HasF 63 w' b 9263 (segs L')) (y : IsB L') (y1 : L'[1]? = L[1]?) (y6 : L'[6]? = L[6]?) : HasX w' b v c d L' bs f wr rd st lo bu := by
  obtain ⟨q1, q2, q3, q4, q5, q6, q7, ⟨n1, n2, n3, n4, n5, n6, n7⟩, q9, q10⟩ := h
  have e : OnlyE (fun i => i = b) w w' := ⟨k.1, k.2.1, k.2.2.1, k.size, fun i hi hE => k.block i hi hE⟩
  exact ⟨h', k.obj q2 (fun e => n1 e.symm), q3.only e (fun e => n2 e.symm) (fun e => n3 e.symm), q4.only e (fun i e => e ▸ n6), y, y1.trans q6, y6.trans q7, ⟨n1, n2, n3, n4, n5, n6, n7⟩, q9, q10⟩
theorem HasX.lay {w : World} {b v c d : Nat} {L : List (Nat × (Nat → Value))} {bs : List Int} {f : Nat → Int} {wr rd st lo bu : Int} (h : HasX w b v c d L bs f wr rd st lo bu) {w' : World} (k : But b w w') (i : Nat) {n : Nat} {s s' : Nat → Value} (hi : L[i]? = some (n, s)) (h' : HasF 63 w' b 9263 (segs (L.set i (n, s')))) (i1 : i ≠ 1) (i6 : i ≠ 6) : HasX w' b v c d (L.set i (n, s')) bs f wr rd st lo bu :=
  h.row k h' (h.isB.set hi s') (set_other rfl _ i1) (set_other rfl _ i6)
theorem isNone_no {w : World} {v : Nat} {f : Nat → Int} {wr rd st lo bu : Int} (h : HasM w v true f wr rd st lo bu) (hs : st ≠ 0) : Calls Tryz.prog 52 #[.pointer (some ⟨v, 0, none⟩)] w fun e w' => e = Ending.returned (.bool false) ∧ Below w.heap.size w w' := by
  have K := hide (ports_is v f wr rd st lo bu w h)
  have hs2 : (st == 0) = false := by simp [hs]
  clear h hs
  go_enter Tryz.func52, Tryz.ntmps52
  go_wp2_with (first | (go_at_call 76; refine K.out.mono ?_; rintro e w2 ⟨rfl, b2⟩; have B2 := hide b2; clear b2))
  go_ret
  exact ⟨rfl, B2.out⟩
theorem missing_no {w : World} {b v c d : Nat} {L : List (Nat × (Nat → Value))} {bs : List Int} {f : Nat → Int} {wr rd st lo bu : Int} (h : HasX w b v c d L bs f wr rd st lo bu) : Calls Tryz.prog 28 #[.pointer (some ⟨b, 0, none⟩)] w fun e w' => e = Ending.returned (.bool false) ∧ Below w.heap.size w w' := by
  obtain ⟨q1, q2, q3, q4, q5, q6, q7, q8, ⟨p0, p1⟩, q10⟩ := h
  have c1 := q1.get1 1 q6 (a := 21) (q5.off 1 rfl) (by decide)
  have c6 := q1.get1 6 q7 (a := 281) (q5.off 6 rfl) (by decide)
  have KP := hide (pages_of ⟨c, 0, none⟩ (some ⟨d, 0, none⟩) bs.length bs.length w (by omega) q3.1)
  have KN := hide (isNone_no q2 q10)
  have p2 : (((bs.length / 8192 : Nat) : Int) == 0) = false := by simp; omega
  generalize ((bs.length / 8192 : Nat) : Int) = n at *
  clear q1 q2 q3 q4 q5 q6 q7 q8 q10 p0 p1
  go_enter Tryz.func28, Tryz.ntmps28
  go_wp2_with (first
    | (go_at_call 6; refine KP.out.mono ?_; rintro e w2 ⟨rfl, hw⟩; subst w2)
    | (go_at_call 52; refine KN.out.mono ?_; rintro e w2 ⟨rfl, b2⟩; have B2 := hide b2; clear b2))
  go_ret
  exact ⟨rfl, B2.out⟩
end Go.Proofs.YthelklkfcllddaaGreatDoor.L24
