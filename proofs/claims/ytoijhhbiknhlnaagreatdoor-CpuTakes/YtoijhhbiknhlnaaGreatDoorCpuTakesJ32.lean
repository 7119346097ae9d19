/- Texts put together. -/
import Derived.Test.YtoijhhbiknhlnaaGreatDoorCpuTakesJ03
import Derived.Test.YtoijhhbiknhlnaaGreatDoorCpuTakesJ01
import Derived.Deep.RegionHeld3
import Derived.Handy
import Derived.Test.YtoijhhbiknhlnaaGreatDoorCpuTakesJ30
import Derived.Test.YtoijhhbiknhlnaaGreatDoorCpuTakesJ31
import Derived.Test.YtoijhhbiknhlnaaGreatDoorCpuTakesJ18
namespace Go.Proofs.YtoijhhbiknhlnaaGreatDoor.K9
set_option maxRecDepth 20000
open Go.RowKit
set_option linter.unusedVariables false
def pathCells : Array Value := #[.int .i64 0, .int .i64 0, .int .i64 1, .int .i64 1, .int .i64 0, .int .i64 2, .int .i64 0, .int .i64 3, .int .i64 3, .int .i64 0]
def HasPaths (w : World) : Prop := ∃ t fr, w.heap[3]? = some (.cells pathCells t fr)
theorem lt_block {w : World} {g : Nat} {o : Obj} (h : w.heap[g]? = some o) : g < w.heap.size := by
  rcases Nat.lt_or_ge g w.heap.size with k | k
  · exact k
  · rw [Array.getElem?_eq_none k] at h; cases h
theorem HasPaths.pos {w : World} (h : HasPaths w) : 3 < w.heap.size := by
  obtain ⟨t, fr, e⟩ := h
  exact lt_block e
theorem bit_0 (i : Int) : bitOf i 0 = i % 2 := by
  rw [bitOf_in i 0 (by decide) (by decide)]
  show i % 65536 / 1 % 2 = i % 2
  omega
end Go.Proofs.YtoijhhbiknhlnaaGreatDoor.K9
namespace Go.Proofs.YtoijhhbiknhlnaaGreatDoor.L25
set_option maxRecDepth 20000
open B4 C3 G6 I11 J23 K9 L24 M5 N8 P22 R15 T10 V12 W13
open Go.RowKit
set_option linter.unusedVariables false
def infV (nm : ByteArray) (m l c : Int) : Nat → Value := fun j => if j = 0 then .string nm else if j = 1 then .int .i64 m else if j = 2 then .int .i64 l else .int .i64 c
def SP (b : Nat) (nm : ByteArray) (I B : Nat → Int) (t : Bool) (Z : Nat → Nat → Int) : List (Nat × (Nat → Value)) :=
  [(6, iv (Z 20)), (1, fun _ => .bool (isB (Z 21 0))), (1, fun _ => Value.int .i64 (Z 22 0)), (1, fun _ => .pointer (some ⟨b, 0, none⟩)), (1, fun _ => Value.int .i64 (Z 23 0)), (4, infV nm (I 0) (I 1) (I 2)), (6, iv B), (4, iv fun j => I (j + 3)), (1, fun _ => .bool t)]
def vidCells : Array Value := #[.int .i64 2088960, .int .i64 2088962, .int .i64 2088963]
def HasVid (w : World) : Prop := ∃ t fr, w.heap[1]? = some (.cells vidCells t fr)
def kindCells : Array Value := #[.string ⟨#[84, 73, 73]⟩, .string ⟨#[84, 68, 68]⟩, .string ⟨#[84, 73, 78]⟩, .string ⟨#[84, 73, 65]⟩, .string ⟨#[84, 65, 73]⟩]
def HasKinds (w : World) : Prop := ∃ t fr, w.heap[2]? = some (.cells kindCells t fr)
def CT (w : World) : Prop := HasVec w ∧ HasPaths w ∧ HasKinds w ∧ HasVid w
theorem obj_next {w w' : World} {g : Nat} {o : Obj} (h : w.heap[g]? = some o) (k : Below w.heap.size w w') : w'.heap[g]? = some o := (k.block g (lt_of_block h)).trans h
theorem CT.next {w w' : World} (h : CT w) (k : Below w.heap.size w w') : CT w' := by
  obtain ⟨⟨t0, f0, e0⟩, ⟨t1, f1, e1⟩, ⟨t2, f2, e2⟩, ⟨t3, f3, e3⟩⟩ := h
  exact ⟨⟨t0, f0, obj_next e0 k⟩, ⟨t1, f1, obj_next e1 k⟩, ⟨t2, f2, obj_next e2 k⟩, ⟨t3, f3, obj_next e3 k⟩⟩
theorem CT.only {E : Nat → Prop} {w w' : World} (h : CT w) (k : OnlyE E w w') (hE : ∀ b, E b → 8 ≤ b) : CT w' := by
  obtain ⟨⟨t0, f0, e0⟩, ⟨t1, f1, e1⟩, ⟨t2, f2, e2⟩, ⟨t3, f3, e3⟩⟩ := h
  exact ⟨⟨t0, f0, k.obj e0 fun e => absurd (hE _ e) (by decide)⟩, ⟨t1, f1, k.obj e1 fun e => absurd (hE _ e) (by decide)⟩, ⟨t2, f2, k.obj e2 fun e => absurd (hE _ e) (by decide)⟩, ⟨t3, f3, k.obj e3 fun e => absurd (hE _ e) (by decide)⟩⟩
def HasQ (w : World) (s b v c d : Nat) (bs : List Int) (nm : ByteArray) (I B : Nat → Int) (t : Bool) (Z : Nat → Nat → Int) : Prop :=
  HasF 85 w s 25 (segs (SP b nm I B t Z)) ∧ HasP w b v c d bs Z ∧ CT w ∧ (∀ k, GZ k (Z k)) ∧ (s ≠ b ∧ s ≠ v ∧ s ≠ c ∧ s ≠ d ∧ 8 ≤ s ∧ 8 ≤ b ∧ 8 ≤ v) ∧ known ((bs.length / 8192 : Nat) : Int) = true ∧ bs.length / 8192 ≠ 320
def EQ (s b v : Nat) : Nat → Prop := fun k => k = s ∨ k = b ∨ k = v
theorem HasQ.next {w : World} {s b v c d : Nat} {bs : List Int} {nm : ByteArray} {I B : Nat → Int} {t : Bool} {Z : Nat → Nat → Int} (h : HasQ w s b v c d bs nm I B t Z) {w' : World} (k : Below w.heap.size w w') : HasQ w' s b v c d bs nm I B t Z := ⟨h.1.next k, h.2.1.next k, h.2.2.1.next k, h.2.2.2⟩
theorem HasQ.good {w : World} {s b v c d : Nat} {bs : List Int} {nm : ByteArray} {I B : Nat → Int} {t : Bool} {Z : Nat → Nat → Int} (h : HasQ w s b v c d bs nm I B t Z) : ∀ k, GZ k (Z k) := h.2.2.2.1
theorem HasQ.lt {w : World} {s b v c d : Nat} {bs : List Int} {nm : ByteArray} {I B : Nat → Int} {t : Bool} {Z : Nat → Nat → Int} (h : HasQ w s b v c d bs nm I B t Z) : s < w.heap.size := h.1.lt
theorem eq_ex {s b v : Nat} {w w' : World} (k : OnlyE (EX b v) w w') : OnlyE (EQ s b v) w w' := ⟨k.1, k.2.1, k.2.2.1, k.size, fun i hi hE => k.block i hi fun e => hE (.inr e)⟩
theorem eq_of {s b v : Nat} {w w' : World} (k : Below w.heap.size w w') : OnlyE (EQ s b v) w w' := OnlyE.of k
theorem eq_set {s b v : Nat} {w w' : World} (k : OnlyE (EQ s b v) w w') (o : Nat) (x : Value) : OnlyE (EQ s b v) w (w'.setCell ⟨s, o, none⟩ x) := k.set s o x (.inl rfl)
theorem HasQ.bus {w : World} {s b v c d : Nat} {bs : List Int} {nm : ByteArray} {I B : Nat → Int} {t : Bool} {Z : Nat → Nat → Int} (h : HasQ w s b v c d bs nm I B t Z) {w' : World} {Z' : Nat → Nat → Int} (p : HasP w' b v c d bs Z') (k : OnlyE (EX b v) w w') (g : ∀ k, GZ k (Z' k)) (e0 : Z' 20 = Z 20) (e1 : Z' 21 = Z 21) (e2 : Z' 22 = Z 22) (e3 : Z' 23 = Z 23) : HasQ w' s b v c d bs nm I B t Z' := by
  obtain ⟨q1, q2, q3, q4, ⟨n1, n2, n3, n4, n5, n6, n7⟩, q6, q7⟩ := h
  refine ⟨?_, p, q3.only k (fun i e => by rcases e with rfl | rfl <;> assumption), g, ⟨n1, n2, n3, n4, n5, n6, n7⟩, q6, q7⟩
  have e : SP b nm I B t Z' = SP b nm I B t Z := by unfold SP; rw [e0, e1, e2, e3]
  rw [e]
  exact k.obj q1 (fun e => by rcases e with e | e; exact n1 e; exact n2 e)
theorem HasQ.put {w : World} {s b v c d : Nat} {bs : List Int} {nm : ByteArray} {I B : Nat → Int} {t : Bool} {Z : Nat → Nat → Int} (h : HasQ w s b v c d bs nm I B t Z) {o : Nat} {x : Value} {nm' : ByteArray} {I' B' : Nat → Int} {t' : Bool} {Z' : Nat → Nat → Int} (p : HasF 85 (w.setCell ⟨s, o, none⟩ x) s 25 (segs (SP b nm' I' B' t' Z'))) (g : ∀ k, GZ k (Z' k)) (e : ∀ k, k < 20 → Z' k = Z k) : HasQ (w.setCell ⟨s, o, none⟩ x) s b v c d bs nm' I' B' t' Z' := by
  obtain ⟨q1, q2, q3, q4, ⟨n1, n2, n3, n4, n5, n6, n7⟩, q6, q7⟩ := h
  have k : OnlyE (fun i => i = s) w (w.setCell ⟨s, o, none⟩ x) := (OnlyE.of (Below.refl _ w)).set s o x rfl
  refine ⟨p, ?_, q3.only k (fun i e => e ▸ n5), g, ⟨n1, n2, n3, n4, n5, n6, n7⟩, q6, q7⟩
  have z : HasP (w.setCell ⟨s, o, none⟩ x) b v c d bs Z := by
    refine HasP.only q2 k (fun e => n1 e.symm) (fun e => n2 e.symm) (fun e => n3 e.symm) (fun e => n4 e.symm) (fun i e => ?_)
    subst e
    exact ⟨Nat.lt_of_lt_of_le (by decide) n5, Nat.lt_of_lt_of_le (by decide) n5, Nat.lt_of_lt_of_le (by decide) n5⟩
  have ez : XP v c Z' = XP v c Z := by
    unfold XP
    rw [e 0 (by decide), e 2 (by decide), e 3 (by decide), e 4 (by decide), e 5 (by decide), e 7 (by decide), e 8 (by decide), e 9 (by decide), e 10 (by decide), e 11 (by decide), e 12 (by decide), e 13 (by decide), e 14 (by decide), e 15 (by decide), e 16 (by decide), e 17 (by decide)]
  unfold L24.HasP at z ⊢
  rw [ez, e 18 (by decide), e 19 (by decide)]
  exact z
theorem up20 {Z : Nat → Nat → Int} {k : Nat} (g : Nat → Int) (hk : 20 ≤ k) : ∀ j, j < 20 → upZ Z k g j = Z j := fun j hj => up_out hk Z g j hj
theorem upC_iv (f : Nat → Int) (i : Nat) (x : Int) : updC (iv f) i (.int .i64 x) = iv (up f i x) := funext fun j => by
  unfold updC iv up
  split <;> rfl
theorem HasQ.reg {w : World} {s b v c d : Nat} {bs : List Int} {nm : ByteArray} {I B : Nat → Int} {t : Bool} {Z : Nat → Nat → Int} (h : HasQ w s b v c d bs nm I B t Z) (k : Nat) (hk : k < 6) : w.cell? ⟨s, k, none⟩ = some (.int .i64 (Z 20 k)) := h.1.get 0 rfl k hk (a := k) (by rw [soff_zero, Nat.zero_add]) (by omega)
theorem HasQ.buss {w : World} {s b v c d : Nat} {bs : List Int} {nm : ByteArray} {I B : Nat → Int} {t : Bool} {Z : Nat → Nat → Int} (h : HasQ w s b v c d bs nm I B t Z) : w.cell? ⟨s, 8, none⟩ = some (.pointer (some ⟨b, 0, none⟩)) := h.1.get1 3 rfl rfl (by decide)
theorem HasQ.cycs {w : World} {s b v c d : Nat} {bs : List Int} {nm : ByteArray} {I B : Nat → Int} {t : Bool} {Z : Nat → Nat → Int} (h : HasQ w s b v c d bs nm I B t Z) : w.cell? ⟨s, 9, none⟩ = some (.int .i64 (Z 23 0)) := h.1.get1 4 rfl rfl (by decide)
theorem HasQ.name {w : World} {s b v c d : Nat} {bs : List Int} {nm : ByteArray} {I B : Nat → Int} {t : Bool} {Z : Nat → Nat → Int} (h : HasQ w s b v c d bs nm I B t Z) : w.cell? ⟨s, 10, none⟩ = some (.string nm) := h.1.get 5 rfl 0 (by decide) rfl (by decide)
theorem HasQ.mode {w : World} {s b v c d : Nat} {bs : List Int} {nm : ByteArray} {I B : Nat → Int} {t : Bool} {Z : Nat → Nat → Int} (h : HasQ w s b v c d bs nm I B t Z) : w.cell? ⟨s, 11, none⟩ = some (.int .i64 (I 0)) := h.1.get 5 rfl 1 (by decide) rfl (by decide)
theorem HasQ.leng {w : World} {s b v c d : Nat} {bs : List Int} {nm : ByteArray} {I B : Nat → Int} {t : Bool} {Z : Nat → Nat → Int} (h : HasQ w s b v c d bs nm I B t Z) : w.cell? ⟨s, 12, none⟩ = some (.int .i64 (I 1)) := h.1.get 5 rfl 2 (by decide) rfl (by decide)
theorem HasQ.takes {w : World} {s b v c d : Nat} {bs : List Int} {nm : ByteArray} {I B : Nat → Int} {t : Bool} {Z : Nat → Nat → Int} (h : HasQ w s b v c d bs nm I B t Z) : w.cell? ⟨s, 13, none⟩ = some (.int .i64 (I 2)) := h.1.get 5 rfl 3 (by decide) rfl (by decide)
theorem HasQ.beh {w : World} {s b v c d : Nat} {bs : List Int} {nm : ByteArray} {I B : Nat → Int} {t : Bool} {Z : Nat → Nat → Int} (h : HasQ w s b v c d bs nm I B t Z) (k : Nat) (hk : k < 6) {a : Nat} (ha : 14 + k = a) : w.cell? ⟨s, a, none⟩ = some (.int .i64 (B k)) := h.1.get 6 rfl k hk (a := a) ha (by omega)
theorem HasQ.oper {w : World} {s b v c d : Nat} {bs : List Int} {nm : ByteArray} {I B : Nat → Int} {t : Bool} {Z : Nat → Nat → Int} (h : HasQ w s b v c d bs nm I B t Z) : w.cell? ⟨s, 20, none⟩ = some (.int .i64 (I 3)) := h.1.get 7 rfl 0 (by decide) rfl (by decide)
theorem HasQ.mask {w : World} {s b v c d : Nat} {bs : List Int} {nm : ByteArray} {I B : Nat → Int} {t : Bool} {Z : Nat → Nat → Int} (h : HasQ w s b v c d bs nm I B t Z) : w.cell? ⟨s, 21, none⟩ = some (.int .i64 (I 4)) := h.1.get 7 rfl 1 (by decide) rfl (by decide)
theorem HasQ.farr {w : World} {s b v c d : Nat} {bs : List Int} {nm : ByteArray} {I B : Nat → Int} {t : Bool} {Z : Nat → Nat → Int} (h : HasQ w s b v c d bs nm I B t Z) : w.cell? ⟨s, 22, none⟩ = some (.int .i64 (I 5)) := h.1.get 7 rfl 2 (by decide) rfl (by decide)
theorem HasQ.plac {w : World} {s b v c d : Nat} {bs : List Int} {nm : ByteArray} {I B : Nat → Int} {t : Bool} {Z : Nat → Nat → Int} (h : HasQ w s b v c d bs nm I B t Z) : w.cell? ⟨s, 23, none⟩ = some (.int .i64 (I 6)) := h.1.get 7 rfl 3 (by decide) rfl (by decide)
theorem HasQ.onm {w : World} {s b v c d : Nat} {bs : List Int} {nm : ByteArray} {I B : Nat → Int} {t : Bool} {Z : Nat → Nat → Int} (h : HasQ w s b v c d bs nm I B t Z) : w.cell? ⟨s, 24, none⟩ = some (.bool t) := h.1.get1 8 rfl rfl (by decide)
theorem HasQ.frz {w : World} {s b v c d : Nat} {bs : List Int} {nm : ByteArray} {I B : Nat → Int} {t : Bool} {Z : Nat → Nat → Int} (h : HasQ w s b v c d bs nm I B t Z) (k : Nat) : w.frozen? ⟨s, k, none⟩ = false := h.1.frozen k
theorem HasQ.putR {w : World} {s b v c d : Nat} {bs : List Int} {nm : ByteArray} {I B : Nat → Int} {t : Bool} {Z : Nat → Nat → Int} (h : HasQ w s b v c d bs nm I B t Z) (k : Nat) (hk : k < 6) (x : Int) (hx : GZ 20 (up (Z 20) k x)) : HasQ (w.setCell ⟨s, k, none⟩ (.int .i64 x)) s b v c d bs nm I B t (setR Z k x) := by
  refine h.put ?_ (good_up h.good 20 _ hx) (up20 _ (by decide))
  have q := h.1.put 0 rfl k hk (a := k) (by rw [soff_zero, Nat.zero_add]) (.int .i64 x)
  rw [upC_iv] at q
  exact q
theorem HasQ.putC {w : World} {s b v c d : Nat} {bs : List Int} {nm : ByteArray} {I B : Nat → Int} {t : Bool} {Z : Nat → Nat → Int} (h : HasQ w s b v c d bs nm I B t Z) (x : Int) : HasQ (w.setCell ⟨s, 9, none⟩ (.int .i64 x)) s b v c d bs nm I B t (upZ Z 23 (oneV x)) :=
  h.put (h.1.put1 4 rfl rfl (.int .i64 x)) (good_up h.good 23 _ trivial) (up20 _ (by decide))
theorem HasQ.putB {w : World} {s b v c d : Nat} {bs : List Int} {nm : ByteArray} {I B : Nat → Int} {t : Bool} {Z : Nat → Nat → Int} (h : HasQ w s b v c d bs nm I B t Z) (k : Nat) (hk : k < 6) (x : Int) {a : Nat} (ha : 14 + k = a) : HasQ (w.setCell ⟨s, a, none⟩ (.int .i64 x)) s b v c d bs nm I (up B k x) t Z := by
  refine h.put ?_ h.good (fun _ _ => rfl)
  have q := h.1.put 6 rfl k hk (a := a) ha (.int .i64 x)
  rw [upC_iv] at q
  exact q
theorem HasQ.putI {w : World} {s b v c d : Nat} {bs : List Int} {nm : ByteArray} {I B : Nat → Int} {t : Bool} {Z : Nat → Nat → Int} (h : HasQ w s b v c d bs nm I B t Z) (k : Nat) (hk : k < 4) (x : Int) {a : Nat} (ha : 20 + k = a) : HasQ (w.setCell ⟨s, a, none⟩ (.int .i64 x)) s b v c d bs nm (up I (k + 3) x) B t Z := by
  refine h.put ?_ h.good (fun _ _ => rfl)
  have q := h.1.put 7 rfl k hk (a := a) ha (.int .i64 x)
  rw [upC_iv] at q
  have e : SP b nm (up I (k + 3) x) B t Z = (SP b nm I B t Z).set 7 (4, iv (up (fun j => I (j + 3)) k x)) := by
    have e2 : (fun j => up I (k + 3) x (j + 3)) = up (fun j => I (j + 3)) k x := funext fun j => by
      unfold up
      by_cases e : j = k
      · rw [if_pos e, if_pos (by omega)]
      · rw [if_neg e, if_neg (by omega)]
    unfold SP
    rw [e2, up_other I (k + 3) 0 x (by omega), up_other I (k + 3) 1 x (by omega), up_other I (k + 3) 2 x (by omega)]
    rfl
  rw [e]
  exact q
theorem HasQ.putT {w : World} {s b v c d : Nat} {bs : List Int} {nm : ByteArray} {I B : Nat → Int} {t : Bool} {Z : Nat → Nat → Int} (h : HasQ w s b v c d bs nm I B t Z) (x : Bool) : HasQ (w.setCell ⟨s, 24, none⟩ (.bool x)) s b v c d bs nm I B x Z := h.put (h.1.put1 8 rfl rfl (.bool x)) h.good (fun _ _ => rfl)
end Go.Proofs.YtoijhhbiknhlnaaGreatDoor.L25
