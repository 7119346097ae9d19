/- Texts put together. -/
import Derived.Test.YtnoggfnidaifkaaGreatDoorConsoleNobodyJ25
import Derived.Test.YtnoggfnidaifkaaGreatDoorConsoleNobodyJ03
import Derived.Test.YtnoggfnidaifkaaGreatDoorConsoleNobodyJ01
import Derived.Handy
import Derived.Deep.RegionHeld3
import Derived.Test.YtnoggfnidaifkaaGreatDoorConsoleNobodyJ26
import Derived.Test.YtnoggfnidaifkaaGreatDoorConsoleNobodyJ19
namespace Go.Proofs.YtnoggfnidaifkaaGreatDoor
set_option maxRecDepth 20000
open Go.RowKit
set_option linter.unusedVariables false
def cntD : List Nat → (Nat → Bool) → Nat
  | [], _ => 0
  | p :: ps, d => (if d p = true then 1 else 0) + cntD ps d
theorem cntD_none : ∀ (ps : List Nat) (d : Nat → Bool), (∀ i, d i = false) → cntD ps d = 0
  | [], _, _ => rfl
  | p :: ps, d, h => by
    unfold cntD
    rw [h p, cntD_none ps d h]
    rfl
theorem cntD_keep : ∀ (ps : List Nat) (d : Nat → Bool) (i : Nat), ps.contains i = false → cntD ps (updD d i) = cntD ps d
  | [], _, _, _ => rfl
  | p :: ps, d, i, h => by
    simp only [List.contains_cons, Bool.or_eq_false_iff, beq_eq_false_iff_ne] at h
    unfold cntD
    rw [updD_other d (fun e => h.1 e.symm), cntD_keep ps d i h.2]
theorem stage_keep {A : Nat → World → Prop} {ps : List Nat} {d : Nat → Bool} {i : Nat} {w : World} (h : ps.contains i = false) (hs : A (cntD ps d) w) : A (cntD ps (updD d i)) w := by
  rw [cntD_keep ps d i h]
  exact hs
theorem stage_none {A : Nat → World → Prop} {ps : List Nat} {d : Nat → Bool} {w : World} (h : ∀ i, d i = false) (hs : A 0 w) : A (cntD ps d) w := by
  rw [cntD_none ps d h]
  exact hs
theorem stage_at {A : Nat → World → Prop} {ps : List Nat} {d : Nat → Bool} {n : Nat} {w : World} (h : cntD ps d = n) (hs : A (cntD ps d) w) : A n w := h ▸ hs
theorem stage_of {A : Nat → World → Prop} {ps : List Nat} {d : Nat → Bool} {n : Nat} {w : World} (h : cntD ps d = n) (hs : A n w) : A (cntD ps d) w := h ▸ hs
def stgs (l : List (World → Prop)) (n : Nat) (w : World) : Prop := (l.getD n (fun _ => True)) w
def Stab (A : World → Prop) : Prop := ∀ x y, A x → Below x.heap.size x y → A y
theorem stgs_next {l : List (World → Prop)} (h : ∀ A, A ∈ l → Stab A) {n : Nat} {x y : World} (k : stgs l n x) (b : Below x.heap.size x y) : stgs l n y := by
  unfold stgs at k ⊢
  rw [List.getD_eq_getElem?_getD] at k ⊢
  cases e : l[n]? with
  | none => trivial
  | some A =>
    rw [e] at k
    exact h A (List.mem_of_getElem? e) x y k b
theorem cntD_le : ∀ (ps : List Nat) (d : Nat → Bool), cntD ps d ≤ ps.length
  | [], _ => Nat.le_refl _
  | p :: ps, d => by
    have := cntD_le ps d
    unfold cntD
    rw [List.length_cons]
    split <;> omega
theorem stgs_case3 {A B C : World → Prop} {n : Nat} {x : World} {P : Prop} (h : stgs [A, B, C] n x) (hn : n ≤ 2) (a : A x → P) (b : B x → P) (c : C x → P) : P := by
  rcases n with _ | _ | _ | n
  · exact a h
  · exact b h
  · exact c h
  · omega
theorem stab2 {A B : World → Prop} (h : Stab A) (k : Stab B) : ∀ C, C ∈ [A, B] → Stab C := fun C hC => by
  simp at hC
  rcases hC with rfl | rfl <;> assumption
end Go.Proofs.YtnoggfnidaifkaaGreatDoor
namespace Go.Proofs.YtnoggfnidaifkaaGreatDoor.N8
set_option maxRecDepth 20000
open Go.RowKit
set_option linter.unusedVariables false
def zOf (b r : Int) : Int := 8192 + (b + r) % 256
def wOf (a b : Int) : Int := (a + b) % 65536
theorem wordOf_any (a b : Int) (w : World) : Calls Tryz.prog 109 #[.int .i64 a, .int .i64 b] w fun e w' => e = .returned (.int .i64 (wOf a b)) ∧ w' = w := by
  go_enter Tryz.func109, Tryz.ntmps109
  go_wp2_with (go_at_call 24; refine (word_any _ _).mono ?_; rintro e w' ⟨rfl, rfl⟩)
  go_ret
  exact ⟨rfl, rfl⟩
theorem inZero_any (o : Int) (w : World) : Calls Tryz.prog 108 #[.int .i64 o] w fun e w' =>
    e = .returned (.func (.func 155) #[] #[.pointer (some ⟨w.heap.size, 0, none⟩)]) ∧ w' = w.alloc (.cells #[.int .i64 o] 3) := by
  go_enter Tryz.func108, Tryz.ntmps108
  go_wp2
  go_ret
  exact ⟨rfl, rfl⟩
theorem zero_any (o r : Int) (b : Nat) (w : World) (h : w.cell? ⟨b, 0, none⟩ = some (.int .i64 o)) : Calls Tryz.prog 155 #[.int .i64 r, .pointer (some ⟨b, 0, none⟩)] w fun e w' =>
    e = .returned (.int .i64 (zOf o r)) ∧ w' = w := by
  go_enter Tryz.func155, Tryz.ntmps155
  go_wp2_with (go_at_call 60; refine (byte_any _ _).mono ?_; rintro e w' ⟨rfl, rfl⟩)
  go_ret
  exact ⟨rfl, rfl⟩
theorem after_not (o : Int) (w : World) : Calls Tryz.prog 62 #[.int .i64 o, .bool false] w fun e w' => e = .returned (.int .i64 (wOf o 1)) ∧ Below w.heap.size w w' := by
  go_enter Tryz.func62, Tryz.ntmps62
  go_wp2_with (first | (go_at_call 108; refine (inZero_any _ _).mono ?_; rintro e w' ⟨rfl, rfl⟩) | (go_at_call 155; refine (zero_any o _ _ _ (by simp)).mono ?_; rintro e w' ⟨rfl, rfl⟩) | (go_at_call 109; refine (wordOf_any _ _ _).mono ?_; rintro e w' ⟨rfl, rfl⟩))
  go_ret
  exact ⟨rfl, Below.refl _ _⟩
end Go.Proofs.YtnoggfnidaifkaaGreatDoor.N8
namespace Go.Proofs.YtnoggfnidaifkaaGreatDoor.K9
set_option maxRecDepth 20000
open Go.RowKit
set_option linter.unusedVariables false
def pathCells : Array Value := #[.int .i64 0, .int .i64 0, .int .i64 1, .int .i64 1, .int .i64 0, .int .i64 2, .int .i64 0, .int .i64 3, .int .i64 3, .int .i64 0]
def HasPaths (w : World) : Prop := ∃ t fr, w.heap[8]? = some (.cells pathCells t fr)
theorem lt_block {w : World} {g : Nat} {o : Obj} (h : w.heap[g]? = some o) : g < w.heap.size := by
  rcases Nat.lt_or_ge g w.heap.size with k | k
  · exact k
  · rw [Array.getElem?_eq_none k] at h; cases h
theorem HasPaths.pos {w : World} (h : HasPaths w) : 8 < w.heap.size := by
  obtain ⟨t, fr, e⟩ := h
  exact lt_block e
theorem HasPaths.next {w w' : World} (h : HasPaths w) (b : Below w.heap.size w w') : HasPaths w' := by
  have hp := h.pos
  obtain ⟨t, fr, e⟩ := h
  exact ⟨t, fr, (b.block 8 hp).trans e⟩
def pathAt (j : Nat) : Int := [(0 : Int), 0, 1, 1, 0, 2, 0, 3, 3, 0].getD j 0
theorem HasPaths.cell {w : World} (h : HasPaths w) (j : Nat) (hj : j < 10) : w.cell? ⟨8, j, none⟩ = some (.int .i64 (pathAt j)) := by
  obtain ⟨t, fr, e⟩ := h
  rcases j with _ | _ | _ | _ | _ | _ | _ | _ | _ | _ | j
  all_goals first | omega | (simp [World.cell?, e, pathCells, pathAt])
theorem bit_0 (i : Int) : bitOf i 0 = i % 2 := by
  rw [bitOf_in i 0 (by decide) (by decide)]
  show i % 65536 / 1 % 2 = i % 2
  omega
end Go.Proofs.YtnoggfnidaifkaaGreatDoor.K9
namespace Go.Proofs.YtnoggfnidaifkaaGreatDoor.L25
set_option maxRecDepth 20000
open B4 C3 G6 I11 J23 K9 L24 M5 N8 P22 R15 T10 V12 W13
open Go.RowKit
set_option linter.unusedVariables false
def infV (nm : ByteArray) (m l c : Int) : Nat → Value := fun j => if j = 0 then .string nm else if j = 1 then .int .i64 m else if j = 2 then .int .i64 l else .int .i64 c
def SP (b : Nat) (nm : ByteArray) (I B : Nat → Int) (t : Bool) (Z : Nat → Nat → Int) : List (Nat × (Nat → Value)) :=
  [(6, iv (Z 20)), (1, fun _ => .bool (isB (Z 21 0))), (1, fun _ => Value.int .i64 (Z 22 0)), (1, fun _ => .pointer (some ⟨b, 0, none⟩)), (1, fun _ => Value.int .i64 (Z 23 0)), (4, infV nm (I 0) (I 1) (I 2)), (6, iv B), (4, iv fun j => I (j + 3)), (1, fun _ => .bool t)]
def vidCells : Array Value := #[.int .i64 2088960, .int .i64 2088962, .int .i64 2088963]
def HasVid (w : World) : Prop := ∃ t fr, w.heap[4]? = some (.cells vidCells t fr)
def kindCells : Array Value := #[.string ⟨#[84, 73, 73]⟩, .string ⟨#[84, 68, 68]⟩, .string ⟨#[84, 73, 78]⟩, .string ⟨#[84, 73, 65]⟩, .string ⟨#[84, 65, 73]⟩]
def HasKinds (w : World) : Prop := ∃ t fr, w.heap[7]? = some (.cells kindCells t fr)
def CT (w : World) : Prop := HasVec w ∧ HasPaths w ∧ HasKinds w ∧ HasVid w
theorem obj_next {w w' : World} {g : Nat} {o : Obj} (h : w.heap[g]? = some o) (k : Below w.heap.size w w') : w'.heap[g]? = some o := (k.block g (lt_of_block h)).trans h
theorem CT.next {w w' : World} (h : CT w) (k : Below w.heap.size w w') : CT w' := by
  obtain ⟨⟨t0, f0, e0⟩, ⟨t1, f1, e1⟩, ⟨t2, f2, e2⟩, ⟨t3, f3, e3⟩⟩ := h
  exact ⟨⟨t0, f0, obj_next e0 k⟩, ⟨t1, f1, obj_next e1 k⟩, ⟨t2, f2, obj_next e2 k⟩, ⟨t3, f3, obj_next e3 k⟩⟩
theorem CT.only {E : Nat → Prop} {w w' : World} (h : CT w) (k : OnlyE E w w') (hE : ∀ b, E b → 10 ≤ b) : CT w' := by
  obtain ⟨⟨t0, f0, e0⟩, ⟨t1, f1, e1⟩, ⟨t2, f2, e2⟩, ⟨t3, f3, e3⟩⟩ := h
  exact ⟨⟨t0, f0, k.obj e0 fun e => absurd (hE _ e) (by decide)⟩, ⟨t1, f1, k.obj e1 fun e => absurd (hE _ e) (by decide)⟩, ⟨t2, f2, k.obj e2 fun e => absurd (hE _ e) (by decide)⟩, ⟨t3, f3, k.obj e3 fun e => absurd (hE _ e) (by decide)⟩⟩
def HasQ (w : World) (s b v c d : Nat) (bs : List Int) (nm : ByteArray) (I B : Nat → Int) (t : Bool) (Z : Nat → Nat → Int) : Prop :=
  HasF 112 w s 25 (segs (SP b nm I B t Z)) ∧ HasP w b v c d bs Z ∧ CT w ∧ (∀ k, GZ k (Z k)) ∧ (s ≠ b ∧ s ≠ v ∧ s ≠ c ∧ s ≠ d ∧ 10 ≤ s ∧ 10 ≤ b ∧ 10 ≤ v) ∧ known ((bs.length / 8192 : Nat) : Int) = true ∧ bs.length / 8192 ≠ 320
def EQ (s b v : Nat) : Nat → Prop := fun k => k = s ∨ k = b ∨ k = v
theorem HasQ.next {w : World} {s b v c d : Nat} {bs : List Int} {nm : ByteArray} {I B : Nat → Int} {t : Bool} {Z : Nat → Nat → Int} (h : HasQ w s b v c d bs nm I B t Z) {w' : World} (k : Below w.heap.size w w') : HasQ w' s b v c d bs nm I B t Z := ⟨h.1.next k, h.2.1.next k, h.2.2.1.next k, h.2.2.2⟩
theorem HasQ.good {w : World} {s b v c d : Nat} {bs : List Int} {nm : ByteArray} {I B : Nat → Int} {t : Bool} {Z : Nat → Nat → Int} (h : HasQ w s b v c d bs nm I B t Z) : ∀ k, GZ k (Z k) := h.2.2.2.1
theorem HasQ.high {w : World} {s b v c d : Nat} {bs : List Int} {nm : ByteArray} {I B : Nat → Int} {t : Bool} {Z : Nat → Nat → Int} (h : HasQ w s b v c d bs nm I B t Z) : 10 ≤ s := h.2.2.2.2.1.2.2.2.2.1
theorem HasQ.lt {w : World} {s b v c d : Nat} {bs : List Int} {nm : ByteArray} {I B : Nat → Int} {t : Bool} {Z : Nat → Nat → Int} (h : HasQ w s b v c d bs nm I B t Z) : s < w.heap.size := h.1.lt
theorem eq_ex {s b v : Nat} {w w' : World} (k : OnlyE (EX b v) w w') : OnlyE (EQ s b v) w w' := ⟨k.1, k.2.1, k.2.2.1, k.size, fun i hi hE => k.block i hi fun e => hE (.inr e)⟩
theorem eq_of {s b v : Nat} {w w' : World} (k : Below w.heap.size w w') : OnlyE (EQ s b v) w w' := OnlyE.of k
theorem eq_set {s b v : Nat} {w w' : World} (k : OnlyE (EQ s b v) w w') (o : Nat) (x : Value) : OnlyE (EQ s b v) w (w'.setCell ⟨s, o, none⟩ x) := k.set s o x (.inl rfl)
theorem HasQ.bus {w : World} {s b v c d : Nat} {bs : List Int} {nm : ByteArray} {I B : Nat → Int} {t : Bool} {Z : Nat → Nat → Int} (h : HasQ w s b v c d bs nm I B t Z) {w' : World} {Z' : Nat → Nat → Int} (p : HasP w' b v c d bs Z') (k : OnlyE (EX b v) w w') (g : ∀ k, GZ k (Z' k)) (e0 : Z' 20 = Z 20) (e1 : Z' 21 = Z 21) (e2 : Z' 22 = Z 22) (e3 : Z' 23 = Z 23) : HasQ w' s b v c d bs nm I B t Z' := by
  obtain ⟨q1, q2, q3, q4, ⟨n1, n2, n3, n4, n5, n6, n7⟩, q6, q7⟩ := h
  refine ⟨?_, p, q3.only k (fun i e => by rcases e with rfl | rfl <;> assumption), g, ⟨n1, n2, n3, n4, n5, n6, n7⟩, q6, q7⟩
  have e : SP b nm I B t Z' = SP b nm I B t Z := by unfold SP; rw [e0, e1, e2, e3]
  rw [e]
  exact k.obj q1 (fun e => by rcases e with e | e; exact n1 e; exact n2 e)
theorem HasQ.put {w : World} {s b v c d : Nat} {bs : List Int} {nm : ByteArray} {I B : Nat → Int} {t : Bool} {Z : Nat → Nat → Int} (h : HasQ w s b v c d bs nm I B t Z) {o : Nat} {x : Value} {nm' : ByteArray} {I' B' : Nat → Int} {t' : Bool} {Z' : Nat → Nat → Int} (p : HasF 112 (w.setCell ⟨s, o, none⟩ x) s 25 (segs (SP b nm' I' B' t' Z'))) (g : ∀ k, GZ k (Z' k)) (e : ∀ k, k < 20 → Z' k = Z k) : HasQ (w.setCell ⟨s, o, none⟩ x) s b v c d bs nm' I' B' t' Z' := by
  obtain ⟨q1, q2, q3, q4, ⟨n1, n2, n3, n4, n5, n6, n7⟩, q6, q7⟩ := h
  have k : OnlyE (fun i => i = s) w (w.setCell ⟨s, o, none⟩ x) := (OnlyE.of (Below.refl _ w)).set s o x rfl
  refine ⟨p, ?_, q3.only k (fun i e => e ▸ n5), g, ⟨n1, n2, n3, n4, n5, n6, n7⟩, q6, q7⟩
  have z : HasP (w.setCell ⟨s, o, none⟩ x) b v c d bs Z := by
    refine HasP.only q2 k (fun e => n1 e.symm) (fun e => n2 e.symm) (fun e => n3 e.symm) (fun e => n4 e.symm) (fun i e => ?_)
    subst e
    exact ⟨Nat.lt_of_lt_of_le (by decide) n5, Nat.lt_of_lt_of_le (by decide) n5, Nat.lt_of_lt_of_le (by decide) n5⟩
  have ez : XP v c Z' = XP v c Z := by
    unfold XP
    rw [e 0 (by decide), e 2 (by decide), e 3 (by decide), e 4 (by decide), e 5 (by decide), e 7 (by decide), e 8 (by decide), e 9 (by decide), e 10 (by decide), e 11 (by decide), e 12 (by decide), e 13 (by decide), e 14 (by decide), e 15 (by decide), e 16 (by decide), e 17 (by decide)]
  unfold L24.HasP at z ⊢
  rw [ez, e 18 (by decide), e 19 (by decide)]
  exact z
theorem up20 {Z : Nat → Nat → Int} {k : Nat} (g : Nat → Int) (hk : 20 ≤ k) : ∀ j, j < 20 → upZ Z k g j = Z j := fun j hj => up_out hk Z g j hj
theorem HasQ.buss {w : World} {s b v c d : Nat} {bs : List Int} {nm : ByteArray} {I B : Nat → Int} {t : Bool} {Z : Nat → Nat → Int} (h : HasQ w s b v c d bs nm I B t Z) : w.cell? ⟨s, 8, none⟩ = some (.pointer (some ⟨b, 0, none⟩)) := h.1.get1 3 rfl rfl (by decide)
theorem HasQ.cycs {w : World} {s b v c d : Nat} {bs : List Int} {nm : ByteArray} {I B : Nat → Int} {t : Bool} {Z : Nat → Nat → Int} (h : HasQ w s b v c d bs nm I B t Z) : w.cell? ⟨s, 9, none⟩ = some (.int .i64 (Z 23 0)) := h.1.get1 4 rfl rfl (by decide)
theorem HasQ.frz {w : World} {s b v c d : Nat} {bs : List Int} {nm : ByteArray} {I B : Nat → Int} {t : Bool} {Z : Nat → Nat → Int} (h : HasQ w s b v c d bs nm I B t Z) (k : Nat) : w.frozen? ⟨s, k, none⟩ = false := h.1.frozen k
theorem HasQ.putC {w : World} {s b v c d : Nat} {bs : List Int} {nm : ByteArray} {I B : Nat → Int} {t : Bool} {Z : Nat → Nat → Int} (h : HasQ w s b v c d bs nm I B t Z) (x : Int) : HasQ (w.setCell ⟨s, 9, none⟩ (.int .i64 x)) s b v c d bs nm I B t (upZ Z 23 (oneV x)) :=
  h.put (h.1.put1 4 rfl rfl (.int .i64 x)) (good_up h.good 23 _ trivial) (up20 _ (by decide))
end Go.Proofs.YtnoggfnidaifkaaGreatDoor.L25
