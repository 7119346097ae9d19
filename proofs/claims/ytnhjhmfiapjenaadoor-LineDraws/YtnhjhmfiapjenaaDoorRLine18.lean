/- The document's own line of sprites: its contract. -/
import Derived.Test.YtnhjhmfiapjenaaDoorRef18c
import Derived.Test.YtnhjhmfiapjenaaDoorRCol18
import Derived.Test.YtnhjhmfiapjenaaDoorPics18
namespace Go.Proofs.YtnhjhmfiapjenaaDoor
open Go.RowKit
set_option linter.unusedVariables false

/-- What the first sprite laid has a colour. -/
theorem layP_fst {v : Pos} (a : Bool) (P : Int) (fr : Bool) (p : Int) (hP : 0 ≤ P) (hp : 0 ≤ p) (h : v.2.2.1 = true → v.1 ≠ 0) : (layP a P fr p v).2.2.1 = true → (layP a P fr p v).1 ≠ 0 := by
  unfold layP
  by_cases e : p = 0
  · rw [if_pos e]; exact h
  · rw [if_neg e]
    by_cases e0 : v.1 = 0
    · rw [if_pos e0]
      intro _
      show P * 16 + p ≠ 0
      omega
    · rw [if_neg e0]
      by_cases a1 : v.2.2.1 = true
      · rw [if_pos a1]; intro _; exact e0
      · rw [if_neg a1]; exact h
theorem partS_fst {a : Bool} {P : Int} {fr : Bool} {F : Int → Int} {X : Int} {S : Nat → Pos} (hP : 0 ≤ P) (hF : ∀ i, 0 ≤ F i) (h : ∀ x, (S x).2.2.1 = true → (S x).1 ≠ 0) (i : Int) (x : Nat) : (partS a P fr F X S i x).2.2.1 = true → (partS a P fr F X S i x).1 ≠ 0 := by
  unfold partS
  by_cases e : X ≤ x ∧ (x : Int) < X + i
  · rw [if_pos e]; exact layP_fst a P fr _ hP (hF _) (h x)
  · rw [if_neg e]; exact h x
theorem runT_fst (g : Int → Int) (T : Nat → Int) (y : Int) : ∀ k x, ((runT g T y k).1 x).2.2.1 = true → ((runT g T y k).1 x).1 ≠ 0
  | 0, x => fun h => by cases h
  | k + 1, x => by
    have ih := runT_fst g T y k
    rcases runT_cases g T y k with e | ⟨_, e⟩
    · rw [e]; exact ih x
    · rw [e]; exact partS_fst (sprP_le _).1 (fun i => (pixS_le _ _ _ _ _ _ _ _).1) ih _ x
def Rows3 (w : World) (c f o N : Nat) (S : Nat → Pos) : Prop := Shown w c f N S ∧ w.heap[o]? = some (.cells (valsOf (fun j => .bool (S j).2.2.1) N).toArray 4 (0, 0))
theorem Rows3.next {w : World} {c f o N : Nat} {S : Nat → Pos} (h : Rows3 w c f o N S) {w' : World} (k : Below w.heap.size w w') : Rows3 w' c f o N S := ⟨h.1.next k, (k.block _ (lt_of_block h.2)).trans h.2⟩
theorem Rows3.oj {w : World} {c f o N : Nat} {S : Nat → Pos} (h : Rows3 w c f o N S) (j : Nat) (hj : j < N) : w.cell? ⟨o, j, none⟩ = some (.bool (S j).2.2.1) := by rw [cell_of_row w o j _ _ _ h.2, List.getElem?_toArray, valsOf_at _ _ _ hj]
theorem Rows3.zc {w : World} {c f o N : Nat} {S : Nat → Pos} (h : Rows3 w c f o N S) (j : Nat) : w.frozen? ⟨c, j, none⟩ = false := frozen_of_row w c j _ _ h.1.1
theorem Rows3.zf {w : World} {c f o N : Nat} {S : Nat → Pos} (h : Rows3 w c f o N S) (j : Nat) : w.frozen? ⟨f, j, none⟩ = false := frozen_of_row w f j _ _ h.1.2
theorem Rows3.zo {w : World} {c f o N : Nat} {S : Nat → Pos} (h : Rows3 w c f o N S) (j : Nat) : w.frozen? ⟨o, j, none⟩ = false := frozen_of_row w o j _ _ h.2
theorem Rows3.ext {w : World} {c f o N : Nat} {S : Nat → Pos} (h : Rows3 w c f o N S) {R : Nat → Pos} (e : ∀ j, j < N → R j = S j) : Rows3 w c f o N R := by
  obtain ⟨⟨h1, h2⟩, h3⟩ := h
  refine ⟨⟨?_, ?_⟩, ?_⟩
  · rw [h1, valsOf_ext (h := fun j => Value.int .i64 (S j).1) (k := fun j => Value.int .i64 (R j).1) fun j hj => by rw [e j hj]]
  · rw [h2, valsOf_ext (h := fun j => Value.bool (S j).2.1) (k := fun j => Value.bool (R j).2.1) fun j hj => by rw [e j hj]]
  · rw [h3, valsOf_ext (h := fun j => Value.bool (S j).2.2.1) (k := fun j => Value.bool (R j).2.2.1) fun j hj => by rw [e j hj]]
theorem Rows3.first {w : World} {c f o N : Nat} {S : Nat → Pos} (h : Rows3 w c f o N S) (hcf : c ≠ f) (hco : c ≠ o) (hfo : f ≠ o) (n : Nat) (v : Int) (a : Bool) (R : Nat → Pos) (e : ∀ j, j < N → R j = if j = n then (v, a, true, (S j).2.2.2) else S j) :
    Rows3 (((w.setCell ⟨o, n, none⟩ (.bool true)).setCell ⟨c, n, none⟩ (.int .i64 v)).setCell ⟨f, n, none⟩ (.bool a)) c f o N R := by
  obtain ⟨⟨h1, h2⟩, h3⟩ := h
  refine ⟨⟨set_far (set_vals (set_far h1 hco) fun j hj => ?_) hcf, set_vals (set_far (set_far h2 hfo) hcf.symm) fun j hj => ?_⟩, set_far (set_far (set_vals h3 fun j hj => ?_) hco.symm) hfo.symm⟩
  · rw [e j hj]; split <;> rfl
  · rw [e j hj]; split <;> rfl
  · rw [e j hj]; split <;> rfl
theorem Rows3.lay {w : World} {c f o N : Nat} {S : Nat → Pos} (h : Rows3 w c f o N S) (hcf : c ≠ f) (hco : c ≠ o) (hfo : f ≠ o) (n : Nat) (v : Int) (a : Bool) (R : Nat → Pos) (e : ∀ j, j < N → R j = if j = n then (v, a, (S j).2.2.1, (S j).2.2.2) else S j) :
    Rows3 ((w.setCell ⟨c, n, none⟩ (.int .i64 v)).setCell ⟨f, n, none⟩ (.bool a)) c f o N R := by
  obtain ⟨⟨h1, h2⟩, h3⟩ := h
  refine ⟨⟨set_far (set_vals h1 fun j hj => ?_) hcf, set_vals (set_far h2 hcf.symm) fun j hj => ?_⟩, ?_⟩
  · rw [e j hj]; split <;> rfl
  · rw [e j hj]; split <;> rfl
  · rw [set_far (set_far h3 hco.symm) hfo.symm, valsOf_ext (h := fun j => Value.bool (S j).2.2.1) (k := fun j => Value.bool (R j).2.2.1) fun j hj => by rw [e j hj]; split <;> rfl]
theorem Rows3.same {w : World} {c f o N : Nat} {S : Nat → Pos} (h : Rows3 w c f o N S) (n : Nat) (R : Nat → Pos) (e : ∀ j, j < N → R j = if j = n then ((S j).1, (S j).2.1, (S j).2.2.1, true) else S j) : Rows3 w c f o N R := by
  obtain ⟨⟨h1, h2⟩, h3⟩ := h
  refine ⟨⟨?_, ?_⟩, ?_⟩
  · rw [h1, valsOf_ext (h := fun j => Value.int .i64 (S j).1) (k := fun j => Value.int .i64 (R j).1) fun j hj => by rw [e j hj]; split <;> rfl]
  · rw [h2, valsOf_ext (h := fun j => Value.bool (S j).2.1) (k := fun j => Value.bool (R j).2.1) fun j hj => by rw [e j hj]; split <;> rfl]
  · rw [h3, valsOf_ext (h := fun j => Value.bool (S j).2.2.1) (k := fun j => Value.bool (R j).2.2.1) fun j hj => by rw [e j hj]; split <;> rfl]
theorem rline_no (mc md : Nat) (m : Nat → Int) (po rd st lo bu : Int) (w : World) (h : HasR w mc md m po rd st lo bu) (T : Nat → Int) (y n : Int) (hn : n < 1 ∨ 512 < n) : Calls Tryd.prog 25 #[.pointer (some ⟨mc, 0, none⟩), .agg (tabL T).toArray, .int .i64 y, .int .i64 n] w fun e w' => e = .returned (.tuple #[.slice none 0 0, .slice none 0 0, .bool false, .bool false]) ∧ Below w.heap.size w w' := by
  clear h
  have BA := hide ((Below.refl _ w).alloc (Nat.le_refl _) (.cells (tabL T).toArray 30))
  rcases hn with hn | hn
  · have hd : decide (n < 1) = true := decide_eq_true hn
    go_enter Tryd.func25, Tryd.ntmps25
    go_wp2_with fail
    go_returns
    exact ⟨rfl, BA.out⟩
  · have hd : decide (n < 1) = false := decide_eq_false (by omega)
    have he : decide (512 < n) = true := decide_eq_true hn
    go_enter Tryd.func25, Tryd.ntmps25
    go_wp2_with fail
    go_returns
    exact ⟨rfl, BA.out⟩
end Go.Proofs.YtnhjhmfiapjenaaDoor
