/- Package sprites: the contract of the closure by which Line lays pixels. -/
import Derived.Test.YtnhjhmfiapjenaaDoorSpr18
import Derived.Test.YtnhjhmfiapjenaaDoorOnlyE
import Derived.BigRegion
namespace Go.Proofs.YtnhjhmfiapjenaaDoor
open Go.RowKit
set_option linter.unusedVariables false

/-- The blocks of a picture that is made: its width, the picture, whether one is touched, the row of the first sprite's places; the three rows. -/
def Apart (bw bp bh bo c f o : Nat) : Prop := (bw ≠ c ∧ bw ≠ f ∧ bw ≠ o ∧ bw ≠ bh) ∧ (bp ≠ c ∧ bp ≠ f ∧ bp ≠ o ∧ bp ≠ bh) ∧ (bo ≠ c ∧ bo ≠ f ∧ bo ≠ o ∧ bo ≠ bh) ∧ (bh ≠ c ∧ bh ≠ f ∧ bh ≠ o) ∧ c ≠ f ∧ c ≠ o ∧ f ≠ o
def Pic (w : World) (bw bp bh bo c f o N : Nat) (S : Nat → Pos) : Prop :=
  w.heap[bw]? = some (.cells #[.int .i64 (N : Int)] 3 (0, 0)) ∧ w.heap[bp]? = some (.cells #[.slice (some ⟨c, 0, none⟩) N N, .slice (some ⟨f, 0, none⟩) N N] 58 (0, 0)) ∧ w.heap[bo]? = some (.cells #[.slice (some ⟨o, 0, none⟩) N N] 56 (0, 0)) ∧
  w.heap[bh]? = some (.cells #[.bool (anyHit N S)] 4 (0, 0)) ∧ w.heap[c]? = some (.cells (valsOf (fun j => .int .i64 (S j).1) N).toArray 3 (0, 0)) ∧ w.heap[f]? = some (.cells (valsOf (fun j => .bool (S j).2.1) N).toArray 4 (0, 0)) ∧ w.heap[o]? = some (.cells (valsOf (fun j => .bool (S j).2.2.1) N).toArray 4 (0, 0))
theorem Pic.next {w : World} {bw bp bh bo c f o N : Nat} {S : Nat → Pos} (h : Pic w bw bp bh bo c f o N S) {w' : World} (k : Below w.heap.size w w') : Pic w' bw bp bh bo c f o N S := by
  obtain ⟨h1, h2, h3, h4, h5, h6, h7⟩ := h
  exact ⟨(k.block _ (lt_of_block h1)).trans h1, (k.block _ (lt_of_block h2)).trans h2, (k.block _ (lt_of_block h3)).trans h3, (k.block _ (lt_of_block h4)).trans h4, (k.block _ (lt_of_block h5)).trans h5, (k.block _ (lt_of_block h6)).trans h6, (k.block _ (lt_of_block h7)).trans h7⟩
theorem Pic.ext {w : World} {bw bp bh bo c f o N : Nat} {S : Nat → Pos} (h : Pic w bw bp bh bo c f o N S) {R : Nat → Pos} (e : ∀ j, j < N → S j = R j) : Pic w bw bp bh bo c f o N R := by
  obtain ⟨h1, h2, h3, h4, h5, h6, h7⟩ := h
  refine ⟨h1, h2, h3, ?_, ?_, ?_, ?_⟩
  · rw [h4, anyHit_ext fun j hj => by rw [e j hj]]
  · rw [h5, valsOf_ext (h := fun j => Value.int .i64 (S j).1) (k := fun j => Value.int .i64 (R j).1) fun j hj => by rw [e j hj]]
  · rw [h6, valsOf_ext (h := fun j => Value.bool (S j).2.1) (k := fun j => Value.bool (R j).2.1) fun j hj => by rw [e j hj]]
  · rw [h7, valsOf_ext (h := fun j => Value.bool (S j).2.2.1) (k := fun j => Value.bool (R j).2.2.1) fun j hj => by rw [e j hj]]
theorem Pic.w0 {w : World} {bw bp bh bo c f o N : Nat} {S : Nat → Pos} (h : Pic w bw bp bh bo c f o N S) : w.cell? ⟨bw, 0, none⟩ = some (.int .i64 (N : Int)) := (cell_of_row w bw 0 _ _ _ h.1).trans rfl
theorem Pic.p0 {w : World} {bw bp bh bo c f o N : Nat} {S : Nat → Pos} (h : Pic w bw bp bh bo c f o N S) : w.cell? ⟨bp, 0, none⟩ = some (.slice (some ⟨c, 0, none⟩) N N) := (cell_of_row w bp 0 _ _ _ h.2.1).trans rfl
theorem Pic.p1 {w : World} {bw bp bh bo c f o N : Nat} {S : Nat → Pos} (h : Pic w bw bp bh bo c f o N S) : w.cell? ⟨bp, 1, none⟩ = some (.slice (some ⟨f, 0, none⟩) N N) := (cell_of_row w bp 1 _ _ _ h.2.1).trans rfl
theorem Pic.o0 {w : World} {bw bp bh bo c f o N : Nat} {S : Nat → Pos} (h : Pic w bw bp bh bo c f o N S) : w.cell? ⟨bo, 0, none⟩ = some (.slice (some ⟨o, 0, none⟩) N N) := (cell_of_row w bo 0 _ _ _ h.2.2.1).trans rfl
theorem Pic.h0 {w : World} {bw bp bh bo c f o N : Nat} {S : Nat → Pos} (h : Pic w bw bp bh bo c f o N S) : w.cell? ⟨bh, 0, none⟩ = some (.bool (anyHit N S)) := (cell_of_row w bh 0 _ _ _ h.2.2.2.1).trans rfl
theorem Pic.cj {w : World} {bw bp bh bo c f o N : Nat} {S : Nat → Pos} (h : Pic w bw bp bh bo c f o N S) (j : Nat) (hj : j < N) : w.cell? ⟨c, j, none⟩ = some (.int .i64 (S j).1) := by rw [cell_of_row w c j _ _ _ h.2.2.2.2.1, List.getElem?_toArray, valsOf_at _ _ _ hj]
theorem Pic.fj {w : World} {bw bp bh bo c f o N : Nat} {S : Nat → Pos} (h : Pic w bw bp bh bo c f o N S) (j : Nat) (hj : j < N) : w.cell? ⟨f, j, none⟩ = some (.bool (S j).2.1) := by rw [cell_of_row w f j _ _ _ h.2.2.2.2.2.1, List.getElem?_toArray, valsOf_at _ _ _ hj]
theorem Pic.oj {w : World} {bw bp bh bo c f o N : Nat} {S : Nat → Pos} (h : Pic w bw bp bh bo c f o N S) (j : Nat) (hj : j < N) : w.cell? ⟨o, j, none⟩ = some (.bool (S j).2.2.1) := by rw [cell_of_row w o j _ _ _ h.2.2.2.2.2.2, List.getElem?_toArray, valsOf_at _ _ _ hj]
theorem Pic.zh {w : World} {bw bp bh bo c f o N : Nat} {S : Nat → Pos} (h : Pic w bw bp bh bo c f o N S) : w.frozen? ⟨bh, 0, none⟩ = false := frozen_of_row w bh 0 _ _ h.2.2.2.1
theorem Pic.zc {w : World} {bw bp bh bo c f o N : Nat} {S : Nat → Pos} (h : Pic w bw bp bh bo c f o N S) (j : Nat) : w.frozen? ⟨c, j, none⟩ = false := frozen_of_row w c j _ _ h.2.2.2.2.1
theorem Pic.zf {w : World} {bw bp bh bo c f o N : Nat} {S : Nat → Pos} (h : Pic w bw bp bh bo c f o N S) (j : Nat) : w.frozen? ⟨f, j, none⟩ = false := frozen_of_row w f j _ _ h.2.2.2.2.2.1
theorem Pic.zo {w : World} {bw bp bh bo c f o N : Nat} {S : Nat → Pos} (h : Pic w bw bp bh bo c f o N S) (j : Nat) : w.frozen? ⟨o, j, none⟩ = false := frozen_of_row w o j _ _ h.2.2.2.2.2.2
theorem set_far {w : World} {b k x : Nat} {v : Value} {q : Obj} (h : w.heap[k]? = some q) (hk : k ≠ b) : (w.setCell ⟨b, x, none⟩ v).heap[k]? = some q := (Below.heap_setCell _ _ _ _ hk).trans h
theorem set_vals {w : World} {b x N : Nat} {t : TypeId} {u v : Nat → Value} {y : Value} (h : w.heap[b]? = some (.cells (valsOf u N).toArray t (0, 0))) (e : ∀ j, j < N → (if j = x then y else u j) = v j) : (w.setCell ⟨b, x, none⟩ y).heap[b]? = some (.cells (valsOf v N).toArray t (0, 0)) := by
  rw [heap_setCell_same w b x _ _ _ h, List.setIfInBounds_toArray, valsOf_set, valsOf_ext e]
/-- A pixel is laid. -/
theorem Pic.lay {w : World} {bw bp bh bo c f o N : Nat} {S : Nat → Pos} (h : Pic w bw bp bh bo c f o N S) (ap : Apart bw bp bh bo c f o) (n : Nat) (v : Int) (a b : Bool) (R : Nat → Pos) (e : ∀ j, j < N → R j = if j = n then (v, a, b, (S j).2.2.2) else S j) :
    Pic (((w.setCell ⟨c, n, none⟩ (.int .i64 v)).setCell ⟨f, n, none⟩ (.bool a)).setCell ⟨o, n, none⟩ (.bool b)) bw bp bh bo c f o N R := by
  obtain ⟨h1, h2, h3, h4, h5, h6, h7⟩ := h
  obtain ⟨⟨a1, a2, a3, a4⟩, ⟨b1, b2, b3, b4⟩, ⟨d1, d2, d3, d4⟩, ⟨e1, e2, e3⟩, g1, g2, g3⟩ := ap
  refine ⟨set_far (set_far (set_far h1 a1) a2) a3, set_far (set_far (set_far h2 b1) b2) b3, set_far (set_far (set_far h3 d1) d2) d3, ?_, set_far (set_far (set_vals h5 fun j hj => ?_) g1) g2, set_far (set_vals (set_far h6 g1.symm) fun j hj => ?_) g3, set_vals (set_far (set_far h7 g2.symm) g3.symm) fun j hj => ?_⟩
  · rw [set_far (set_far (set_far h4 e1) e2) e3, anyHit_ext (S := S) (R := R) fun j hj => by rw [e j hj]; split <;> rfl]
  · rw [e j hj]; split <;> rfl
  · rw [e j hj]; split <;> rfl
  · rw [e j hj]; split <;> rfl
/-- One is touched. -/
theorem Pic.hit {w : World} {bw bp bh bo c f o N : Nat} {S : Nat → Pos} (h : Pic w bw bp bh bo c f o N S) (ap : Apart bw bp bh bo c f o) (n : Nat) (hn : n < N) (R : Nat → Pos) (e : ∀ j, j < N → R j = if j = n then ((S j).1, (S j).2.1, (S j).2.2.1, true) else S j) : Pic (w.setCell ⟨bh, 0, none⟩ (.bool true)) bw bp bh bo c f o N R := by
  obtain ⟨h1, h2, h3, h4, h5, h6, h7⟩ := h
  obtain ⟨⟨a1, a2, a3, a4⟩, ⟨b1, b2, b3, b4⟩, ⟨d1, d2, d3, d4⟩, ⟨e1, e2, e3⟩, g1, g2, g3⟩ := ap
  refine ⟨set_far h1 a4, set_far h2 b4, set_far h3 d4, ?_, ?_, ?_, ?_⟩
  · rw [heap_setCell_same w bh 0 _ _ _ h4, anyHit_true (S := R) n hn (by rw [e n hn, if_pos rfl])]; rfl
  · rw [set_far h5 e1.symm, valsOf_ext (h := fun j => Value.int .i64 (S j).1) (k := fun j => Value.int .i64 (R j).1) fun j hj => by rw [e j hj]; split <;> rfl]
  · rw [set_far h6 e2.symm, valsOf_ext (h := fun j => Value.bool (S j).2.1) (k := fun j => Value.bool (R j).2.1) fun j hj => by rw [e j hj]; split <;> rfl]
  · rw [set_far h7 e3.symm, valsOf_ext (h := fun j => Value.bool (S j).2.2.1) (k := fun j => Value.bool (R j).2.2.1) fun j hj => by rw [e j hj]; split <;> rfl]
theorem lay_none (bw bp bh bo c f o N : Nat) (S : Nat → Pos) (k X Y C W H P x p : Int) (first fr fx fy : Bool) (w : World) (h : Pic w bw bp bh bo c f o N S) (hN : N ≤ 512) (ho : p = 0 ∨ x < 0 ∨ (N : Int) ≤ x) : Calls Tryd.prog 35 #[.int .i64 k, .agg #[.int .i64 X, .int .i64 Y, .int .i64 C, .int .i64 W, .int .i64 H, .int .i64 P, .bool fr, .bool fx, .bool fy], .int .i64 x, .int .i64 p, .pointer (some ⟨bw, 0, none⟩), .pointer (some ⟨bp, 0, none⟩), .pointer (some ⟨bo, 0, none⟩), .pointer (some ⟨bh, 0, none⟩)] w fun e w' => e = .returned (.tuple #[]) ∧ Pic w' bw bp bh bo c f o N S ∧ OnlyE (fun k => k = c ∨ k = f ∨ k = o ∨ k = bh) w w' := by
  have B0 := hide ((Below.refl _ w).alloc (Nat.le_refl _) (.cells #[.int .i64 X, .int .i64 Y, .int .i64 C, .int .i64 W, .int .i64 H, .int .i64 P, .bool fr, .bool fx, .bool fy] 86))
  have HH := hide h
  have w0 := h.w0
  have p0 := h.p0
  have lw : bw < w.heap.size := lt_of_block h.1
  have lp : bp < w.heap.size := lt_of_block h.2.1
  have lo : bo < w.heap.size := lt_of_block h.2.2.1
  have lh : bh < w.heap.size := lt_of_block h.2.2.2.1
  have lc : c < w.heap.size := lt_of_block h.2.2.2.2.1
  have lf : f < w.heap.size := lt_of_block h.2.2.2.2.2.1
  have lr : o < w.heap.size := lt_of_block h.2.2.2.2.2.2
  clear h
  by_cases hp : p = 0
  · clear ho
    go_enter Tryd.func35, Tryd.ntmps35
    go_wp2
    go_end0
    exact ⟨rfl, HH.out.next B0.out, OnlyE.of B0.out⟩
  · have hp2 : (p == 0) = false := by simpa using hp
    by_cases hx : x < 0
    · clear ho
      have hx2 : decide (x < 0) = true := decide_eq_true hx
      go_enter Tryd.func35, Tryd.ntmps35
      go_wp2
      go_end0
      exact ⟨rfl, HH.out.next B0.out, OnlyE.of B0.out⟩
    · have hx2 : decide (x < 0) = false := decide_eq_false hx
      have hx3 : decide ((N : Int) ≤ x) = true := decide_eq_true (by omega)
      clear ho
      go_enter Tryd.func35, Tryd.ntmps35
      go_wp2
      go_end0
      exact ⟨rfl, HH.out.next B0.out, OnlyE.of B0.out⟩
set_option maxHeartbeats 1000000 in
theorem lay_new (bw bp bh bo c f o N : Nat) (S : Nat → Pos) (k X Y C W H P p : Int) (n : Nat) (first fr fx fy : Bool) (w : World) (h : Pic w bw bp bh bo c f o N S) (ap : Apart bw bp bh bo c f o) (hN : N ≤ 512) (hn : n < N) (hp0 : 0 < p) (hp1 : p < 16) (hP0 : 0 ≤ P) (hP1 : P < 16) (hk : (k == 0) = first) (h0c : (S n).1 = 0) (R : Nat → Pos) (hR : Hid (∀ j, j < N → R j = if j = n then (P * 16 + p, fr, first, (S j).2.2.2) else S j)) : Calls Tryd.prog 35 #[.int .i64 k, .agg #[.int .i64 X, .int .i64 Y, .int .i64 C, .int .i64 W, .int .i64 H, .int .i64 P, .bool fr, .bool fx, .bool fy], .int .i64 (n : Int), .int .i64 p, .pointer (some ⟨bw, 0, none⟩), .pointer (some ⟨bp, 0, none⟩), .pointer (some ⟨bo, 0, none⟩), .pointer (some ⟨bh, 0, none⟩)] w fun e w' => e = .returned (.tuple #[]) ∧ Pic w' bw bp bh bo c f o N R ∧ OnlyE (fun k => k = c ∨ k = f ∨ k = o ∨ k = bh) w w' := by
  have B0 := hide ((Below.refl _ w).alloc (Nat.le_refl _) (.cells #[.int .i64 X, .int .i64 Y, .int .i64 C, .int .i64 W, .int .i64 H, .int .i64 P, .bool fr, .bool fx, .bool fy] 86))
  have HH := hide h
  have w0 := h.w0
  have p0 := h.p0
  have lw : bw < w.heap.size := lt_of_block h.1
  have lp : bp < w.heap.size := lt_of_block h.2.1
  have lo : bo < w.heap.size := lt_of_block h.2.2.1
  have lh : bh < w.heap.size := lt_of_block h.2.2.2.1
  have lc : c < w.heap.size := lt_of_block h.2.2.2.2.1
  have lf : f < w.heap.size := lt_of_block h.2.2.2.2.2.1
  have lr : o < w.heap.size := lt_of_block h.2.2.2.2.2.2
  have cj := h.cj n hn
  have fj := h.fj n hn
  have oj := h.oj n hn
  have p1 := h.p1
  have o0 := h.o0
  have h0 := h.h0
  have zh := h.zh
  have zc := h.zc n
  have zf := h.zf n
  have zo := h.zo n
  clear h
  have hp2 : (p == 0) = false := by simp; omega
  have hx2 : decide ((n : Int) < 0) = false := decide_eq_false (by omega)
  have hx3 : decide ((N : Int) ≤ (n : Int)) = false := decide_eq_false (by omega)
  rw [h0c] at cj
  have AP := hide ap
  have ⟨⟨a1, a2, a3, a4⟩, ⟨b1, b2, b3, b4⟩, ⟨d1, d2, d3, d4⟩, ⟨e1, e2, e3⟩, g1, g2, g3⟩ := ap
  clear ap h0 zh
  go_enter Tryd.func35, Tryd.ntmps35
  go_wp2_with fail
  go_region
  all_goals (try go_wp2)
  go_end0
  have K := HH.out.lay AP.out n (P * 16 + p) fr first R hR.out
  have O := (((OnlyE.of (E := fun k => k = c ∨ k = f ∨ k = o ∨ k = bh) (Below.refl _ w)).set c n (.int .i64 (P * 16 + p)) (.inl rfl)).set f n (.bool fr) (.inr (.inl rfl))).set o n (.bool first) (.inr (.inr (.inl rfl)))
  have B := ((Below.refl _ (((w.setCell ⟨c, n, none⟩ (.int .i64 (P * 16 + p))).setCell ⟨f, n, none⟩ (.bool fr)).setCell ⟨o, n, none⟩ (.bool first))).alloc (Nat.le_refl _) (.cells #[.int .i64 X, .int .i64 Y, .int .i64 C, .int .i64 W, .int .i64 H, .int .i64 P, .bool fr, .bool fx, .bool fy] 86)).drew
  exact ⟨rfl, K.next B, O.trans (OnlyE.of B)⟩
theorem lay_old (bw bp bh bo c f o N : Nat) (S : Nat → Pos) (k X Y C W H P p : Int) (n : Nat) (first fr fx fy : Bool) (w : World) (h : Pic w bw bp bh bo c f o N S) (ap : Apart bw bp bh bo c f o) (hN : N ≤ 512) (hn : n < N) (hp0 : 0 < p) (hp1 : p < 16) (hP0 : 0 ≤ P) (hP1 : P < 16) (hk : (k == 0) = first) (h0c : ¬ (S n).1 = 0) (h1 : (S n).2.2.1 = false) : Calls Tryd.prog 35 #[.int .i64 k, .agg #[.int .i64 X, .int .i64 Y, .int .i64 C, .int .i64 W, .int .i64 H, .int .i64 P, .bool fr, .bool fx, .bool fy], .int .i64 (n : Int), .int .i64 p, .pointer (some ⟨bw, 0, none⟩), .pointer (some ⟨bp, 0, none⟩), .pointer (some ⟨bo, 0, none⟩), .pointer (some ⟨bh, 0, none⟩)] w fun e w' => e = .returned (.tuple #[]) ∧ Pic w' bw bp bh bo c f o N S ∧ OnlyE (fun k => k = c ∨ k = f ∨ k = o ∨ k = bh) w w' := by
  have B0 := hide ((Below.refl _ w).alloc (Nat.le_refl _) (.cells #[.int .i64 X, .int .i64 Y, .int .i64 C, .int .i64 W, .int .i64 H, .int .i64 P, .bool fr, .bool fx, .bool fy] 86))
  have HH := hide h
  have w0 := h.w0
  have p0 := h.p0
  have lw : bw < w.heap.size := lt_of_block h.1
  have lp : bp < w.heap.size := lt_of_block h.2.1
  have lo : bo < w.heap.size := lt_of_block h.2.2.1
  have lh : bh < w.heap.size := lt_of_block h.2.2.2.1
  have lc : c < w.heap.size := lt_of_block h.2.2.2.2.1
  have lf : f < w.heap.size := lt_of_block h.2.2.2.2.2.1
  have lr : o < w.heap.size := lt_of_block h.2.2.2.2.2.2
  have cj := h.cj n hn
  have fj := h.fj n hn
  have oj := h.oj n hn
  have p1 := h.p1
  have o0 := h.o0
  have h0 := h.h0
  have zh := h.zh
  have zc := h.zc n
  have zf := h.zf n
  have zo := h.zo n
  clear h
  have hp2 : (p == 0) = false := by simp; omega
  have hx2 : decide ((n : Int) < 0) = false := decide_eq_false (by omega)
  have hx3 : decide ((N : Int) ≤ (n : Int)) = false := decide_eq_false (by omega)
  clear ap h0 zh zc zf zo fj
  generalize (S n).1 = v at *
  rw [h1] at oj
  go_enter Tryd.func35, Tryd.ntmps35
  go_wp2
  go_end0
  exact ⟨rfl, HH.out.next B0.out, OnlyE.of B0.out⟩
theorem lay_hit (bw bp bh bo c f o N : Nat) (S : Nat → Pos) (k X Y C W H P p : Int) (n : Nat) (first fr fx fy : Bool) (w : World) (h : Pic w bw bp bh bo c f o N S) (ap : Apart bw bp bh bo c f o) (hN : N ≤ 512) (hn : n < N) (hp0 : 0 < p) (hp1 : p < 16) (hP0 : 0 ≤ P) (hP1 : P < 16) (hk : (k == 0) = first) (h0c : ¬ (S n).1 = 0) (h1 : (S n).2.2.1 = true) (R : Nat → Pos) (hR : Hid (∀ j, j < N → R j = if j = n then ((S j).1, (S j).2.1, (S j).2.2.1, true) else S j)) : Calls Tryd.prog 35 #[.int .i64 k, .agg #[.int .i64 X, .int .i64 Y, .int .i64 C, .int .i64 W, .int .i64 H, .int .i64 P, .bool fr, .bool fx, .bool fy], .int .i64 (n : Int), .int .i64 p, .pointer (some ⟨bw, 0, none⟩), .pointer (some ⟨bp, 0, none⟩), .pointer (some ⟨bo, 0, none⟩), .pointer (some ⟨bh, 0, none⟩)] w fun e w' => e = .returned (.tuple #[]) ∧ Pic w' bw bp bh bo c f o N R ∧ OnlyE (fun k => k = c ∨ k = f ∨ k = o ∨ k = bh) w w' := by
  have B0 := hide ((Below.refl _ w).alloc (Nat.le_refl _) (.cells #[.int .i64 X, .int .i64 Y, .int .i64 C, .int .i64 W, .int .i64 H, .int .i64 P, .bool fr, .bool fx, .bool fy] 86))
  have HH := hide h
  have w0 := h.w0
  have p0 := h.p0
  have lw : bw < w.heap.size := lt_of_block h.1
  have lp : bp < w.heap.size := lt_of_block h.2.1
  have lo : bo < w.heap.size := lt_of_block h.2.2.1
  have lh : bh < w.heap.size := lt_of_block h.2.2.2.1
  have lc : c < w.heap.size := lt_of_block h.2.2.2.2.1
  have lf : f < w.heap.size := lt_of_block h.2.2.2.2.2.1
  have lr : o < w.heap.size := lt_of_block h.2.2.2.2.2.2
  have cj := h.cj n hn
  have fj := h.fj n hn
  have oj := h.oj n hn
  have p1 := h.p1
  have o0 := h.o0
  have h0 := h.h0
  have zh := h.zh
  have zc := h.zc n
  have zf := h.zf n
  have zo := h.zo n
  clear h
  have hp2 : (p == 0) = false := by simp; omega
  have hx2 : decide ((n : Int) < 0) = false := decide_eq_false (by omega)
  have hx3 : decide ((N : Int) ≤ (n : Int)) = false := decide_eq_false (by omega)
  have AP := hide ap
  clear ap zc zf zo fj
  generalize (S n).1 = v at *
  rw [h1] at oj
  go_enter Tryd.func35, Tryd.ntmps35
  go_wp2
  go_end0
  have K := HH.out.hit AP.out n hn R hR.out
  have O := (OnlyE.of (E := fun k => k = c ∨ k = f ∨ k = o ∨ k = bh) (Below.refl _ w)).set bh 0 (.bool true) (.inr (.inr (.inr rfl)))
  have B := (Below.refl _ (w.setCell ⟨bh, 0, none⟩ (.bool true))).alloc (Nat.le_refl _) (.cells #[.int .i64 X, .int .i64 Y, .int .i64 C, .int .i64 W, .int .i64 H, .int .i64 P, .bool fr, .bool fx, .bool fy] 86)
  exact ⟨rfl, K.next B, O.trans (OnlyE.of B)⟩
/-- A pixel of a sprite, wherever it is. -/
theorem lay_is (bw bp bh bo c f o N : Nat) (S : Nat → Pos) (k X Y C W H P x p : Int) (first fr fx fy : Bool) (w : World) (h : Pic w bw bp bh bo c f o N S) (ap : Apart bw bp bh bo c f o) (hN : N ≤ 512) (hp0 : 0 ≤ p) (hp1 : p < 16) (hP0 : 0 ≤ P) (hP1 : P < 16) (hk : (k == 0) = first) (R : Nat → Pos) (hR : ∀ j, j < N → R j = if (j : Int) = x then layP first P fr p (S j) else S j) : Calls Tryd.prog 35 #[.int .i64 k, .agg #[.int .i64 X, .int .i64 Y, .int .i64 C, .int .i64 W, .int .i64 H, .int .i64 P, .bool fr, .bool fx, .bool fy], .int .i64 x, .int .i64 p, .pointer (some ⟨bw, 0, none⟩), .pointer (some ⟨bp, 0, none⟩), .pointer (some ⟨bo, 0, none⟩), .pointer (some ⟨bh, 0, none⟩)] w fun e w' => e = .returned (.tuple #[]) ∧ Pic w' bw bp bh bo c f o N R ∧ OnlyE (fun k => k = c ∨ k = f ∨ k = o ∨ k = bh) w w' := by
  by_cases ho : p = 0 ∨ x < 0 ∨ (N : Int) ≤ x
  · refine (lay_none bw bp bh bo c f o N S k X Y C W H P x p first fr fx fy w h hN ho).mono fun e w' hh => ⟨hh.1, hh.2.1.ext fun j hj => ?_, hh.2.2⟩
    rw [hR j hj]
    split
    · rcases ho with rfl | k | k
      · unfold layP; rw [if_pos rfl]
      · omega
      · omega
    · rfl
  · obtain ⟨n, rfl⟩ : ∃ n : Nat, x = (n : Int) := ⟨x.toNat, by omega⟩
    have hn : n < N := by omega
    have hp : ¬ p = 0 := by omega
    by_cases h0 : (S n).1 = 0
    · refine lay_new bw bp bh bo c f o N S k X Y C W H P p n first fr fx fy w h ap hN hn (by omega) hp1 hP0 hP1 hk h0 R (hide fun j hj => ?_)
      rw [hR j hj]
      by_cases e : j = n
      · subst e
        rw [if_pos rfl, if_pos rfl]; unfold layP; rw [if_neg hp, if_pos h0]
      · rw [if_neg e, if_neg (by omega)]
    · cases h1 : (S n).2.2.1 with
      | true =>
        refine lay_hit bw bp bh bo c f o N S k X Y C W H P p n first fr fx fy w h ap hN hn (by omega) hp1 hP0 hP1 hk h0 h1 R (hide fun j hj => ?_)
        rw [hR j hj]
        by_cases e : j = n
        · subst e
          rw [if_pos rfl, if_pos rfl]; unfold layP; rw [if_neg hp, if_neg h0, if_pos h1]
        · rw [if_neg e, if_neg (by omega)]
      | false =>
        refine (lay_old bw bp bh bo c f o N S k X Y C W H P p n first fr fx fy w h ap hN hn (by omega) hp1 hP0 hP1 hk h0 h1).mono fun e w' hh => ⟨hh.1, hh.2.1.ext fun j hj => ?_, hh.2.2⟩
        rw [hR j hj]
        by_cases e : j = n
        · subst e
          rw [if_pos rfl]; unfold layP; rw [if_neg hp, if_neg h0, if_neg (by rw [h1]; decide)]
        · rw [if_neg (by omega)]
end Go.Proofs.YtnhjhmfiapjenaaDoor
