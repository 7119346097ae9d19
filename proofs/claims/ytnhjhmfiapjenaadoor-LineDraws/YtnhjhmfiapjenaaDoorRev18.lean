/- Go's slices.Reverse over the beginning of an array of 32 numbers: its contract. -/
import Derived.Test.YtnhjhmfiapjenaaDoorPlain18
import Derived.Test.YtnhjhmfiapjenaaDoorGenA
namespace Go.Proofs.YtnhjhmfiapjenaaDoor
open Go.RowKit
set_option linter.unusedVariables false

/-- Block b holds an array of 32 numbers. -/
def Has32 (w : World) (b : Nat) (h : Nat → Int) : Prop := w.heap[b]? = some (.cells (valsOf (fun j => .int .i64 (h j)) 32).toArray 89 (0, 0))
theorem Has32.lt {w : World} {b : Nat} {h : Nat → Int} (k : Has32 w b h) : b < w.heap.size := lt_of_block k
theorem Has32.next {w : World} {b : Nat} {h : Nat → Int} (k : Has32 w b h) {w' : World} (n : Below w.heap.size w w') : Has32 w' b h := (n.block b (lt_of_block k)).trans k
theorem Has32.at {w : World} {b : Nat} {h : Nat → Int} (k : Has32 w b h) (j : Nat) (hj : j < 32) : w.cell? ⟨b, j, none⟩ = some (.int .i64 (h j)) := by rw [cell_of_row w b j _ _ _ k, List.getElem?_toArray, valsOf_at _ _ _ hj]
theorem Has32.frozen {w : World} {b : Nat} {h : Nat → Int} (k : Has32 w b h) (j : Nat) : w.frozen? ⟨b, j, none⟩ = false := frozen_of_row w b j _ _ k
theorem Has32.ext {w : World} {b : Nat} {h : Nat → Int} (k : Has32 w b h) {g : Nat → Int} (e : ∀ j, j < 32 → h j = g j) : Has32 w b g := by
  unfold Has32
  rw [valsOf_ext (h := fun j => Value.int .i64 (g j)) (k := fun j => Value.int .i64 (h j)) fun j hj => by rw [e j hj]]
  exact k
theorem Has32.set {w : World} {b : Nat} {h : Nat → Int} (k : Has32 w b h) (x : Nat) (v : Int) : Has32 (w.setCell ⟨b, x, none⟩ (.int .i64 v)) b (fun j => if j = x then v else h j) := by
  have e := heap_setCell_same w b x _ _ (.int .i64 v) k
  rw [List.setIfInBounds_toArray, valsOf_set] at e
  unfold Has32
  rw [e, valsOf_ext (h := fun j => if j = x then Value.int .i64 v else Value.int .i64 (h j)) (k := fun j => Value.int .i64 (if j = x then v else h j)) fun j hj => by split <;> rfl]
def turnH (h : Nat → Int) (L i x : Nat) : Int := if x < L ∧ (x < i ∨ L ≤ x + i) then h (L - 1 - x) else h x
theorem turnH_zero (h : Nat → Int) (L x : Nat) : turnH h L 0 x = h x := by unfold turnH; rw [if_neg (by omega)]
theorem turnH_next (h : Nat → Int) (L i x : Nat) (hi : 2 * i + 1 < L) : (if x = L - 1 - i then h i else if x = i then h (L - 1 - i) else turnH h L i x) = turnH h L (i + 1) x := by
  unfold turnH
  by_cases e : x = L - 1 - i
  · rw [if_pos e, if_pos (by omega), show L - 1 - x = i by omega]
  · rw [if_neg e]
    by_cases e2 : x = i
    · rw [if_pos e2, if_pos (by omega), e2]
    · rw [if_neg e2]
      by_cases k : x < L ∧ (x < i ∨ L ≤ x + i)
      · rw [if_pos k, if_pos (by omega)]
      · rw [if_neg k, if_neg (by omega)]
theorem turnH_all (h : Nat → Int) (L i x : Nat) (hi : L ≤ 2 * i + 1) : turnH h L i x = if x < L then h (L - 1 - x) else h x := by
  unfold turnH
  by_cases k : x < L
  · rw [if_pos k]
    by_cases k2 : x < L ∧ (x < i ∨ L ≤ x + i)
    · rw [if_pos k2]
    · rw [if_neg k2, show L - 1 - x = x by omega]
  · rw [if_neg k, if_neg (by omega)]
set_option maxHeartbeats 1000000 in
theorem reverse_is (b L : Nat) (h : Nat → Int) (w : World) (k : Has32 w b h) (hL : 1 ≤ L) (hL2 : L ≤ 32) :
    Calls Tryd.prog 55 #[.slice (some ⟨b, 0, none⟩) L 32] w fun e w' => e = .returned (.tuple #[]) ∧ Has32 w' b (fun x => if x < L then h (L - 1 - x) else h x) ∧ Only b w w' := by
  have K0 := hide (k.ext (g := turnH h L 0) fun j _ => (turnH_zero h L j).symm)
  clear k
  go_enter Tryd.func55, Tryd.ntmps55
  go_wp2_with fail
  go_loopw [2, 3] (fun si sj wr => ∃ i : Nat, 2 * i ≤ L ∧ si = .int .i64 (i : Int) ∧ sj = .int .i64 ((L : Int) - 1 - (i : Int)) ∧ Has32 wr b (turnH h L i) ∧ Only b w wr) (fun si _ _ => L - (intOf si).toNat)
  case atStart => exact ⟨0, by omega, rfl, by go_num, K0.out, Only.refl b w⟩
  case round =>
    obtain ⟨i, hi, rfl, rfl, hk, ho⟩ := hrel
    have KI := hide hk
    have OI := hide ho
    clear hk ho K0
    by_cases hlt : 2 * i + 1 < L
    · have ci := KI.out.at i (by omega)
      have cj := KI.out.at (L - 1 - i) (by omega)
      rw [show turnH h L i i = h i by unfold turnH; rw [if_neg (by omega)]] at ci
      rw [show turnH h L i (L - 1 - i) = h (L - 1 - i) by unfold turnH; rw [if_neg (by omega)]] at cj
      obtain ⟨j, hj⟩ : ∃ j : Nat, L - 1 - i = j := ⟨_, rfl⟩
      have ej : (L : Int) - 1 - (i : Int) = (j : Int) := by omega
      rw [hj] at cj
      have zi := KI.out.frozen i
      have zj := KI.out.frozen j
      have hij : i < j := by omega
      have hjl : j < L := by omega
      obtain ⟨x, hx⟩ : ∃ x, h i = x := ⟨_, rfl⟩
      obtain ⟨y, hy⟩ : ∃ y, h j = y := ⟨_, rfl⟩
      rw [hx] at ci
      rw [hy] at cj
      rw [ej]
      have HX := hide (show h i = x ∧ h j = y ∧ L - 1 - i = j from ⟨hx, hy, hj⟩)
      clear hx hy hj ej hlt
      go_wp2_with fail
      go_region
      all_goals (try go_wp2)
      have h3 := HX.out.2.2
      refine ⟨⟨i + 1, by omega, by go_num, by go_num, ?_, ((OI.out.set i _).set j _).trans ⟨rfl, rfl, rfl, Nat.le_refl _, fun _ _ _ => rfl⟩⟩, ?_⟩
      · refine Has32.ext (h := fun q => if q = j then x else if q = i then y else turnH h L i q) ((KI.out.set i y).set j x) fun q _ => ?_
        rw [← turnH_next h L i q (by omega), HX.out.2.2, HX.out.1, HX.out.2.1]
      · simp [intOf]; omega
    · obtain hge : L ≤ 2 * i + 1 := by omega
      go_wp2_with fail
      go_end0
      exact ⟨rfl, KI.out.ext fun x _ => turnH_all h L i x hge, OI.out⟩
end Go.Proofs.YtnhjhmfiapjenaaDoor
