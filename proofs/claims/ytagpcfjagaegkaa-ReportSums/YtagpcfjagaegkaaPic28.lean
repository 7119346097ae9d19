/- The two pictures: the same bytes, the same sum. -/
import Derived.Test.YtagpcfjagaegkaaNum28
import Derived.Test.YtagpcfjagaegkaaSum27
namespace Go.Proofs.Ytagpcfjagaegkaa
open Go.RowKit
set_option linter.unusedVariables false
/-- A slice of integers whose numbers are V. -/
def NumsAt (w : World) (a : Option Addr) (len : Nat) (V : Nat → Int) : Prop :=
  len = 0 ∨ ∃ b o, a = some ⟨b, o, none⟩ ∧ b < w.heap.size ∧ ∀ j, j < len → w.cell? ⟨b, o + j, none⟩ = some (.int .i64 (V j)) ∧ (Lit.int .i64 (V j)).wf = true
/-- A slice of such slices. -/
def LinesAt (w : World) (a : Option Addr) (len cap : Nat) (L : Nat → Option Addr × Nat × Nat) (V : Nat → Nat → Int) : Prop :=
  len ≤ 140737488355328 ∧ (len = 0 ∨ ∃ b o, a = some ⟨b, o, none⟩ ∧ b < w.heap.size ∧ ∀ i, i < len → w.cell? ⟨b, o + i, none⟩ = some (.slice (L i).1 (L i).2.1 (L i).2.2) ∧ (L i).2.1 ≤ 140737488355328 ∧ NumsAt w (L i).1 (L i).2.1 (V i))
/-- A slice of pairs. -/
def SidesAt (w : World) (a : Option Addr) (len cap : Nat) (S : Nat → Nat → Int) : Prop :=
  len ≤ 140737488355328 ∧ (len = 0 ∨ ∃ b o, a = some ⟨b, o, none⟩ ∧ b < w.heap.size ∧ ∀ i, i < len → ∀ j, j < 2 → w.cell? ⟨b, o + (i * 2 + j), none⟩ = some (.int .i64 (S i j)) ∧ (Lit.int .i64 (S i j)).wf = true)
theorem NumsAt.next {w w' : World} {a : Option Addr} {len : Nat} {V : Nat → Int} (h : NumsAt w a len V) (k : Below w.heap.size w w') : NumsAt w' a len V := by
  rcases h with h | ⟨b, o, e, hb, hc⟩
  · exact .inl h
  · exact .inr ⟨b, o, e, Nat.lt_of_lt_of_le hb k.size, fun j hj => ⟨(k.cell hb).trans (hc j hj).1, (hc j hj).2⟩⟩
theorem LinesAt.next {w w' : World} {a : Option Addr} {len cap : Nat} {L : Nat → Option Addr × Nat × Nat} {V : Nat → Nat → Int} (h : LinesAt w a len cap L V) (k : Below w.heap.size w w') : LinesAt w' a len cap L V := by
  obtain ⟨hm, h | ⟨b, o, e, hb, hc⟩⟩ := h
  · exact ⟨hm, .inl h⟩
  · exact ⟨hm, .inr ⟨b, o, e, Nat.lt_of_lt_of_le hb k.size, fun i hi => ⟨(k.cell hb).trans (hc i hi).1, (hc i hi).2.1, (hc i hi).2.2.next k⟩⟩⟩
theorem SidesAt.next {w w' : World} {a : Option Addr} {len cap : Nat} {S : Nat → Nat → Int} (h : SidesAt w a len cap S) (k : Below w.heap.size w w') : SidesAt w' a len cap S := by
  obtain ⟨hm, h | ⟨b, o, e, hb, hc⟩⟩ := h
  · exact ⟨hm, .inl h⟩
  · exact ⟨hm, .inr ⟨b, o, e, Nat.lt_of_lt_of_le hb k.size, fun i hi j hj => ⟨(k.cell hb).trans (hc i hi j hj).1, (hc i hi j hj).2⟩⟩⟩
/-- The bytes of some numbers, so many each. -/
def rowB (m : Nat) (f : Nat → Int) : Nat → List Int
  | 0 => []
  | k + 1 => rowB m f k ++ numBytes (f k) m
theorem numBytes_length (z : Int) (m : Nat) : (numBytes z m).length = m := by simp [numBytes]
theorem rowB_length (m : Nat) (f : Nat → Int) : ∀ k, (rowB m f k).length = k * m
  | 0 => by simp [rowB]
  | k + 1 => by rw [rowB, List.length_append, rowB_length m f k, numBytes_length, Nat.succ_mul]
/-- How many numbers the first lines have; their bytes; then the bytes of the first samples. -/
def tot (L : Nat → Option Addr × Nat × Nat) : Nat → Nat
  | 0 => 0
  | i + 1 => tot L i + (L i).2.1
theorem tot_le (L : Nat → Option Addr × Nat × Nat) {i n : Nat} (h : i < n) : tot L i + (L i).2.1 ≤ tot L n := by
  induction n with
  | zero => omega
  | succ n ih =>
    rcases Nat.lt_succ_iff_lt_or_eq.1 h with h | rfl
    · have := ih h
      show _ ≤ tot L n + (L n).2.1
      omega
    · exact Nat.le_refl _
def linB (L : Nat → Option Addr × Nat × Nat) (V : Nat → Nat → Int) : Nat → List Int
  | 0 => []
  | i + 1 => linB L V i ++ rowB 2 (V i) (L i).2.1
theorem linB_length (L : Nat → Option Addr × Nat × Nat) (V : Nat → Nat → Int) : ∀ i, (linB L V i).length = 2 * tot L i
  | 0 => by simp [linB, tot]
  | i + 1 => by rw [linB, List.length_append, linB_length L V i, rowB_length, tot]; omega
def sidB (S : Nat → Nat → Int) : Nat → List Int
  | 0 => []
  | i + 1 => sidB S i ++ rowB 4 (S i) 2
theorem sidB_length (S : Nat → Nat → Int) : ∀ i, (sidB S i).length = 8 * i
  | 0 => by simp [sidB]
  | i + 1 => by rw [sidB, List.length_append, sidB_length S i, rowB_length]; omega
theorem byteAt_range (z : Int) (k : Nat) : 0 ≤ byteAt z k ∧ byteAt z k ≤ 255 := by unfold byteAt; omega
theorem rowB_range (m : Nat) (f : Nat → Int) : ∀ k, ∀ z ∈ rowB m f k, 0 ≤ z ∧ z ≤ 255
  | 0, z, h => by simp [rowB] at h
  | k + 1, z, h => by
    rw [rowB, List.mem_append] at h
    rcases h with h | h
    · exact rowB_range m f k z h
    · simp only [numBytes, List.mem_map] at h
      obtain ⟨j, _, rfl⟩ := h
      exact byteAt_range _ _
theorem linB_range (L : Nat → Option Addr × Nat × Nat) (V : Nat → Nat → Int) : ∀ i, ∀ z ∈ linB L V i, 0 ≤ z ∧ z ≤ 255
  | 0, z, h => by simp [linB] at h
  | i + 1, z, h => by
    rw [linB, List.mem_append] at h
    exact h.elim (linB_range L V i z) (rowB_range _ _ _ z)
theorem sidB_range (S : Nat → Nat → Int) : ∀ i, ∀ z ∈ sidB S i, 0 ≤ z ∧ z ≤ 255
  | 0, z, h => by simp [sidB] at h
  | i + 1, z, h => by
    rw [sidB, List.mem_append] at h
    exact h.elim (sidB_range S i z) (rowB_range _ _ _ z)
/-- A row of one's own is a slice whose bytes are these. -/
theorem owns_bytes {w : World} {B n : Nat} {v : Value} {zs : List Int} (h : w.ownsRow B 5 1 v n (zs.map (Value.int .u8))) (hr : ∀ z ∈ zs, 0 ≤ z ∧ z ≤ 255) (hn : n ≤ 1000000) : ∃ a cap, v = .slice a n cap ∧ zs.length = n ∧ RowU w a n (fun i => zs.getD i 0) := by
  obtain ⟨hl, ⟨rfl, rfl⟩ | ⟨g, cap, cur, rfl, hBg, hg, h1, h2, h3, h4⟩⟩ := h
  · exact ⟨none, 0, rfl, by simpa using hl, by omega, .inl rfl⟩
  · have hl' : zs.length = n := by simpa using hl
    refine ⟨_, cap, rfl, hl', hn, ?_⟩
    rcases Nat.eq_zero_or_pos n with h0 | h0
    · exact .inl h0
    · refine .inr ⟨g, 0, h0, rfl, fun i hi => ?_⟩
      have hi' : i < zs.length := by omega
      have e : zs.getD i 0 = zs[i] := by simp [List.getD, hi']
      have hm := hr _ (List.getElem_mem hi')
      refine ⟨?_, by simp only [e]; exact hm.1, by simp only [e]; exact hm.2⟩
      rw [Nat.zero_add, cell_of_row w g i _ _ _ hg, ← Array.getElem?_toList]
      have e4 : (cur.toList.take (n * 1))[i]? = (zs.map (Value.int .u8))[i]? := by rw [h4]
      rw [List.getElem?_take, if_pos (by omega)] at e4
      rw [e4]
      show _ = some (Value.int .u8 (zs.getD i 0))
      rw [e]
      simp [hi']
def picOf (L : Nat → Option Addr × Nat × Nat) (V : Nat → Nat → Int) (l0 : Nat) (S : Nat → Nat → Int) (l1 : Nat) : Int :=
  sumOf (fun i => (linB L V l0 ++ sidB S l1).getD i 0) (2 * tot L l0 + 8 * l1)
theorem own_next {w : World} {B n m : Nat} {v : Value} {xs ys : List Int} (h : w.ownsRow B 5 1 v (n + m) (xs.map (Value.int .u8) ++ ys.map (Value.int .u8))) : w.ownsRow B 5 1 v (n + m) ((xs ++ ys).map (Value.int .u8)) := by
  rw [List.map_append]
  exact h
end Go.Proofs.Ytagpcfjagaegkaa
