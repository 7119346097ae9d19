/- Package vram: the contract of Words at video memory that a call made. -/
import Derived.Test.YtnhjhmfiapjenaaDoorLaw13
import Derived.Laws.MakeOwn
import Derived.Laws.OwnMore
namespace Go.Proofs.YtnhjhmfiapjenaaDoor
open Go.RowKit
set_option linter.unusedVariables false

/-- Block g holds a row of numbers. -/
def HasRow (w : World) (g : Nat) (l : List Value) : Prop := w.heap[g]? = some (.cells l.toArray 3 (0, 0))
theorem HasRow.next {w w' : World} {g : Nat} {l : List Value} (h : HasRow w g l) (k : Below w.heap.size w w') : HasRow w' g l := (k.block g (lt_of_block h)).trans h
theorem HasRow.words {w : World} {g : Nat} {f : Nat → Int} (h : HasRow w g (wordsM f)) : ∀ j, j < 32768 → w.cell? ⟨g, 0 + j, none⟩ = some (.int .i64 (f j)) := by
  intro j hj
  rw [Nat.zero_add, cell_of_row w g j _ _ _ h, List.getElem?_toArray]
  exact wordsM_at f j hj
/-- make([]int, n). -/
def zerosL (N : Nat) : List Value := List.replicate N (.int .i64 0)
theorem make_ints (n : Int) (h0 : 0 ≤ n) (h1 : n ≤ 65536) (w : World) :
    (Instr.makeSlice 23 (.int .i64 n) (.int .i64 n)).run Tryd.prog w = .ok (.slice (some ⟨w.heap.size, 0, none⟩) n.toNat n.toNat) (w.alloc (.cells (zerosL n.toNat).toArray 3)) := by
  obtain ⟨N, rfl⟩ : ∃ N : Nat, n = (N : Int) := ⟨n.toNat, by omega⟩
  have hb : Tryd.t3.bytes = 8 := rfl
  rw [Go.run_make w 23 3 Tryd.t3 (.int .i64 0) Tryd.underlying23 (by kernel_rfl) rfl .i64 .i64 N N (by omega) (by omega) (by rw [hb]; omega) (by omega)]
  have e1 : madeCells (Value.cells (.int .i64 0)) (N * Tryd.t3.size) = (zerosL N).toArray := by
    rw [show Tryd.t3.size = 1 from rfl, Nat.mul_one]
    apply Array.toList_inj.1
    show (madeCells #[.int .i64 0] N).toList = _
    rw [toList_madeCells_one]
    rfl
  simp only [Int.toNat_natCast, e1]
theorem add_none (b o j : Nat) : Addr.add ⟨b, o, none⟩ j = ⟨b, o + j, none⟩ := by
  unfold Addr.add
  split <;> simp_all
theorem cut_from (b : Nat) (p : Int) (h0 : 0 ≤ p) (h1 : p < 32768) (w : World) : (Instr.sliceAt 92 (.pointer (some ⟨b, 1, none⟩)) (some (.int .i64 p)) none none).run Tryd.prog w = .ok (.slice (some ⟨b, 1 + p.toNat, none⟩) (32768 - p.toNat) (32768 - p.toNat)) w := by
  have hl : Tryd.prog.arrayLen 92 = 32768 := by kernel_rfl
  have he : Tryd.prog.elem 92 = 3 := by kernel_rfl
  rw [run_sliceAt_array_l w _ _ (by rw [hl, he]; exact Tryd.underlying92) .i64 p h0 (by rw [hl]; omega), hl, he, Tryd.sizeOf3]
  simp only [Result.andThen_ok, slicedAt, Nat.mul_one]
  rw [if_neg (by omega), add_none]
theorem cut_all (b : Nat) (w : World) : (Instr.sliceAt 92 (.pointer (some ⟨b, 1, none⟩)) none none none).run Tryd.prog w = .ok (.slice (some ⟨b, 1, none⟩) 32768 32768) w := by
  have hl : Tryd.prog.arrayLen 92 = 32768 := by kernel_rfl
  have he : Tryd.prog.elem 92 = 3 := by kernel_rfl
  rw [run_sliceAt_array_all w _ _ (by rw [hl, he]; exact Tryd.underlying92), hl, he, Tryd.sizeOf3]
  simp only [Result.andThen_ok, slicedAt, Nat.mul_one]
  rw [if_neg (by omega)]
  rfl
theorem cut_row (g N : Nat) (m : Int) (h0 : 0 ≤ m) (h1 : m < N) (w : World) : (Instr.sliceAt 23 (.slice (some ⟨g, 0, none⟩) N N) (some (.int .i64 m)) none none).run Tryd.prog w = .ok (.slice (some ⟨g, m.toNat, none⟩) (N - m.toNat) (N - m.toNat)) w := by
  have he : Tryd.prog.elem 23 = 3 := by kernel_rfl
  have hu : Tryd.prog.underlying 23 = some (.slice (Tryd.prog.elem 23)) := by rw [he]; exact Tryd.underlying23
  rw [run_sliceAt_slice w _ _ _ _ _ hu, run_slice_l w _ _ _ _ hu .i64 m h0 (by omega), he, Tryd.sizeOf3]
  simp only [Result.andThen_ok, sliced, Nat.mul_one]
  rw [if_neg (by omega)]
  simp only [Option.map_some, add_none, Nat.zero_add]
/-- So many words from a place on. -/
def partL (f : Nat → Int) (p L : Nat) : List Value := (List.range L).map fun j => Value.int .i64 (f (p + j))
theorem partL_length (f : Nat → Int) (p L : Nat) : (partL f p L).length = L := by simp [partL]
theorem partL_one (f : Nat → Int) (p L : Nat) : ∀ v ∈ partL f p L, v.oneCell' = true := by
  intro v hv
  obtain ⟨j, _, rfl⟩ := List.mem_map.1 hv
  rfl
theorem partL_at (f : Nat → Int) (p L j : Nat) (h : j < L) : (partL f p L)[j]? = some (.int .i64 (f (p + j))) := by simp [partL, h]
theorem HasM.part {w : World} {b : Nat} {m : Bool} {f : Nat → Int} {wr rd st lo bu : Int} (h : HasM w b m f wr rd st lo bu) (p L : Nat) (hL : p + L ≤ 32768) : ∀ j v, (partL f p L)[j]? = some v → w.cell? (Addr.add ⟨b, 1 + p, none⟩ j) = some v := by
  intro j v hv
  obtain ⟨hj, _⟩ := List.getElem?_eq_some_iff.1 hv
  rw [partL_length] at hj
  rw [partL_at f p L j hj] at hv
  rw [← hv, add_none, Nat.add_assoc]
  exact h.at (p + j) (by omega)
/-- The words that are told. -/
def toldL (f : Nat → Int) (p : Int) (N : Nat) : List Value := (List.range N).map fun (j : Nat) => Value.int .i64 (wordAt f (p + (j : Int)))
theorem toldL_length (f : Nat → Int) (p : Int) (N : Nat) : (toldL f p N).length = N := by simp [toldL]
theorem toldL_at (f : Nat → Int) (p : Int) (N j : Nat) (h : j < N) : (toldL f p N)[j]? = some (.int .i64 (wordAt f (p + j))) := by simp [toldL, h]
theorem splice_at {α : Type} (L : List α) (off : Nat) (cs : List α) (h : off + cs.length ≤ L.length) (j : Nat) : (splice L off cs)[j]? = if j < off then L[j]? else if j < off + cs.length then cs[j - off]? else L[j]? := by
  unfold splice
  have h1 : (L.take off).length = off := by rw [List.length_take]; omega
  by_cases k : j < off
  · rw [if_pos k, List.getElem?_append_left (by omega), List.getElem?_take_of_lt k]
  · rw [if_neg k, List.getElem?_append_right (by omega), h1]
    by_cases k2 : j < off + cs.length
    · rw [if_pos k2, List.getElem?_append_left (by omega)]
    · rw [if_neg k2, List.getElem?_append_right (by omega), List.getElem?_drop, show off + cs.length + (j - off - cs.length) = j by omega]
theorem zerosL_at (N j : Nat) (h : j < N) : (zerosL N)[j]? = some (.int .i64 0) := by simp [zerosL, h]
theorem zerosL_length (N : Nat) : (zerosL N).length = N := by simp [zerosL]
theorem ext_at {N : Nat} {a b : List Value} (ha : a.length = N) (hb : b.length = N) (h : ∀ j, j < N → a[j]? = b[j]?) : a = b := by
  apply List.ext_getElem?
  intro j
  by_cases k : j < N
  · exact h j k
  · rw [List.getElem?_eq_none (by omega), List.getElem?_eq_none (by omega)]
theorem wordAt_in (f : Nat → Int) (n : Int) (h0 : 0 ≤ n) (h1 : n < 32768) : wordAt f n = f n.toNat := by
  unfold wordAt
  rw [show n % 65536 = n by omega, if_pos h1]
theorem wordAt_out (f : Nat → Int) (n : Int) (h : ¬ n % 65536 < 32768) : wordAt f n = 0 := by
  unfold wordAt
  rw [if_neg h]
/-- What is told where the places don't end: words, and zeros behind them. -/
theorem told_a (f : Nat → Int) (p : Int) (N : Nat) (h0 : 0 ≤ p) (h1 : p < 32768) (hN : p + N ≤ 65536) : splice (zerosL N) 0 (partL f p.toNat (min N (32768 - p.toNat))) = toldL f p N := by
  have hl : 0 + (partL f p.toNat (min N (32768 - p.toNat))).length ≤ (zerosL N).length := by rw [partL_length, zerosL_length]; omega
  refine ext_at (N := N) (by rw [length_splice _ _ _ hl, zerosL_length]) (toldL_length _ _ _) fun j hj => ?_
  rw [splice_at _ _ _ hl, partL_length, toldL_at f p N j hj, if_neg (by omega)]
  by_cases k : j < 32768 - p.toNat
  · rw [if_pos (by omega), show j - 0 = j from rfl, partL_at _ _ _ _ (by omega), wordAt_in f _ (by omega) (by omega), show (p + (j : Int)).toNat = p.toNat + j by omega]
  · rw [if_neg (by omega), zerosL_at N j hj, wordAt_out f _ (by omega)]
theorem told_c (f : Nat → Int) (p : Int) (N : Nat) (h0 : 32768 ≤ p) (hN : p + N ≤ 65536) : zerosL N = toldL f p N := by
  refine ext_at (zerosL_length N) (toldL_length _ _ _) fun j hj => ?_
  rw [zerosL_at N j hj, toldL_at f p N j hj, wordAt_out f _ (by omega)]
/-- Behind the places' end it begins anew. -/
theorem told_b (f : Nat → Int) (p : Int) (N : Nat) (h0 : 0 ≤ p) (h1 : p < 32768) (hN : 65536 < p + N) (h2 : N ≤ 65536) : splice (splice (zerosL N) 0 (partL f p.toNat (min N (32768 - p.toNat)))) (65536 - p).toNat (partL f 0 (min (N - (65536 - p).toNat) 32768)) = toldL f p N := by
  have hl : 0 + (partL f p.toNat (min N (32768 - p.toNat))).length ≤ (zerosL N).length := by rw [partL_length, zerosL_length]; omega
  have hl2 : (65536 - p).toNat + (partL f 0 (min (N - (65536 - p).toNat) 32768)).length ≤ (splice (zerosL N) 0 (partL f p.toNat (min N (32768 - p.toNat)))).length := by rw [length_splice _ _ _ hl, partL_length, zerosL_length]; omega
  refine ext_at (N := N) (by rw [length_splice _ _ _ hl2, length_splice _ _ _ hl, zerosL_length]) (toldL_length _ _ _) fun j hj => ?_
  rw [splice_at _ _ _ hl2, partL_length, splice_at _ _ _ hl, partL_length, toldL_at f p N j hj]
  by_cases k : j < (65536 - p).toNat
  · rw [if_pos k, if_neg (by omega)]
    by_cases k : j < 32768 - p.toNat
    · rw [if_pos (by omega), show j - 0 = j from rfl, partL_at _ _ _ _ (by omega), wordAt_in f _ (by omega) (by omega), show (p + (j : Int)).toNat = p.toNat + j by omega]
    · rw [if_neg (by omega), zerosL_at N j hj, wordAt_out f _ (by omega)]
  · rw [if_neg k, if_pos (by omega), partL_at _ _ _ _ (by omega)]
    have e : wordAt f (p + j) = f (p + (j : Int) - 65536).toNat := by
      unfold wordAt
      rw [show (p + (j : Int)) % 65536 = p + (j : Int) - 65536 by omega, if_pos (by omega)]
    rw [e, show (p + (j : Int) - 65536).toNat = 0 + (j - (65536 - p).toNat) by omega]
theorem told_d (f : Nat → Int) (p : Int) (N : Nat) (h0 : 32768 ≤ p) (h1 : p < 65536) (hN : 65536 < p + N) (h2 : N ≤ 65536) : splice (zerosL N) (65536 - p).toNat (partL f 0 (min (N - (65536 - p).toNat) 32768)) = toldL f p N := by
  have hl2 : (65536 - p).toNat + (partL f 0 (min (N - (65536 - p).toNat) 32768)).length ≤ (zerosL N).length := by rw [partL_length, zerosL_length]; omega
  refine ext_at (N := N) (by rw [length_splice _ _ _ hl2, zerosL_length]) (toldL_length _ _ _) fun j hj => ?_
  rw [splice_at _ _ _ hl2, partL_length, toldL_at f p N j hj]
  by_cases k : j < (65536 - p).toNat
  · rw [if_pos k, zerosL_at N j hj, wordAt_out f _ (by omega)]
  · by_cases k2 : p + (j : Int) - 65536 < 32768
    · rw [if_neg k, if_pos (by omega), partL_at _ _ _ _ (by omega)]
      have e : wordAt f (p + j) = f (p + (j : Int) - 65536).toNat := by
        unfold wordAt
        rw [show (p + (j : Int)) % 65536 = p + (j : Int) - 65536 by omega, if_pos k2]
      rw [e, show (p + (j : Int) - 65536).toNat = 0 + (j - (65536 - p).toNat) by omega]
    · rw [if_neg k, if_neg (by omega), zerosL_at N j hj, wordAt_out f _ (by omega)]
theorem wordAt_same (f : Nat → Int) (n x : Int) : wordAt (pokeAt f n x) n = if n % 65536 < 32768 then x % 65536 else 0 := by
  unfold wordAt pokeAt
  by_cases h : n % 65536 < 32768
  · rw [if_pos h, if_pos h, if_pos h]
    simp [upd]
  · rw [if_neg h, if_neg h]
theorem wordAt_other (f : Nat → Int) (n k x : Int) (h : k % 65536 ≠ n % 65536) : wordAt (pokeAt f n x) k = wordAt f k := by
  unfold wordAt pokeAt
  by_cases hk : k % 65536 < 32768
  · rw [if_pos hk, if_pos hk]
    by_cases hn : n % 65536 < 32768
    · rw [if_pos hn]
      unfold upd
      rw [if_neg (by omega)]
    · rw [if_neg hn]
  · rw [if_neg hk, if_neg hk]
end Go.Proofs.YtnhjhmfiapjenaaDoor
