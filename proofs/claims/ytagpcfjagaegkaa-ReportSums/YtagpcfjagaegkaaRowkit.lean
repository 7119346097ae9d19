/- Rows of bytes: slices that came in (IsRow), and blocks of bytes that a call made (Bytes). No word of the program is in it. -/
import Derived.Test.YtagpcfjagaegkaaKit
import Derived.Laws.Rows
import Derived.Laws.CopyOwn
import Derived.Laws.MakeOwn
import Derived.Laws.OwnMore
import Derived.DataReads
import Derived.ChangeSlices
namespace Go.Proofs.Ytagpcfjagaegkaa
open Go.RowKit

/-- A slice of integers: nil, or a row whose cells (the spare ones too) hold zs. -/
def IsRow (k : IntKind) (w : World) (a : Option Addr) (len cap : Nat) (zs : List Int) : Prop :=
  (a = none ∧ len = 0 ∧ cap = 0 ∧ zs = []) ∨ ∃ x, a = some x ∧ len ≤ cap ∧ cap ≤ maxLen ∧ zs.length = cap ∧ (∀ i, i < zs.length → w.cell? (x.add i) = some (.int k (zs.getD i 0))) ∧ ∀ n ∈ zs, (Lit.int k n).wf = true

theorem cell_lt {w : World} {a : Addr} {v : Value} (h : w.cell? a = some v) : a.block < w.heap.size := by
  rcases Nat.lt_or_ge a.block w.heap.size with k | k
  · exact k
  · simp [World.cell?, Array.getElem?_eq_none k] at h

theorem IsRow.cut {k : IntKind} {w : World} {a : Option Addr} {len cap n : Nat} {zs : List Int} (h : IsRow k w a len cap zs) (hn : n ≤ len) : IsRow k w a n cap zs := by
  rcases h with ⟨rfl, rfl, rfl, rfl⟩ | ⟨x, rfl, h1, h2, h3, h4, h5⟩
  · exact .inl ⟨rfl, by omega, rfl, rfl⟩
  · exact .inr ⟨x, rfl, by omega, h2, h3, h4, h5⟩

/-- The cells of a row with an element, in a later world. -/
theorem IsRow.cells {k : IntKind} {w : World} {a : Option Addr} {len cap : Nat} {zs : List Int} (h : IsRow k w a len cap zs) (hl : 0 < len) :
    ∃ b off, a = some ⟨b, off, none⟩ ∧ b < w.heap.size ∧ len ≤ cap ∧ cap ≤ maxLen ∧ ∀ i, i < len → w.cell? ⟨b, off + i, none⟩ = some (.int k (zs.getD i 0)) ∧ (Lit.int k (zs.getD i 0)).wf = true := by
  rcases h with ⟨rfl, rfl, rfl, rfl⟩ | ⟨x, rfl, h1, h2, h3, h4, h5⟩
  · omega
  · have c0 := h4 0 (by omega)
    have e0 : x.add 0 = x := rfl
    rw [e0] at c0
    have hs := World.cell?_spot c0
    obtain ⟨b, off, sp⟩ := x
    simp only at hs
    subst hs
    refine ⟨b, off, rfl, cell_lt c0, h1, h2, fun i hi => ⟨?_, ?_⟩⟩
    · have := h4 i (by omega)
      rw [← this]
      congr 1
      unfold Addr.add
      split <;> simp_all
    · have hi' : i < zs.length := by omega
      refine h5 _ ?_
      rw [List.getD_eq_getElem?_getD, List.getElem?_eq_getElem hi']
      exact List.getElem_mem hi'

theorem IsRow.next {k : IntKind} {w w' : World} {a : Option Addr} {len cap : Nat} {zs : List Int} (h : IsRow k w a len cap zs) (b : Below w.heap.size w w') : IsRow k w' a len cap zs := by
  rcases h with h | ⟨x, rfl, h1, h2, h3, h4, h5⟩
  · exact .inl h
  · exact .inr ⟨x, rfl, h1, h2, h3, fun i hi => (b.cell (cell_lt (h4 i hi))).trans (h4 i hi), h5⟩

theorem u8_range {z : Int} (h : (Lit.int .u8 z).wf = true) : 0 ≤ z ∧ z < 256 := by
  simp [Lit.wf] at h
  have : (IntKind.u8.min : Int) = 0 := by decide
  have : (IntKind.u8.max : Int) = 255 := by decide
  omega

/-- A block of n bytes. -/
def Bytes (T : TypeId) (w : World) (g : Nat) (bs : List Int) : Prop := w.heap[g]? = some (.cells (bs.map (Value.int .u8)).toArray T (0, 0)) ∧ ∀ z ∈ bs, 0 ≤ z ∧ z < 256

theorem Bytes.lt {T : TypeId} {w : World} {g : Nat} {bs : List Int} (h : Bytes T w g bs) : g < w.heap.size := by
  rcases Nat.lt_or_ge g w.heap.size with k | k
  · exact k
  · have := h.1
    rw [Array.getElem?_eq_none k] at this
    cases this
theorem Bytes.below {T : TypeId} {B : Nat} {w w' : World} {g : Nat} {bs : List Int} (h : Bytes T w g bs) (b : Below B w w') (hB : g < B) : Bytes T w' g bs := ⟨(b.block g hB).trans h.1, h.2⟩
theorem Bytes.next {T : TypeId} {w w' : World} {g : Nat} {bs : List Int} (h : Bytes T w g bs) (b : Below w.heap.size w w') : Bytes T w' g bs := h.below b h.lt
theorem Bytes.cell {T : TypeId} {w : World} {g : Nat} {bs : List Int} (h : Bytes T w g bs) (i : Nat) (hi : i < bs.length) :
    w.cell? ⟨g, i, none⟩ = some (.int .u8 (bs.getD i 0)) ∧ 0 ≤ bs.getD i 0 ∧ bs.getD i 0 < 256 := by
  rw [cell_of_row w g i _ T (0, 0) h.1, List.getD_eq_getElem?_getD, List.getElem?_eq_getElem hi]
  refine ⟨by simp [hi], ?_⟩
  exact h.2 _ (List.getElem_mem hi)
theorem Bytes.free {T : TypeId} {w : World} {g : Nat} {bs : List Int} (h : Bytes T w g bs) (i : Nat) : w.frozen? ⟨g, i, none⟩ = false := by
  simp [World.frozen?, h.1]
theorem Bytes.put {T : TypeId} {w : World} {g : Nat} {bs : List Int} (h : Bytes T w g bs) (i : Nat) (v : Int) (hv : 0 ≤ v ∧ v < 256) :
    Bytes T (w.setCell ⟨g, i, none⟩ (.int .u8 v)) g (bs.set i v) := by
  refine ⟨?_, ?_⟩
  · rw [heap_setCell_same w g i _ T _ h.1]
    simp
  · intro z hz
    rcases List.mem_or_eq_of_mem_set hz with hz | rfl
    · exact h.2 z hz
    · exact hv
theorem Bytes.other {T : TypeId} {w : World} {g : Nat} {bs : List Int} (h : Bytes T w g bs) (a : Addr) (ha : g ≠ a.block) (v : Value) : Bytes T (w.setCell a v) g bs :=
  ⟨(heap_setCell_other w a g v ha).trans h.1, h.2⟩
theorem Bytes.drew {T : TypeId} {w : World} {g : Nat} {bs : List Int} (h : Bytes T w g bs) : Bytes T w.drew g bs := h
/-- make([]byte, n). -/
theorem make_bytes {P : Program} {t e : TypeId} {i : TypeInfo} (ht : P.underlying t = some (.slice e)) (hi : P.info? e = some i) (hz : i.zero = some (.int .u8 0)) (hs : i.size = 1) (hb : i.bytes = 1)
    (n : Nat) (hn : n ≤ 281474976710656) (w : World) :
    (Instr.makeSlice t (.int .i64 (n : Int)) (.int .i64 (n : Int))).run P w = .ok (.slice (some ⟨w.heap.size, 0, none⟩) n n) (w.alloc (.cells ((List.replicate n (0 : Int)).map (Value.int .u8)).toArray e)) := by
  rw [Go.run_make w t e i (.int .u8 0) ht hi hz .i64 .i64 n n (by omega) (by omega) (by rw [hb]; omega) (by omega)]
  have e1 : madeCells (Value.cells (.int .u8 0)) (n * i.size) = ((List.replicate n (0 : Int)).map (Value.int .u8)).toArray := by
    rw [hs, Nat.mul_one]
    apply Array.toList_inj.1
    show (madeCells #[.int .u8 0] n).toList = _
    rw [toList_madeCells_one]
    simp
  simp only [Int.toNat_natCast, e1]
theorem Bytes.made {T : TypeId} {w : World} {n : Nat} : Bytes T (w.alloc (.cells ((List.replicate n (0 : Int)).map (Value.int .u8)).toArray T)) w.heap.size (List.replicate n 0) :=
  ⟨heap_alloc_new w _, fun z hz => by rw [List.eq_of_mem_replicate hz]; omega⟩
end Go.Proofs.Ytagpcfjagaegkaa
