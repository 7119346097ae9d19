/- What the laws of layer 10 share: a timer of bounded numbers, and what it does ahead of Next and there. -/
import Derived.Test.YtcppphnnaojbhaaWrite10
import Derived.Test.YtcppphnnaojbhaaStructs
namespace Go.Proofs.Ytcppphnnaojbhaa
open Go.RowKit
set_option linter.unusedVariables false

/-- Block b holds a timer. -/
def HasT (w : World) (b : Nat) (r c : Int) (o : Bool) (p : Int) : Prop := w.heap[b]? = some (.cells #[.int .i64 r, .int .i64 c, .bool o, .int .i64 p] 23 (0, 0))
theorem HasT.next {w w' : World} {b : Nat} {r c : Int} {o : Bool} {p : Int} (h : HasT w b r c o p) (k : Below w.heap.size w w') : HasT w' b r c o p := (k.block b (lt_of_block h)).trans h
theorem HasT.alloc {w : World} {b : Nat} {r c : Int} {o : Bool} {p : Int} (h : HasT w b r c o p) (x : Obj) : HasT (w.alloc x) b r c o p := h.next ((Below.refl _ w).alloc (Nat.le_refl _) _)
theorem hasT_new (w : World) (r c : Int) (o : Bool) (p : Int) : HasT (w.alloc (.cells #[.int .i64 r, .int .i64 c, .bool o, .int .i64 p] 23)) w.heap.size r c o p := heap_alloc_new _ _
theorem HasT.lt {w : World} {b : Nat} {r c : Int} {o : Bool} {p : Int} (h : HasT w b r c o p) : b < w.heap.size := lt_of_block h
theorem HasT.c0 {w : World} {b : Nat} {r c : Int} {o : Bool} {p : Int} (h : HasT w b r c o p) : w.cell? ⟨b, 0, none⟩ = some (.int .i64 r) := (cell_of_row w b 0 _ _ _ h).trans rfl
theorem HasT.c1 {w : World} {b : Nat} {r c : Int} {o : Bool} {p : Int} (h : HasT w b r c o p) : w.cell? ⟨b, 1, none⟩ = some (.int .i64 c) := (cell_of_row w b 1 _ _ _ h).trans rfl
theorem HasT.c2 {w : World} {b : Nat} {r c : Int} {o : Bool} {p : Int} (h : HasT w b r c o p) : w.cell? ⟨b, 2, none⟩ = some (.bool o) := (cell_of_row w b 2 _ _ _ h).trans rfl
theorem HasT.c3 {w : World} {b : Nat} {r c : Int} {o : Bool} {p : Int} (h : HasT w b r c o p) : w.cell? ⟨b, 3, none⟩ = some (.int .i64 p) := (cell_of_row w b 3 _ _ _ h).trans rfl

theorem pre_of (d : Int) : ∃ y p, d.tmod 3072 = y ∧ (y + 3072) % 3072 = p ∧ -3072 < y ∧ y < 3072 ∧ 0 ≤ p ∧ p ≤ 3071 := by
  have h1 := Int.lt_tmod_of_pos d (b := 3072) (by decide)
  have h2 := Int.tmod_lt_of_pos d (b := 3072) (by decide)
  exact ⟨_, _, rfl, rfl, h1, h2, by omega, by omega⟩
theorem low_of (a : Int) : ∃ r, bits .and .i64 a 127 = r ∧ 0 ≤ r ∧ r ≤ 127 := ⟨_, rfl, by rw [and_127]; omega, by rw [and_127]; omega⟩
theorem okT_on {r c p : Int} (r0 : 0 ≤ r) (r1 : r ≤ 127) (c0 : 0 ≤ c) (c1 : c ≤ 127) (p0 : 0 ≤ p) (p1 : p ≤ 3071) : okT r c true p = true := decide_eq_true ⟨r0, r1, c0, c1, p0, p1⟩
theorem next_on {r c p : Int} (r0 : 0 ≤ r) (r1 : r ≤ 127) (c0 : 0 ≤ c) (c1 : c ≤ 127) (p0 : 0 ≤ p) (p1 : p ≤ 3071) : nextOf r c true p = (c + 1) * 3072 - p := by
  unfold nextOf
  rw [okT_on r0 r1 c0 c1 p0 p1]
  rfl
/-- Any number of ticks from none on. -/
theorem adv_all {r c p t : Int} (r0 : 0 ≤ r) (r1 : r ≤ 127) (c0 : 0 ≤ c) (c1 : c ≤ 127) (p0 : 0 ≤ p) (p1 : p ≤ 3071) (t0 : 0 ≤ t) (t1 : t ≤ 1099511627776) (w : World) :
    Calls Try.prog 8 #[.agg #[.int .i64 r, .int .i64 c, .bool true, .int .i64 p], .int .i64 t] w fun e w' =>
      e = .returned (.tuple #[.agg #[.int .i64 r, .int .i64 (cntOf r c ((t + p) / 3072)), .bool true, .int .i64 ((t + p) % 3072)], .int .i64 (rndOf r c ((t + p) / 3072))]) ∧ Below w.heap.size w w' := by
  by_cases h : t = 0
  · subst h
    have e1 : (0 + p) / 3072 = 0 := by omega
    have e2 : (0 + p) % 3072 = p := by omega
    have e3 := is_eq r0 c0 (is_zero r c c0)
    rw [e1, e2, e3.1, e3.2]
    exact adv_still r c true p 0 (.inr (.inl (by decide))) w
  · exact adv_on r c p t (okT_on r0 r1 c0 c1 p0 p1) (by omega) t1 w
/-- Ahead of Next, and there. -/
theorem adv_ahead {r c p : Int} (r0 : 0 ≤ r) (r1 : r ≤ 127) (c0 : 0 ≤ c) (c1 : c ≤ 127) (p0 : 0 ≤ p) (p1 : p ≤ 3071) :
    ∃ x u, ∀ w, Calls Try.prog 8 #[.agg #[.int .i64 r, .int .i64 c, .bool true, .int .i64 p], .int .i64 ((c + 1) * 3072 - p - 1)] w fun e w' =>
      e = .returned (.tuple #[.agg #[.int .i64 r, .int .i64 x, .bool true, .int .i64 u], .int .i64 0]) ∧ Below w.heap.size w w' := by
  have e : rndOf r c (((c + 1) * 3072 - p - 1 + p) / 3072) = 0 := rnd_low r0 (by omega)
  refine ⟨cntOf r c (((c + 1) * 3072 - p - 1 + p) / 3072), ((c + 1) * 3072 - p - 1 + p) % 3072, fun w => ?_⟩
  have h := adv_all (t := (c + 1) * 3072 - p - 1) r0 r1 c0 c1 p0 p1 (by omega) (by omega) w
  rw [e] at h
  exact h
theorem adv_there {r c p : Int} (r0 : 0 ≤ r) (r1 : r ≤ 127) (c0 : 0 ≤ c) (c1 : c ≤ 127) (p0 : 0 ≤ p) (p1 : p ≤ 3071) (w : World) :
    Calls Try.prog 8 #[.agg #[.int .i64 r, .int .i64 c, .bool true, .int .i64 p], .int .i64 ((c + 1) * 3072 - p)] w fun e w' =>
      e = .returned (.tuple #[.agg #[.int .i64 r, .int .i64 r, .bool true, .int .i64 0], .int .i64 1]) ∧ Below w.heap.size w w' := by
  have h := adv_all (t := (c + 1) * 3072 - p) r0 r1 c0 c1 p0 p1 (by omega) (by omega) w
  have e1 : ((c + 1) * 3072 - p + p) / 3072 = c + 1 := by omega
  have e2 : ((c + 1) * 3072 - p + p) % 3072 = 0 := by omega
  have e3 : Is r c (c + 1) 1 r := ⟨by decide, r0, by omega, .inr (Int.le_refl _)⟩
  have e4 := is_eq r0 c0 e3
  rw [e1, e2, e4.1, e4.2] at h
  exact h
end Go.Proofs.Ytcppphnnaojbhaa
