/- The document's own video memory: its contracts. -/
import Derived.Test.YtnhjhmfiapjenaaDoorWords13
import Derived.Deep.RegionWith
namespace Go.Proofs.YtnhjhmfiapjenaaDoor
open Go.RowKit
set_option linter.unusedVariables false

def rowR (d : Nat) (wr rd st lo bu : Int) : Array Value := #[.slice (some ⟨d, 0, none⟩) 32768 32768, .int .i64 wr, .int .i64 rd, .int .i64 st, .int .i64 lo, .int .i64 bu]
/-- Block c holds the document's struct, block d its words. -/
def HasR (w : World) (c d : Nat) (f : Nat → Int) (wr rd st lo bu : Int) : Prop := w.heap[c]? = some (.cells (rowR d wr rd st lo bu) 96 (0, 0)) ∧ HasRow w d (wordsM f) ∧ c ≠ d
/-- All blocks that there were are as they were, but for two. -/
def Only2 (c d : Nat) (w w' : World) : Prop := w'.os = w.os ∧ w'.tape = w.tape ∧ w'.output = w.output ∧ w.heap.size ≤ w'.heap.size ∧ ∀ k, k < w.heap.size → k ≠ c → k ≠ d → w'.heap[k]? = w.heap[k]?
theorem Only2.of {c d : Nat} {w w' : World} (h : Below w.heap.size w w') : Only2 c d w w' := ⟨h.os, h.tape, h.output, h.size, fun k hk _ _ => h.block k hk⟩
theorem Only2.refl (c d : Nat) (w : World) : Only2 c d w w := Only2.of (Below.refl _ _)
theorem Only2.size {c d : Nat} {w w' : World} (h : Only2 c d w w') : w.heap.size ≤ w'.heap.size := h.2.2.2.1
theorem Only2.block {c d : Nat} {w w' : World} (h : Only2 c d w w') (k : Nat) (hk : k < w.heap.size) (hc : k ≠ c) (hd : k ≠ d) : w'.heap[k]? = w.heap[k]? := h.2.2.2.2 k hk hc hd
theorem Only2.trans {c d : Nat} {w1 w2 w3 : World} (h : Only2 c d w1 w2) (k : Only2 c d w2 w3) : Only2 c d w1 w3 :=
  ⟨k.1.trans h.1, k.2.1.trans h.2.1, k.2.2.1.trans h.2.2.1, Nat.le_trans h.size k.size, fun i hi hc hd => (k.block i (Nat.lt_of_lt_of_le hi h.size) hc hd).trans (h.block i hi hc hd)⟩
theorem Only2.setc {c d : Nat} {w w' : World} (h : Only2 c d w w') (o : Nat) (v : Value) : Only2 c d w (w'.setCell ⟨c, o, none⟩ v) :=
  h.trans ⟨rfl, rfl, rfl, by simp [World.setCell], fun k _ hk _ => Below.heap_setCell _ _ _ _ hk⟩
theorem Only2.setd {c d : Nat} {w w' : World} (h : Only2 c d w w') (o : Nat) (v : Value) : Only2 c d w (w'.setCell ⟨d, o, none⟩ v) :=
  h.trans ⟨rfl, rfl, rfl, by simp [World.setCell], fun k _ _ hk => Below.heap_setCell _ _ _ _ hk⟩
theorem Only2.below {c d B : Nat} {w w' : World} (h : Only2 c d w w') (hc : B ≤ c) (hd : B ≤ d) (hB : B ≤ w.heap.size) : Below B w w' :=
  ⟨h.1, h.2.1, h.2.2.1, h.size, fun k hk => h.block k (by omega) (by omega) (by omega)⟩
theorem Only2.obj {c d k : Nat} {w w' : World} {o : Obj} (h : Only2 c d w w') (hk : w.heap[k]? = some o) (hc : k ≠ c) (hd : k ≠ d) : w'.heap[k]? = some o := (h.block k (lt_of_block hk) hc hd).trans hk
theorem bonly2 {B c d : Nat} {w a e : World} (h : Below B w a) (k : Only2 c d a e) (hc : B ≤ c) (hd : B ≤ d) (hB : B ≤ w.heap.size) : Below B w e := h.trans (k.below hc hd (Nat.le_trans hB h.size))
theorem HasR.c0 {w : World} {c d : Nat} {f : Nat → Int} {wr rd st lo bu : Int} (h : HasR w c d f wr rd st lo bu) : w.cell? ⟨c, 0, none⟩ = some (.slice (some ⟨d, 0, none⟩) 32768 32768) := (cell_of_row w c 0 _ _ _ h.1).trans rfl
theorem HasR.c1 {w : World} {c d : Nat} {f : Nat → Int} {wr rd st lo bu : Int} (h : HasR w c d f wr rd st lo bu) : w.cell? ⟨c, 1, none⟩ = some (.int .i64 wr) := (cell_of_row w c 1 _ _ _ h.1).trans rfl
theorem HasR.c2 {w : World} {c d : Nat} {f : Nat → Int} {wr rd st lo bu : Int} (h : HasR w c d f wr rd st lo bu) : w.cell? ⟨c, 2, none⟩ = some (.int .i64 rd) := (cell_of_row w c 2 _ _ _ h.1).trans rfl
theorem HasR.c3 {w : World} {c d : Nat} {f : Nat → Int} {wr rd st lo bu : Int} (h : HasR w c d f wr rd st lo bu) : w.cell? ⟨c, 3, none⟩ = some (.int .i64 st) := (cell_of_row w c 3 _ _ _ h.1).trans rfl
theorem HasR.c4 {w : World} {c d : Nat} {f : Nat → Int} {wr rd st lo bu : Int} (h : HasR w c d f wr rd st lo bu) : w.cell? ⟨c, 4, none⟩ = some (.int .i64 lo) := (cell_of_row w c 4 _ _ _ h.1).trans rfl
theorem HasR.c5 {w : World} {c d : Nat} {f : Nat → Int} {wr rd st lo bu : Int} (h : HasR w c d f wr rd st lo bu) : w.cell? ⟨c, 5, none⟩ = some (.int .i64 bu) := (cell_of_row w c 5 _ _ _ h.1).trans rfl
theorem HasR.at {w : World} {c d : Nat} {f : Nat → Int} {wr rd st lo bu : Int} (h : HasR w c d f wr rd st lo bu) (j : Nat) (hj : j < 32768) : w.cell? ⟨d, j, none⟩ = some (.int .i64 (f j)) := by
  have k := h.2.1.words j hj
  rw [Nat.zero_add] at k
  exact k
theorem HasR.frozen {w : World} {c d : Nat} {f : Nat → Int} {wr rd st lo bu : Int} (h : HasR w c d f wr rd st lo bu) (j : Nat) : w.frozen? ⟨c, j, none⟩ = false := frozen_of_row w c j _ _ h.1
theorem HasR.frozend {w : World} {c d : Nat} {f : Nat → Int} {wr rd st lo bu : Int} (h : HasR w c d f wr rd st lo bu) (j : Nat) : w.frozen? ⟨d, j, none⟩ = false := frozen_of_row w d j _ _ h.2.1
theorem HasR.lt {w : World} {c d : Nat} {f : Nat → Int} {wr rd st lo bu : Int} (h : HasR w c d f wr rd st lo bu) : c < w.heap.size := lt_of_block h.1
theorem HasR.next {w : World} {c d : Nat} {f : Nat → Int} {wr rd st lo bu : Int} (h : HasR w c d f wr rd st lo bu) {w' : World} (k : Below w.heap.size w w') : HasR w' c d f wr rd st lo bu := ⟨(k.block c (lt_of_block h.1)).trans h.1, h.2.1.next k, h.2.2⟩
theorem HasR.only {w : World} {c d : Nat} {f : Nat → Int} {wr rd st lo bu : Int} (h : HasR w c d f wr rd st lo bu) {w' : World} {b : Nat} (k : Only b w w') (hc : c ≠ b) (hd : d ≠ b) : HasR w' c d f wr rd st lo bu := ⟨k.obj h.1 hc, k.obj h.2.1 hd, h.2.2⟩
theorem HasR.set1 {w : World} {c d : Nat} {f : Nat → Int} {wr rd st lo bu : Int} (h : HasR w c d f wr rd st lo bu) (x : Int) : HasR (w.setCell ⟨c, 1, none⟩ (.int .i64 x)) c d f x rd st lo bu := ⟨heap_setCell_same w c 1 _ _ _ h.1, (Below.heap_setCell _ _ _ _ (fun e => h.2.2 e.symm)).trans h.2.1, h.2.2⟩
theorem HasR.set2 {w : World} {c d : Nat} {f : Nat → Int} {wr rd st lo bu : Int} (h : HasR w c d f wr rd st lo bu) (x : Int) : HasR (w.setCell ⟨c, 2, none⟩ (.int .i64 x)) c d f wr x st lo bu := ⟨heap_setCell_same w c 2 _ _ _ h.1, (Below.heap_setCell _ _ _ _ (fun e => h.2.2 e.symm)).trans h.2.1, h.2.2⟩
theorem HasR.set3 {w : World} {c d : Nat} {f : Nat → Int} {wr rd st lo bu : Int} (h : HasR w c d f wr rd st lo bu) (x : Int) : HasR (w.setCell ⟨c, 3, none⟩ (.int .i64 x)) c d f wr rd x lo bu := ⟨heap_setCell_same w c 3 _ _ _ h.1, (Below.heap_setCell _ _ _ _ (fun e => h.2.2 e.symm)).trans h.2.1, h.2.2⟩
theorem HasR.set4 {w : World} {c d : Nat} {f : Nat → Int} {wr rd st lo bu : Int} (h : HasR w c d f wr rd st lo bu) (x : Int) : HasR (w.setCell ⟨c, 4, none⟩ (.int .i64 x)) c d f wr rd st x bu := ⟨heap_setCell_same w c 4 _ _ _ h.1, (Below.heap_setCell _ _ _ _ (fun e => h.2.2 e.symm)).trans h.2.1, h.2.2⟩
theorem HasR.set5 {w : World} {c d : Nat} {f : Nat → Int} {wr rd st lo bu : Int} (h : HasR w c d f wr rd st lo bu) (x : Int) : HasR (w.setCell ⟨c, 5, none⟩ (.int .i64 x)) c d f wr rd st lo x := ⟨heap_setCell_same w c 5 _ _ _ h.1, (Below.heap_setCell _ _ _ _ (fun e => h.2.2 e.symm)).trans h.2.1, h.2.2⟩
theorem HasRow.set {w : World} {g : Nat} {f : Nat → Int} (h : HasRow w g (wordsM f)) (i : Nat) (x : Int) : HasRow (w.setCell ⟨g, i, none⟩ (.int .i64 x)) g (wordsM (upd f i x)) := by
  have k := heap_setCell_same w g i _ _ (.int .i64 x) h
  rw [List.setIfInBounds_toArray, wordsM_set] at k
  exact k
theorem HasR.set {w : World} {c d : Nat} {f : Nat → Int} {wr rd st lo bu : Int} (h : HasR w c d f wr rd st lo bu) (i : Nat) (x : Int) : HasR (w.setCell ⟨d, i, none⟩ (.int .i64 x)) c d (upd f i x) wr rd st lo bu := ⟨(Below.heap_setCell _ _ _ _ h.2.2).trans h.1, h.2.1.set i x, h.2.2⟩
theorem zeros_words : zerosL 32768 = wordsM (fun _ => 0) := by
  unfold zerosL wordsM
  rw [List.map_const', List.length_range]
theorem rnew_any (w : World) : Calls Tryd.prog 17 #[] w fun e w' => e = .returned (.pointer (some ⟨w.heap.size + 1, 0, none⟩)) ∧ HasR w' (w.heap.size + 1) w.heap.size (fun _ => 0) 0 0 1 0 0 ∧ Below w.heap.size w w' := by
  have hm := make_ints 32768 (by omega) (by omega)
  rw [show (32768 : Int).toNat = 32768 from rfl] at hm
  obtain ⟨Z, hZ⟩ : ∃ Z, zerosL 32768 = Z := ⟨_, rfl⟩
  rw [hZ] at hm
  have HZ := hide hZ
  clear hZ
  go_enter Tryd.func17, Tryd.ntmps17
  go_wp2
  go_ret
  refine ⟨rfl, ⟨heap_alloc2_new _ _ _, ?_, by omega⟩, ((Below.refl _ w).alloc (Nat.le_refl _) _).alloc (by simp) _⟩
  rw [← zeros_words, HZ.out]
  exact (Below.heap_alloc _ _ _ (by simp)).trans (heap_alloc_new _ _)
theorem rword_is (c d : Nat) (f : Nat → Int) (wr rd st lo bu : Int) (w : World) (h : HasR w c d f wr rd st lo bu) (n x : Int) (hx : wordAt f n = x) : Calls Tryd.prog 46 #[.pointer (some ⟨c, 0, none⟩), .int .i64 n] w fun e w' => e = .returned (.int .i64 x) ∧ w' = w := by
  have c0 := h.c0
  obtain ⟨p, hp⟩ : ∃ p, n % 65536 = p := ⟨_, rfl⟩
  have h0 : 0 ≤ p := by omega
  by_cases hlt : p < 32768
  · have e : x = f p.toNat := by rw [← hx]; unfold wordAt; rw [hp, if_pos hlt]
    have cj := h.at p.toNat (by omega)
    rw [← e] at cj
    clear e hx h
    go_enter Tryd.func46, Tryd.ntmps46
    go_wp2_with (first | (go_at_call 41; refine (rword_any _ _).mono ?_; rintro e w' ⟨rfl, hw⟩; subst w'))
    go_ret
    exact ⟨rfl, rfl⟩
  · have e : x = 0 := by rw [← hx]; unfold wordAt; rw [hp, if_neg hlt]
    clear hx h
    subst e
    go_enter Tryd.func46, Tryd.ntmps46
    go_wp2_with (first | (go_at_call 41; refine (rword_any _ _).mono ?_; rintro e w' ⟨rfl, hw⟩; subst w'))
    go_ret
    exact ⟨rfl, rfl⟩
theorem rpoke_is (c d : Nat) (f : Nat → Int) (wr rd st lo bu : Int) (w : World) (h : HasR w c d f wr rd st lo bu) (n x : Int) (F : Nat → Int) (hF : pokeAt f n x = F) : Calls Tryd.prog 19 #[.pointer (some ⟨c, 0, none⟩), .int .i64 n, .int .i64 x] w fun e w' => e = .returned (.tuple #[]) ∧ HasR w' c d F wr rd st lo bu ∧ Only2 c d w w' := by
  have c0 := h.c0
  obtain ⟨p, hp⟩ : ∃ p, n % 65536 = p := ⟨_, rfl⟩
  have h0 : 0 ≤ p := by omega
  obtain ⟨y, hy⟩ : ∃ y, x % 65536 = y := ⟨_, rfl⟩
  by_cases hlt : p < 32768
  · have e : F = upd f p.toNat y := by rw [← hF]; unfold pokeAt; rw [hp, if_pos hlt, hy]
    have HP := hide (show p.toNat < 32768 by omega)
    have cj := h.at p.toNat HP.out
    have zj := h.frozend p.toNat
    have H := hide h
    subst e
    clear hF h
    go_enter Tryd.func19, Tryd.ntmps19
    go_wp2_with (first | (go_at_call 41; refine (rword_any _ _).mono ?_; rintro e w' ⟨rfl, hw⟩; subst w'))
    go_region_with (first | (go_at_call 41; refine (rword_any _ _).mono ?_; rintro e w' ⟨rfl, hw⟩; subst w'))
    all_goals (try go_wp2)
    all_goals
      go_end0
      exact ⟨rfl, H.out.set p.toNat y, (Only2.refl c d w).setd _ _⟩
  · have e : F = f := by rw [← hF]; unfold pokeAt; rw [hp, if_neg hlt]
    have H := hide h
    subst e
    clear hF h
    go_enter Tryd.func19, Tryd.ntmps19
    go_wp2_with (first | (go_at_call 41; refine (rword_any _ _).mono ?_; rintro e w' ⟨rfl, hw⟩; subst w'))
    go_end0
    exact ⟨rfl, H.out, Only2.refl c d w⟩
end Go.Proofs.YtnhjhmfiapjenaaDoor
