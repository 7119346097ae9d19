/- The document's own video memory: its contracts. -/
import Derived.Test.YtbeiphnlckflpaaLoadW13
import Derived.Deep.RegionWith
namespace Go.Proofs.Ytbeiphnlckflpaa
open Go.RowKit
set_option linter.unusedVariables false

def rowR (d : Nat) (wr rd st lo bu : Int) : Array Value := #[.slice (some ⟨d, 0, none⟩) 32768 32768, .int .i64 wr, .int .i64 rd, .int .i64 st, .int .i64 lo, .int .i64 bu]
/-- Block c holds the document's struct, block d its words. -/
def HasR (w : World) (c d : Nat) (f : Nat → Int) (wr rd st lo bu : Int) : Prop := w.heap[c]? = some (.cells (rowR d wr rd st lo bu) 32 (0, 0)) ∧ HasRow w d (wordsM f) ∧ c ≠ d
/-- All blocks that there were are as they were, but for two. -/
def Only2 (c d : Nat) (w w' : World) : Prop := w'.os = w.os ∧ w'.tape = w.tape ∧ w'.output = w.output ∧ w.heap.size ≤ w'.heap.size ∧ ∀ k, k < w.heap.size → k ≠ c → k ≠ d → w'.heap[k]? = w.heap[k]?
theorem Only2.of {c d : Nat} {w w' : World} (h : Below w.heap.size w w') : Only2 c d w w' := ⟨h.os, h.tape, h.output, h.size, fun k hk _ _ => h.block k hk⟩
theorem Only2.refl (c d : Nat) (w : World) : Only2 c d w w := Only2.of (Below.refl _ _)
theorem Only2.size {c d : Nat} {w w' : World} (h : Only2 c d w w') : w.heap.size ≤ w'.heap.size := h.2.2.2.1
theorem Only2.block {c d : Nat} {w w' : World} (h : Only2 c d w w') (k : Nat) (hk : k < w.heap.size) (hc : k ≠ c) (hd : k ≠ d) : w'.heap[k]? = w.heap[k]? := h.2.2.2.2 k hk hc hd
theorem Only2.trans {c d : Nat} {w1 w2 w3 : World} (h : Only2 c d w1 w2) (k : Only2 c d w2 w3) : Only2 c d w1 w3 :=
  ⟨k.1.trans h.1, k.2.1.trans h.2.1, k.2.2.1.trans h.2.2.1, Nat.le_trans h.size k.size, fun i hi hc hd => (k.block i (Nat.lt_of_lt_of_le hi h.size) hc hd).trans (h.block i hi hc hd)⟩
theorem Only2.setc {c d : Nat} {w w' : World} (h : Only2 c d w w') (o : Nat) (v : Value) : Only2 c d w (w'.setCell ⟨c, o, none⟩ v) :=
  h.trans ⟨rfl, rfl, rfl, by simp [World.setCell], fun k _ hk _ => Below.heap_setCell _ _ _ _ hk⟩
theorem Only2.setd {c d : Nat} {w w' : World} (h : Only2 c d w w') (o : Nat) (v : Value) : Only2 c d w (w'.setCell ⟨d, o, none⟩ v) :=
  h.trans ⟨rfl, rfl, rfl, by simp [World.setCell], fun k _ _ hk => Below.heap_setCell _ _ _ _ hk⟩
theorem Only2.below {c d B : Nat} {w w' : World} (h : Only2 c d w w') (hc : B ≤ c) (hd : B ≤ d) (hB : B ≤ w.heap.size) : Below B w w' :=
  ⟨h.1, h.2.1, h.2.2.1, h.size, fun k hk => h.block k (by omega) (by omega) (by omega)⟩
theorem Only2.obj {c d k : Nat} {w w' : World} {o : Obj} (h : Only2 c d w w') (hk : w.heap[k]? = some o) (hc : k ≠ c) (hd : k ≠ d) : w'.heap[k]? = some o := (h.block k (lt_of_block hk) hc hd).trans hk
theorem bonly2 {B c d : Nat} {w a e : World} (h : Below B w a) (k : Only2 c d a e) (hc : B ≤ c) (hd : B ≤ d) (hB : B ≤ w.heap.size) : Below B w e := h.trans (k.below hc hd (Nat.le_trans hB h.size))
theorem HasR.c0 {w : World} {c d : Nat} {f : Nat → Int} {wr rd st lo bu : Int} (h : HasR w c d f wr rd st lo bu) : w.cell? ⟨c, 0, none⟩ = some (.slice (some ⟨d, 0, none⟩) 32768 32768) := (cell_of_row w c 0 _ _ _ h.1).trans rfl
theorem HasR.c1 {w : World} {c d : Nat} {f : Nat → Int} {wr rd st lo bu : Int} (h : HasR w c d f wr rd st lo bu) : w.cell? ⟨c, 1, none⟩ = some (.int .i64 wr) := (cell_of_row w c 1 _ _ _ h.1).trans rfl
theorem HasR.c2 {w : World} {c d : Nat} {f : Nat → Int} {wr rd st lo bu : Int} (h : HasR w c d f wr rd st lo bu) : w.cell? ⟨c, 2, none⟩ = some (.int .i64 rd) := (cell_of_row w c 2 _ _ _ h.1).trans rfl
theorem HasR.c3 {w : World} {c d : Nat} {f : Nat → Int} {wr rd st lo bu : Int} (h : HasR w c d f wr rd st lo bu) : w.cell? ⟨c, 3, none⟩ = some (.int .i64 st) := (cell_of_row w c 3 _ _ _ h.1).trans rfl
theorem HasR.c4 {w : World} {c d : Nat} {f : Nat → Int} {wr rd st lo bu : Int} (h : HasR w c d f wr rd st lo bu) : w.cell? ⟨c, 4, none⟩ = some (.int .i64 lo) := (cell_of_row w c 4 _ _ _ h.1).trans rfl
theorem HasR.c5 {w : World} {c d : Nat} {f : Nat → Int} {wr rd st lo bu : Int} (h : HasR w c d f wr rd st lo bu) : w.cell? ⟨c, 5, none⟩ = some (.int .i64 bu) := (cell_of_row w c 5 _ _ _ h.1).trans rfl
theorem HasR.at {w : World} {c d : Nat} {f : Nat → Int} {wr rd st lo bu : Int} (h : HasR w c d f wr rd st lo bu) (j : Nat) (hj : j < 32768) : w.cell? ⟨d, j, none⟩ = some (.int .i64 (f j)) := by
  have k := h.2.1.words j hj
  rw [Nat.zero_add] at k
  exact k
theorem HasR.frozen {w : World} {c d : Nat} {f : Nat → Int} {wr rd st lo bu : Int} (h : HasR w c d f wr rd st lo bu) (j : Nat) : w.frozen? ⟨c, j, none⟩ = false := frozen_of_row w c j _ _ h.1
theorem HasR.frozend {w : World} {c d : Nat} {f : Nat → Int} {wr rd st lo bu : Int} (h : HasR w c d f wr rd st lo bu) (j : Nat) : w.frozen? ⟨d, j, none⟩ = false := frozen_of_row w d j _ _ h.2.1
theorem HasR.lt {w : World} {c d : Nat} {f : Nat → Int} {wr rd st lo bu : Int} (h : HasR w c d f wr rd st lo bu) : c < w.heap.size := lt_of_block h.1
theorem HasR.next {w : World} {c d : Nat} {f : Nat → Int} {wr rd st lo bu : Int} (h : HasR w c d f wr rd st lo bu) {w' : World} (k : Below w.heap.size w w') : HasR w' c d f wr rd st lo bu := ⟨(k.block c (lt_of_block h.1)).trans h.1, h.2.1.next k, h.2.2⟩
theorem HasR.only {w : World} {c d : Nat} {f : Nat → Int} {wr rd st lo bu : Int} (h : HasR w c d f wr rd st lo bu) {w' : World} {b : Nat} (k : Only b w w') (hc : c ≠ b) (hd : d ≠ b) : HasR w' c d f wr rd st lo bu := ⟨k.obj h.1 hc, k.obj h.2.1 hd, h.2.2⟩
theorem HasR.set1 {w : World} {c d : Nat} {f : Nat → Int} {wr rd st lo bu : Int} (h : HasR w c d f wr rd st lo bu) (x : Int) : HasR (w.setCell ⟨c, 1, none⟩ (.int .i64 x)) c d f x rd st lo bu := ⟨heap_setCell_same w c 1 _ _ _ h.1, (Below.heap_setCell _ _ _ _ (fun e => h.2.2 e.symm)).trans h.2.1, h.2.2⟩
theorem HasR.set2 {w : World} {c d : Nat} {f : Nat → Int} {wr rd st lo bu : Int} (h : HasR w c d f wr rd st lo bu) (x : Int) : HasR (w.setCell ⟨c, 2, none⟩ (.int .i64 x)) c d f wr x st lo bu := ⟨heap_setCell_same w c 2 _ _ _ h.1, (Below.heap_setCell _ _ _ _ (fun e => h.2.2 e.symm)).trans h.2.1, h.2.2⟩
theorem HasR.set3 {w : World} {c d : Nat} {f : Nat → Int} {wr rd st lo bu : Int} (h : HasR w c d f wr rd st lo bu) (x : Int) : HasR (w.setCell ⟨c, 3, none⟩ (.int .i64 x)) c d f wr rd x lo bu := ⟨heap_setCell_same w c 3 _ _ _ h.1, (Below.heap_setCell _ _ _ _ (fun e => h.2.2 e.symm)).trans h.2.1, h.2.2⟩
theorem HasR.set4 {w : World} {c d : Nat} {f : Nat → Int} {wr rd st lo bu : Int} (h : HasR w c d f wr rd st lo bu) (x : Int) : HasR (w.setCell ⟨c, 4, none⟩ (.int .i64 x)) c d f wr rd st x bu := ⟨heap_setCell_same w c 4 _ _ _ h.1, (Below.heap_setCell _ _ _ _ (fun e => h.2.2 e.symm)).trans h.2.1, h.2.2⟩
theorem HasR.set5 {w : World} {c d : Nat} {f : Nat → Int} {wr rd st lo bu : Int} (h : HasR w c d f wr rd st lo bu) (x : Int) : HasR (w.setCell ⟨c, 5, none⟩ (.int .i64 x)) c d f wr rd st lo x := ⟨heap_setCell_same w c 5 _ _ _ h.1, (Below.heap_setCell _ _ _ _ (fun e => h.2.2 e.symm)).trans h.2.1, h.2.2⟩
theorem HasRow.set {w : World} {g : Nat} {f : Nat → Int} (h : HasRow w g (wordsM f)) (i : Nat) (x : Int) : HasRow (w.setCell ⟨g, i, none⟩ (.int .i64 x)) g (wordsM (upd f i x)) := by
  have k := heap_setCell_same w g i _ _ (.int .i64 x) h
  rw [List.setIfInBounds_toArray, wordsM_set] at k
  exact k
theorem HasR.set {w : World} {c d : Nat} {f : Nat → Int} {wr rd st lo bu : Int} (h : HasR w c d f wr rd st lo bu) (i : Nat) (x : Int) : HasR (w.setCell ⟨d, i, none⟩ (.int .i64 x)) c d (upd f i x) wr rd st lo bu := ⟨(Below.heap_setCell _ _ _ _ h.2.2).trans h.1, h.2.1.set i x, h.2.2⟩
theorem zeros_words : zerosL 32768 = wordsM (fun _ => 0) := by
  unfold zerosL wordsM
  rw [List.map_const', List.length_range]
theorem rnew_any (w : World) : Calls Try.prog 9 #[] w fun e w' => e = .returned (.pointer (some ⟨w.heap.size + 1, 0, none⟩)) ∧ HasR w' (w.heap.size + 1) w.heap.size (fun _ => 0) 0 0 1 0 0 ∧ Below w.heap.size w w' := by
  have hm := make_ints 32768 (by omega) (by omega)
  rw [show (32768 : Int).toNat = 32768 from rfl] at hm
  obtain ⟨Z, hZ⟩ : ∃ Z, zerosL 32768 = Z := ⟨_, rfl⟩
  rw [hZ] at hm
  have HZ := hide hZ
  clear hZ
  go_enter Try.func9, Try.ntmps9
  go_wp2
  go_ret
  refine ⟨rfl, ⟨heap_alloc2_new _ _ _, ?_, by omega⟩, ((Below.refl _ w).alloc (Nat.le_refl _) _).alloc (by simp) _⟩
  rw [← zeros_words, HZ.out]
  exact (Below.heap_alloc _ _ _ (by simp)).trans (heap_alloc_new _ _)
theorem rword_is (c d : Nat) (f : Nat → Int) (wr rd st lo bu : Int) (w : World) (h : HasR w c d f wr rd st lo bu) (n x : Int) (hx : wordAt f n = x) : Calls Try.prog 22 #[.pointer (some ⟨c, 0, none⟩), .int .i64 n] w fun e w' => e = .returned (.int .i64 x) ∧ w' = w := by
  have c0 := h.c0
  obtain ⟨p, hp⟩ : ∃ p, n % 65536 = p := ⟨_, rfl⟩
  have h0 : 0 ≤ p := by omega
  by_cases hlt : p < 32768
  · have e : x = f p.toNat := by rw [← hx]; unfold wordAt; rw [hp, if_pos hlt]
    have cj := h.at p.toNat (by omega)
    rw [← e] at cj
    clear e hx h
    go_enter Try.func22, Try.ntmps22
    go_wp2_with (first | (go_at_call 28; refine (rword_any _ _).mono ?_; rintro e w' ⟨rfl, hw⟩; subst w'))
    go_ret
    exact ⟨rfl, rfl⟩
  · have e : x = 0 := by rw [← hx]; unfold wordAt; rw [hp, if_neg hlt]
    clear hx h
    subst e
    go_enter Try.func22, Try.ntmps22
    go_wp2_with (first | (go_at_call 28; refine (rword_any _ _).mono ?_; rintro e w' ⟨rfl, hw⟩; subst w'))
    go_ret
    exact ⟨rfl, rfl⟩
theorem rpoke_is (c d : Nat) (f : Nat → Int) (wr rd st lo bu : Int) (w : World) (h : HasR w c d f wr rd st lo bu) (n x : Int) (F : Nat → Int) (hF : pokeAt f n x = F) : Calls Try.prog 19 #[.pointer (some ⟨c, 0, none⟩), .int .i64 n, .int .i64 x] w fun e w' => e = .returned (.tuple #[]) ∧ HasR w' c d F wr rd st lo bu ∧ Only2 c d w w' := by
  have c0 := h.c0
  obtain ⟨p, hp⟩ : ∃ p, n % 65536 = p := ⟨_, rfl⟩
  have h0 : 0 ≤ p := by omega
  obtain ⟨y, hy⟩ : ∃ y, x % 65536 = y := ⟨_, rfl⟩
  by_cases hlt : p < 32768
  · have e : F = upd f p.toNat y := by rw [← hF]; unfold pokeAt; rw [hp, if_pos hlt, hy]
    have HP := hide (show p.toNat < 32768 by omega)
    have cj := h.at p.toNat HP.out
    have zj := h.frozend p.toNat
    have H := hide h
    subst e
    clear hF h
    go_enter Try.func19, Try.ntmps19
    go_wp2_with (first | (go_at_call 28; refine (rword_any _ _).mono ?_; rintro e w' ⟨rfl, hw⟩; subst w'))
    go_region_with (first | (go_at_call 28; refine (rword_any _ _).mono ?_; rintro e w' ⟨rfl, hw⟩; subst w'))
    all_goals (try go_wp2)
    all_goals
      go_end0
      exact ⟨rfl, H.out.set p.toNat y, (Only2.refl c d w).setd _ _⟩
  · have e : F = f := by rw [← hF]; unfold pokeAt; rw [hp, if_neg hlt]
    have H := hide h
    subst e
    clear hF h
    go_enter Try.func19, Try.ntmps19
    go_wp2_with (first | (go_at_call 28; refine (rword_any _ _).mono ?_; rintro e w' ⟨rfl, hw⟩; subst w'))
    go_end0
    exact ⟨rfl, H.out, Only2.refl c d w⟩
theorem rsetRead_is (c d : Nat) (f : Nat → Int) (wr rd st lo bu : Int) (w : World) (h : HasR w c d f wr rd st lo bu) (n x y : Int) (hx : n % 65536 = x) (hy : wordAt f x = y) : Calls Try.prog 12 #[.pointer (some ⟨c, 0, none⟩), .int .i64 n] w fun e w' => e = .returned (.tuple #[]) ∧ HasR w' c d f wr x st lo y ∧ Only2 c d w w' := by
  have c2 := h.c2
  have z2 := h.frozen 2
  have H := hide h
  have HY := hide hy
  clear h hy
  go_enter Try.func12, Try.ntmps12
  go_wp2_with (first | (go_at_call 28; refine (rword_any _ _).mono ?_; rintro e w' ⟨rfl, hw⟩; subst w'))
  have H2 := hide (H.out.set2 x)
  have O2 := hide ((Only2.refl c d w).setc 2 (.int .i64 x))
  obtain ⟨w2, hw2⟩ : ∃ w2, w2 = w.setCell ⟨c, 2, none⟩ (.int .i64 x) := ⟨_, rfl⟩
  rw [← hw2] at H2 O2 ⊢
  clear hw2 H c2 z2
  refine (rword_is c d f _ _ _ _ _ _ H2.out x y HY.out).mono ?_
  rintro e w' ⟨rfl, hw⟩
  subst w'
  have c5 := H2.out.c5
  have z5 := H2.out.frozen 5
  go_wp2
  go_end0
  exact ⟨rfl, H2.out.set5 y, O2.out.setc _ _⟩
theorem radd_is (a b x : Int) (ha : 0 ≤ a) (ha1 : a < 65536) (hb : 0 ≤ b) (hb1 : b < 65536) (hx : (a + b) % 65536 = x) (w : World) : Calls Try.prog 33 #[.int .i64 a, .int .i64 b] w fun e w' => e = .returned (.int .i64 x) ∧ w' = w := by
  go_enter Try.func33, Try.ntmps33
  go_wp2_with (first | (go_at_call 28; refine (rword_any _ _).mono ?_; rintro e w' ⟨rfl, hw⟩; subst w'))
  go_ret
  exact ⟨rfl, rfl⟩
theorem rputLow_is (c d : Nat) (f : Nat → Int) (wr rd st lo bu : Int) (w : World) (h : HasR w c d f wr rd st lo bu) (n x : Int) (hx : n % 256 = x) : Calls Try.prog 15 #[.pointer (some ⟨c, 0, none⟩), .bool false, .int .i64 n] w fun e w' => e = .returned (.tuple #[]) ∧ HasR w' c d f wr rd st x bu ∧ Only2 c d w w' := by
  have c4 := h.c4
  have z4 := h.frozen 4
  have H := hide h
  clear h
  go_enter Try.func15, Try.ntmps15
  go_wp2_with (first | (go_at_call 31; refine (rbyte_any _ _).mono ?_; rintro e w' ⟨rfl, hw⟩; subst w'))
  refine bodyPost_ret (results_none rfl _ _ _) rfl ?_
  exact ⟨rfl, H.out.set4 x, (Only2.refl c d w).setc _ _⟩
theorem rputHigh_is (c d : Nat) (f : Nat → Int) (wr rd st lo bu : Int) (w : World) (h : HasR w c d f wr rd st lo bu) (n x y : Int) (F : Nat → Int) (hx : lo % 256 + 256 * (n % 256) = x) (hF : pokeAt f wr x = F) (hw0 : 0 ≤ wr) (hw1 : wr < 65536) (hs0 : 0 ≤ st) (hs1 : st < 65536) (hy : (wr + st) % 65536 = y) :
    Calls Try.prog 15 #[.pointer (some ⟨c, 0, none⟩), .bool true, .int .i64 n] w fun e w' => e = .returned (.tuple #[]) ∧ HasR w' c d F y rd st lo bu ∧ Only2 c d w w' := by
  have k1 := kept_cell h.c1 h.lt
  have k4 := kept_cell h.c4 h.lt
  have H := hide h
  have HF := hide hF
  have HX := hide hx
  have HY := hide hy
  clear h hF hx hy
  go_enter Try.func15, Try.ntmps15
  go_wp2_with fail
  haveI := kept_some w
  refine wp_region_kept_shut _ _ (show _ = [_, _, _, _, _, _, _, _, _, _, _] ++ [_] from rfl) (by kernel_rfl) (by kernel_rfl) (by kernel_rfl) ?_
  repeat (go_big_quiet_step ((first | (go_at_call 32; exact kept_same ((rjoin_any _ _ _).mono (fun _ _ hh => ⟨hh.1.trans (ret_val HX.out), hh.2⟩))))))
  refine wpQuiet_nil ?_
  rintro _ ⟨wk, rfl⟩
  clear k1 k4
  go_wp2_with fail
  refine (rpoke_is c d f _ _ _ _ _ _ (H.out.next wk.below) wr x F HF.out).mono ?_
  rintro e w2 ⟨rfl, h2, o2⟩
  have H2 := hide h2
  have O2 := hide ((Only2.of (c := c) (d := d) wk.below).trans o2)
  have k1 := kept_cell h2.c1 h2.lt
  have k3 := kept_cell h2.c3 h2.lt
  clear h2 o2 H
  go_wp2_with fail
  haveI := kept_some w2
  refine wp_region_kept_shut _ _ (show _ = [_, _, _, _, _, _, _, _, _, _, _, _] ++ [_] from rfl) (by kernel_rfl) (by kernel_rfl) (by kernel_rfl) ?_
  repeat (go_big_quiet_step ((first | (go_at_call 33; exact kept_same (radd_is _ _ y hw0 hw1 hs0 hs1 HY.out _)))))
  refine wpQuiet_nil ?_
  rintro _ ⟨wj, rfl⟩
  clear k1 k3
  have H3 := hide (H2.out.next wj.below)
  have c1 := H3.out.c1
  have z1 := H3.out.frozen 1
  go_wp2_with fail
  go_end0
  exact ⟨rfl, H3.out.set1 y, (O2.out.trans (Only2.of wj.below)).setc _ _⟩
theorem rgetLow_is (c d : Nat) (f : Nat → Int) (wr rd st lo bu : Int) (w : World) (h : HasR w c d f wr rd st lo bu) (hb0 : 0 ≤ bu) (hb1 : bu < 65536) : Calls Try.prog 17 #[.pointer (some ⟨c, 0, none⟩), .bool false] w fun e w' => e = .returned (.int .i64 (bu % 256)) ∧ w' = w := by
  have c5 := h.c5
  clear h
  go_enter Try.func17, Try.ntmps17
  go_wp2
  go_ret
  exact ⟨ret_int (by omega), rfl⟩
theorem rgetHigh_is (c d : Nat) (f : Nat → Int) (wr rd st lo bu : Int) (w : World) (h : HasR w c d f wr rd st lo bu) (x y : Int) (hb0 : 0 ≤ bu) (hb1 : bu < 65536) (hr0 : 0 ≤ rd) (hr1 : rd < 65536) (hs0 : 0 ≤ st) (hs1 : st < 65536) (hx : (rd + st) % 65536 = x) (hy : wordAt f x = y) :
    Calls Try.prog 17 #[.pointer (some ⟨c, 0, none⟩), .bool true] w fun e w' => e = .returned (.int .i64 (bu / 256 % 256)) ∧ HasR w' c d f wr x st lo y ∧ Only2 c d w w' := by
  have c5 := h.c5
  have k2 := kept_cell h.c2 h.lt
  have k3 := kept_cell h.c3 h.lt
  have H := hide h
  have HX := hide hx
  have HY := hide hy
  clear h hx hy
  go_enter Try.func17, Try.ntmps17
  go_wp2_with fail
  haveI := kept_some w
  refine wp_region_kept_shut _ _ (show _ = [_, _, _, _, _, _, _, _, _, _] ++ [_] from rfl) (by kernel_rfl) (by kernel_rfl) (by kernel_rfl) ?_
  repeat (go_big_quiet_step ((first | (go_at_call 33; exact kept_same (radd_is _ _ x hr0 hr1 hs0 hs1 HX.out _)))))
  refine wpQuiet_nil ?_
  rintro _ ⟨wj, rfl⟩
  clear k2 k3 c5
  go_wp2_with fail
  refine (rsetRead_is c d f _ _ _ _ _ _ (H.out.next wj.below) x x y (by have := HX.out; omega) HY.out).mono ?_
  rintro e w3 ⟨rfl, h3, o3⟩
  go_wp2_with fail
  go_ret
  exact ⟨ret_int (by omega), h3, (Only2.of wj.below).trans o3⟩
end Go.Proofs.Ytbeiphnlckflpaa
