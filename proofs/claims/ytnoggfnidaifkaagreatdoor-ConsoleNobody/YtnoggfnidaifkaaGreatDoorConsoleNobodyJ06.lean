/- Texts without a word of the program, one behind the other. -/
import Derived.Test.YtnoggfnidaifkaaGreatDoorConsoleNobodyJ03
import Derived.Laws.Rows
import Derived.Laws.Tables
import Derived.Laws.CopyOwn
import Derived.WalkMore
import Derived.OneCell
import Derived.Handy
import Derived.Deep.RegionWith
import Derived.Laws.MakeOwn
import Derived.Laws.OwnMore
namespace Go.Proofs.YtnoggfnidaifkaaGreatDoor.W13
set_option maxRecDepth 20000
open Go.RowKit
set_option linter.unusedVariables false
def tailM (wr rd st lo bu : Int) : List Value := [.int .i64 wr, .int .i64 rd, .int .i64 st, .int .i64 lo, .int .i64 bu]
def wordsM (f : Nat → Int) : List Value := (List.range 32768).map fun j => Value.int .i64 (f j)
def rowM (m : Bool) (f : Nat → Int) (wr rd st lo bu : Int) : Array Value := (.bool m :: (wordsM f ++ tailM wr rd st lo bu)).toArray
theorem wordsM_length (f : Nat → Int) : (wordsM f).length = 32768 := by simp [wordsM]
theorem rowM_size (m : Bool) (f : Nat → Int) (wr rd st lo bu : Int) : (rowM m f wr rd st lo bu).size = 32774 := by simp [rowM, wordsM_length, tailM]
theorem wordsM_at (f : Nat → Int) (j : Nat) (h : j < 32768) : (wordsM f)[j]? = some (.int .i64 (f j)) := by simp [wordsM, h]
theorem rowM_0 (m : Bool) (f : Nat → Int) (wr rd st lo bu : Int) : (rowM m f wr rd st lo bu)[0]? = some (.bool m) := by simp [rowM]
theorem rowM_at (m : Bool) (f : Nat → Int) (wr rd st lo bu : Int) (j : Nat) (h : j < 32768) : (rowM m f wr rd st lo bu)[1 + j]? = some (.int .i64 (f j)) := by
  unfold rowM
  rw [show 1 + j = j + 1 by omega, List.getElem?_toArray, List.getElem?_cons_succ, List.getElem?_append_left (by rw [wordsM_length]; exact h)]
  exact wordsM_at f j h
theorem rowM_tail (m : Bool) (f : Nat → Int) (wr rd st lo bu : Int) (j : Nat) : (rowM m f wr rd st lo bu)[32769 + j]? = (tailM wr rd st lo bu)[j]? := by
  unfold rowM
  rw [show 32769 + j = (32768 + j) + 1 by omega, List.getElem?_toArray, List.getElem?_cons_succ, List.getElem?_append_right (by rw [wordsM_length]; omega), wordsM_length, show 32768 + j - 32768 = j by omega]
def upd (f : Nat → Int) (i : Nat) (v : Int) : Nat → Int := fun j => if j = i then v else f j
theorem wordsM_set (i : Nat) (x : Int) (f : Nat → Int) : (wordsM f).set i (.int .i64 x) = wordsM (upd f i x) := by
  unfold wordsM
  apply List.ext_getElem?
  intro j
  rw [List.getElem?_set]
  simp only [List.getElem?_map, List.length_map, List.length_range]
  by_cases h : i = j
  · subst h
    by_cases k : i < 32768
    · simp [k, upd]
    · simp [k]
  · rw [if_neg h]
    by_cases k : j < 32768
    · simp [k, upd, show ¬ j = i from fun e => h e.symm]
    · simp [k]
theorem rowM_set (m : Bool) (f : Nat → Int) (wr rd st lo bu x : Int) (i : Nat) (h : i < 32768) : (rowM m f wr rd st lo bu).setIfInBounds (1 + i) (.int .i64 x) = rowM m (upd f i x) wr rd st lo bu := by
  unfold rowM
  rw [List.setIfInBounds_toArray, show 1 + i = i + 1 by omega, List.set_cons_succ, List.set_append_left _ _ (by rw [wordsM_length]; exact h), wordsM_set]
theorem rowM_setTail (m : Bool) (f : Nat → Int) (wr rd st lo bu x : Int) (i : Nat) : (rowM m f wr rd st lo bu).setIfInBounds (32769 + i) (.int .i64 x) = (.bool m :: (wordsM f ++ (tailM wr rd st lo bu).set i (.int .i64 x))).toArray := by
  unfold rowM
  rw [List.setIfInBounds_toArray, show 32769 + i = (32768 + i) + 1 by omega, List.set_cons_succ, List.set_append_right _ _ (by rw [wordsM_length]; omega), wordsM_length, show 32768 + i - 32768 = i by omega]
theorem rowM_setMade (m q : Bool) (f : Nat → Int) (wr rd st lo bu : Int) : (rowM m f wr rd st lo bu).setIfInBounds 0 (.bool q) = rowM q f wr rd st lo bu := by
  unfold rowM
  rw [List.setIfInBounds_toArray, List.set_cons_zero]
def HasM (w : World) (b : Nat) (m : Bool) (f : Nat → Int) (wr rd st lo bu : Int) : Prop := w.heap[b]? = some (.cells (rowM m f wr rd st lo bu) 156 (0, 0))
theorem HasM.lt {w : World} {b : Nat} {m : Bool} {f : Nat → Int} {wr rd st lo bu : Int} (h : HasM w b m f wr rd st lo bu) : b < w.heap.size := lt_of_block h
theorem HasM.c0 {w : World} {b : Nat} {m : Bool} {f : Nat → Int} {wr rd st lo bu : Int} (h : HasM w b m f wr rd st lo bu) : w.cell? ⟨b, 0, none⟩ = some (.bool m) := (cell_of_row w b 0 _ _ _ h).trans (rowM_0 _ _ _ _ _ _ _)
theorem HasM.at {w : World} {b : Nat} {m : Bool} {f : Nat → Int} {wr rd st lo bu : Int} (h : HasM w b m f wr rd st lo bu) (j : Nat) (hj : j < 32768) : w.cell? ⟨b, 1 + j, none⟩ = some (.int .i64 (f j)) := (cell_of_row w b (1 + j) _ _ _ h).trans (rowM_at _ _ _ _ _ _ _ j hj)
theorem HasM.c1 {w : World} {b : Nat} {m : Bool} {f : Nat → Int} {wr rd st lo bu : Int} (h : HasM w b m f wr rd st lo bu) : w.cell? ⟨b, 32769, none⟩ = some (.int .i64 wr) := (cell_of_row w b 32769 _ _ _ h).trans (rowM_tail m f wr rd st lo bu 0)
theorem HasM.c2 {w : World} {b : Nat} {m : Bool} {f : Nat → Int} {wr rd st lo bu : Int} (h : HasM w b m f wr rd st lo bu) : w.cell? ⟨b, 32770, none⟩ = some (.int .i64 rd) := (cell_of_row w b 32770 _ _ _ h).trans (rowM_tail m f wr rd st lo bu 1)
theorem HasM.c3 {w : World} {b : Nat} {m : Bool} {f : Nat → Int} {wr rd st lo bu : Int} (h : HasM w b m f wr rd st lo bu) : w.cell? ⟨b, 32771, none⟩ = some (.int .i64 st) := (cell_of_row w b 32771 _ _ _ h).trans (rowM_tail m f wr rd st lo bu 2)
theorem HasM.c4 {w : World} {b : Nat} {m : Bool} {f : Nat → Int} {wr rd st lo bu : Int} (h : HasM w b m f wr rd st lo bu) : w.cell? ⟨b, 32772, none⟩ = some (.int .i64 lo) := (cell_of_row w b 32772 _ _ _ h).trans (rowM_tail m f wr rd st lo bu 3)
theorem HasM.c5 {w : World} {b : Nat} {m : Bool} {f : Nat → Int} {wr rd st lo bu : Int} (h : HasM w b m f wr rd st lo bu) : w.cell? ⟨b, 32773, none⟩ = some (.int .i64 bu) := (cell_of_row w b 32773 _ _ _ h).trans (rowM_tail m f wr rd st lo bu 4)
theorem HasM.frozen {w : World} {b : Nat} {m : Bool} {f : Nat → Int} {wr rd st lo bu : Int} (h : HasM w b m f wr rd st lo bu) (j : Nat) : w.frozen? ⟨b, j, none⟩ = false := frozen_of_row w b j _ _ h
theorem HasM.set {w : World} {b : Nat} {m : Bool} {f : Nat → Int} {wr rd st lo bu : Int} (h : HasM w b m f wr rd st lo bu) (i : Nat) (hi : i < 32768) (x : Int) : HasM (w.setCell ⟨b, 1 + i, none⟩ (.int .i64 x)) b m (upd f i x) wr rd st lo bu := by
  have k := heap_setCell_same w b (1 + i) _ _ (.int .i64 x) h
  rw [rowM_set _ _ _ _ _ _ _ _ _ hi] at k
  exact k
theorem HasM.set1 {w : World} {b : Nat} {m : Bool} {f : Nat → Int} {wr rd st lo bu : Int} (h : HasM w b m f wr rd st lo bu) (x : Int) : HasM (w.setCell ⟨b, 32769, none⟩ (.int .i64 x)) b m f x rd st lo bu := by
  have k := heap_setCell_same w b 32769 _ _ (.int .i64 x) h
  rw [rowM_setTail _ _ _ _ _ _ _ _ 0] at k
  exact k
theorem HasM.set2 {w : World} {b : Nat} {m : Bool} {f : Nat → Int} {wr rd st lo bu : Int} (h : HasM w b m f wr rd st lo bu) (x : Int) : HasM (w.setCell ⟨b, 32770, none⟩ (.int .i64 x)) b m f wr x st lo bu := by
  have k := heap_setCell_same w b 32770 _ _ (.int .i64 x) h
  rw [rowM_setTail _ _ _ _ _ _ _ _ 1] at k
  exact k
theorem HasM.set5 {w : World} {b : Nat} {m : Bool} {f : Nat → Int} {wr rd st lo bu : Int} (h : HasM w b m f wr rd st lo bu) (x : Int) : HasM (w.setCell ⟨b, 32773, none⟩ (.int .i64 x)) b m f wr rd st lo x := by
  have k := heap_setCell_same w b 32773 _ _ (.int .i64 x) h
  rw [rowM_setTail _ _ _ _ _ _ _ _ 4] at k
  exact k
theorem HasM.next {w : World} {b : Nat} {m : Bool} {f : Nat → Int} {wr rd st lo bu : Int} (h : HasM w b m f wr rd st lo bu) {w' : World} (k : Below w.heap.size w w') : HasM w' b m f wr rd st lo bu := (k.block b (lt_of_block h)).trans h
theorem hasM_new (w : World) (m : Bool) (f : Nat → Int) (wr rd st lo bu : Int) : HasM (w.alloc (.cells (rowM m f wr rd st lo bu) 156)) w.heap.size m f wr rd st lo bu := heap_alloc_new _ _
def Only (b : Nat) (w w' : World) : Prop := w'.os = w.os ∧ w'.tape = w.tape ∧ w'.output = w.output ∧ w.heap.size ≤ w'.heap.size ∧ ∀ k, k < w.heap.size → k ≠ b → w'.heap[k]? = w.heap[k]?
theorem Only.of {b : Nat} {w w' : World} (h : Below w.heap.size w w') : Only b w w' := ⟨h.os, h.tape, h.output, h.size, fun k hk _ => h.block k hk⟩
theorem Only.refl (b : Nat) (w : World) : Only b w w := Only.of (Below.refl _ _)
theorem Only.size {b : Nat} {w w' : World} (h : Only b w w') : w.heap.size ≤ w'.heap.size := h.2.2.2.1
theorem Only.block {b : Nat} {w w' : World} (h : Only b w w') (k : Nat) (hk : k < w.heap.size) (hb : k ≠ b) : w'.heap[k]? = w.heap[k]? := h.2.2.2.2 k hk hb
theorem Only.trans {b : Nat} {w1 w2 w3 : World} (h : Only b w1 w2) (k : Only b w2 w3) : Only b w1 w3 :=
  ⟨k.1.trans h.1, k.2.1.trans h.2.1, k.2.2.1.trans h.2.2.1, Nat.le_trans h.size k.size, fun i hi hb => (k.block i (Nat.lt_of_lt_of_le hi h.size) hb).trans (h.block i hi hb)⟩
theorem Only.set {b : Nat} {w w' : World} (h : Only b w w') (o : Nat) (v : Value) : Only b w (w'.setCell ⟨b, o, none⟩ v) :=
  h.trans ⟨rfl, rfl, rfl, by simp [World.setCell], fun k _ hk => Below.heap_setCell _ _ _ _ hk⟩
theorem Only.below {b B : Nat} {w w' : World} (h : Only b w w') (hb : B ≤ b) (hB : B ≤ w.heap.size) : Below B w w' :=
  ⟨h.1, h.2.1, h.2.2.1, h.size, fun k hk => h.block k (by omega) (by omega)⟩
theorem Only.obj {b c : Nat} {w w' : World} {o : Obj} (h : Only b w w') (k : w.heap[c]? = some o) (hc : c ≠ b) : w'.heap[c]? = some o := (h.block c (lt_of_block k) hc).trans k
theorem Only.drewN {b : Nat} {w w' : World} (h : Only b w w') (n : Nat) : Only b w (w'.drewN n) := h.trans ⟨rfl, rfl, rfl, Nat.le_refl _, fun _ _ _ => rfl⟩
def isZ : Value → Bool | .int .i64 0 => true | _ => false
def allZ : Nat → List Value → Bool
  | 0, [] => true
  | n + 1, x :: xs => isZ x && allZ n xs
  | _, _ => false
def isZeroM : Option Value → Bool | some (.agg ⟨.bool false :: xs⟩) => allZ 32773 xs | _ => false
theorem isZ_eq {v : Value} (h : isZ v = true) : v = .int .i64 0 := by
  unfold isZ at h
  split at h
  · rfl
  · cases h
theorem allZ_eq : ∀ (n : Nat) (l : List Value), allZ n l = true → l = List.replicate n (.int .i64 0)
  | 0, [], _ => rfl
  | 0, x :: xs, h => by simp [allZ] at h
  | n + 1, [], h => by simp [allZ] at h
  | n + 1, x :: xs, h => by
    simp only [allZ, Bool.and_eq_true] at h
    rw [isZ_eq h.1, allZ_eq n xs h.2, List.replicate_succ]
def zeroC : Array Value := rowM false (fun _ => 0) 0 0 0 0 0
theorem zero_list : wordsM (fun _ => 0) ++ tailM 0 0 0 0 0 = List.replicate 32773 (.int .i64 0) := by
  have e : wordsM (fun _ => 0) = List.replicate 32768 (.int .i64 0) := by
    unfold wordsM
    rw [List.map_const', List.length_range]
  rw [e, show tailM 0 0 0 0 0 = List.replicate 5 (.int .i64 0) from rfl, List.replicate_append_replicate]
theorem isZeroM_eq {v : Option Value} (h : isZeroM v = true) : v = some (.agg zeroC) := by
  unfold isZeroM at h
  split at h
  · rename_i xs
    have k := allZ_eq _ _ h
    subst k
    unfold zeroC rowM
    rw [zero_list]
  · cases h
theorem zero_is : Tryz.t156.zero = some (.agg zeroC) := isZeroM_eq (by kernel_rfl)
theorem zero_M : zeroC = rowM false (fun _ => 0) 0 0 0 0 0 := rfl
set_option maxRecDepth 100000 in
theorem built_of (parts : List (Nat × Value)) : Tryz.prog.built 156 parts = Instr.fill (fun i => #[(0, 1), (1, 32768), (32769, 1), (32770, 1), (32771, 1), (32772, 1), (32773, 1)][i]?) zeroC parts := by
  have h1 : Tryz.prog.info? 156 = some Tryz.t156 := by kernel_rfl
  unfold Program.built
  simp only [h1, Tryz.underlying156, zero_is]
  rfl
theorem fill_one {place : Nat → Option (Nat × Nat)} {cells : Array Value} {i off : Nat} {v : Value} {rest : List (Nat × Value)} (hp : place i = some (off, 1)) (hv : v.cells = #[v]) (ho : off + 1 ≤ cells.size) :
    Instr.fill place cells ((i, v) :: rest) = Instr.fill place (cells.setIfInBounds off v) rest := by
  have hn : ¬ off + 1 > cells.size := by omega
  rw [Instr.fill, hp]
  simp only [hv, List.size_toArray, List.length_cons, List.length_nil]
  rw [if_neg (by simp; omega)]
  rfl
theorem run_new (w : World) : (Instr.build 156 #[(0, .bool true), (4, .int .i64 1)]).run Tryz.prog w = .ok (.agg (rowM true (fun _ => 0) 0 0 1 0 0)) w := by
  refine run_build w _ _ _ ?_
  rw [built_of, zero_M, fill_one (off := 0) rfl rfl (by rw [rowM_size]; omega), rowM_setMade, fill_one (off := 32771) rfl rfl (by rw [rowM_size]; omega), rowM_setTail _ _ _ _ _ _ _ _ 2]
  rfl
theorem wpList_built {P : Program} {ops : Array Oper} {rest : List Oper} {o : Oper} {a : Act} {w : World} {Q : Exit → Act → World → Prop} (hg : o.guard = none) (t : TypeId) (parts : Array (Nat × Operand)) (ho : o.op = .build t parts)
    (vals : Array (Nat × Value)) (hp : (parts.map fun (i, x) => (i, a.eval x)) = vals) (R : Array Value) (h : ∀ w, (Instr.build t vals).run P w = .ok (.agg R) w) (hK : wpList P ops Q rest (a.put o.dst (.agg R)) w) : wpList P ops Q (o :: rest) a w :=
  wpList_plain hg fun K hK' => by
    unfold Oper.wp execOp
    simp only [ho, hp, Sem.run_bind, h, Result.andThen_ok]
    exact hK' _ _ hK
end Go.Proofs.YtnoggfnidaifkaaGreatDoor.W13
namespace Go.Proofs.YtnoggfnidaifkaaGreatDoor.W13
set_option maxRecDepth 20000
open Go.RowKit
set_option linter.unusedVariables false
theorem new_any (w : World) : Calls Tryz.prog 31 #[] w fun e w' => e = .returned (.pointer (some ⟨w.heap.size, 0, none⟩)) ∧ HasM w' w.heap.size true (fun _ => 0) 0 0 1 0 0 ∧ Below w.heap.size w w' := by
  go_enter Tryz.func31, Tryz.ntmps31
  go_wp2_with (first | (refine wpList_built rfl 156 _ rfl #[(0, .bool true), (4, .int .i64 1)] (by simp [Act.eval]) _ run_new ?_))
  go_ret
  exact ⟨rfl, hasM_new _ _ _ _ _ _ _ _, (Below.refl _ w).alloc (Nat.le_refl _) _⟩
theorem missing_is (b : Nat) (m : Bool) (w : World) (c0 : w.cell? ⟨b, 0, none⟩ = some (.bool m)) : Calls Tryz.prog 121 #[.pointer (some ⟨b, 0, none⟩)] w fun e w' => e = .returned (.bool (!m)) ∧ w' = w := by
  go_enter Tryz.func121, Tryz.ntmps121
  go_wp2
  go_ret
  exact ⟨rfl, rfl⟩
theorem setWrite_is (b : Nat) (f : Nat → Int) (wr rd st lo bu : Int) (w : World) (h : HasM w b true f wr rd st lo bu) (n x : Int) (hx : n % 65536 = x) : Calls Tryz.prog 300 #[.pointer (some ⟨b, 0, none⟩), .int .i64 n] w fun e w' => e = .returned (.tuple #[]) ∧ HasM w' b true f x rd st lo bu ∧ Only b w w' := by
  have c0 := h.c0
  have c1 := h.c1
  have z1 := h.frozen 32769
  have H := hide h
  clear h
  go_enter Tryz.func300, Tryz.ntmps300
  go_wp2_with (first | (go_at_call 121; refine (missing_is b true _ c0).mono ?_; rintro e w' ⟨rfl, hw⟩; subst w') | (go_at_call 24; refine (word_any _ _).mono ?_; rintro e w' ⟨rfl, hw⟩; subst w'))
  go_end0
  exact ⟨rfl, H.out.set1 x, (Only.refl b w).set _ _⟩
theorem results_five {fn : Func} {a b c d e : Tmp} (h : fn.results = #[.tmp a, .tmp b, .tmp c, .tmp d, .tmp e]) (tmps : Array Value) (P : Program) (w : World) :
    (results fn tmps).run P w = .ok (.tuple #[tmps.getD a undef, tmps.getD b undef, tmps.getD c undef, tmps.getD d undef, tmps.getD e undef]) w := by
  simp [results, h]
theorem ports_is (b : Nat) (f : Nat → Int) (wr rd st lo bu : Int) (w : World) (h : HasM w b true f wr rd st lo bu) : Calls Tryz.prog 204 #[.pointer (some ⟨b, 0, none⟩)] w fun e w' => e = .returned (.tuple #[.int .i64 wr, .int .i64 rd, .int .i64 st, .int .i64 lo, .int .i64 bu]) ∧ Below w.heap.size w w' := by
  have c0 := h.c0
  have k1 := kept_cell h.c1 h.lt
  have k2 := kept_cell h.c2 h.lt
  have k3 := kept_cell h.c3 h.lt
  have k4 := kept_cell h.c4 h.lt
  have k5 := kept_cell h.c5 h.lt
  clear h
  go_enter Tryz.func204, Tryz.ntmps204
  go_wp2_with (first | (go_at_call 121; refine (missing_is b true _ c0).mono ?_; rintro e w' ⟨rfl, hw⟩; subst w'))
  haveI := kept_some w
  refine wp_region_kept (by kernel_rfl) (by kernel_rfl) ?_
  repeat (go_big_quiet_step (fail))
  refine wpQuiet_nil ?_
  rintro _ ⟨wk, rfl⟩
  go_wp2
  refine bodyPost_ret (results_five rfl _ _ _) rfl ?_
  exact ⟨rfl, wk.below⟩
def wordAt (f : Nat → Int) (n : Int) : Int := if n % 65536 < 32768 then f (n % 65536).toNat else 0
def pokeAt (f : Nat → Int) (n x : Int) : Nat → Int := if n % 65536 < 32768 then upd f (n % 65536).toNat (x % 65536) else f
theorem word_is (b : Nat) (f : Nat → Int) (wr rd st lo bu : Int) (w : World) (h : HasM w b true f wr rd st lo bu) (n x : Int) (hx : wordAt f n = x) : Calls Tryz.prog 260 #[.pointer (some ⟨b, 0, none⟩), .int .i64 n] w fun e w' => e = .returned (.int .i64 x) ∧ w' = w := by
  have c0 := h.c0
  obtain ⟨p, hp⟩ : ∃ p, n % 65536 = p := ⟨_, rfl⟩
  have h0 : 0 ≤ p := by omega
  by_cases hlt : p < 32768
  · have e : x = f p.toNat := by rw [← hx]; unfold wordAt; rw [hp, if_pos hlt]
    have cj := h.at p.toNat (by omega)
    rw [← e] at cj
    clear e hx h
    go_enter Tryz.func260, Tryz.ntmps260
    go_wp2_with (first | (go_at_call 121; refine (missing_is b true _ c0).mono ?_; rintro e w' ⟨rfl, hw⟩; subst w') | (go_at_call 24; refine (word_any _ _).mono ?_; rintro e w' ⟨rfl, hw⟩; subst w'))
    go_ret
    exact ⟨rfl, rfl⟩
  · have e : x = 0 := by rw [← hx]; unfold wordAt; rw [hp, if_neg hlt]
    clear hx h
    subst e
    go_enter Tryz.func260, Tryz.ntmps260
    go_wp2_with (first | (go_at_call 121; refine (missing_is b true _ c0).mono ?_; rintro e w' ⟨rfl, hw⟩; subst w') | (go_at_call 24; refine (word_any _ _).mono ?_; rintro e w' ⟨rfl, hw⟩; subst w'))
    go_ret
    exact ⟨rfl, rfl⟩
theorem poke_is (b : Nat) (f : Nat → Int) (wr rd st lo bu : Int) (w : World) (h : HasM w b true f wr rd st lo bu) (n x : Int) (F : Nat → Int) (hF : pokeAt f n x = F) : Calls Tryz.prog 313 #[.pointer (some ⟨b, 0, none⟩), .int .i64 n, .int .i64 x] w fun e w' => e = .returned (.tuple #[]) ∧ HasM w' b true F wr rd st lo bu ∧ Only b w w' := by
  have c0 := h.c0
  obtain ⟨p, hp⟩ : ∃ p, n % 65536 = p := ⟨_, rfl⟩
  have h0 : 0 ≤ p := by omega
  obtain ⟨y, hy⟩ : ∃ y, x % 65536 = y := ⟨_, rfl⟩
  by_cases hlt : p < 32768
  · have e : F = upd f p.toNat y := by rw [← hF]; unfold pokeAt; rw [hp, if_pos hlt, hy]
    have HP := hide (show p.toNat < 32768 by omega)
    have cj := h.at p.toNat HP.out
    have zj := h.frozen (1 + p.toNat)
    have H := hide h
    subst e
    clear hF h
    go_enter Tryz.func313, Tryz.ntmps313
    go_wp2_with (first | (go_at_call 121; refine (missing_is b true _ c0).mono ?_; rintro e w' ⟨rfl, hw⟩; subst w') | (go_at_call 24; refine (word_any _ _).mono ?_; rintro e w' ⟨rfl, hw⟩; subst w'))
    go_region_with (first | (go_at_call 24; refine (word_any _ _).mono ?_; rintro e w' ⟨rfl, hw⟩; subst w'))
    all_goals (try go_wp2)
    all_goals
      go_end0
      exact ⟨rfl, H.out.set p.toNat HP.out y, (Only.refl b w).set _ _⟩
  · have e : F = f := by rw [← hF]; unfold pokeAt; rw [hp, if_neg hlt]
    have H := hide h
    subst e
    clear hF h
    go_enter Tryz.func313, Tryz.ntmps313
    go_wp2_with (first | (go_at_call 121; refine (missing_is b true _ c0).mono ?_; rintro e w' ⟨rfl, hw⟩; subst w') | (go_at_call 24; refine (word_any _ _).mono ?_; rintro e w' ⟨rfl, hw⟩; subst w'))
    refine bodyPost_ret (results_none rfl _ _ _) rfl ?_
    exact ⟨rfl, H.out, Only.refl b w⟩
end Go.Proofs.YtnoggfnidaifkaaGreatDoor.W13
namespace Go.Proofs.YtnoggfnidaifkaaGreatDoor.W13
set_option maxRecDepth 20000
open Go.RowKit
set_option linter.unusedVariables false
theorem setRead_is (b : Nat) (f : Nat → Int) (wr rd st lo bu : Int) (w : World) (h : HasM w b true f wr rd st lo bu) (n x y : Int) (hx : n % 65536 = x) (hy : wordAt f x = y) : Calls Tryz.prog 208 #[.pointer (some ⟨b, 0, none⟩), .int .i64 n] w fun e w' => e = .returned (.tuple #[]) ∧ HasM w' b true f wr x st lo y ∧ Only b w w' := by
  have c0 := h.c0
  have c2 := h.c2
  have z2 := h.frozen 32770
  have H := hide h
  have HY := hide hy
  clear h hy
  go_enter Tryz.func208, Tryz.ntmps208
  go_wp2_with (first | (go_at_call 121; refine (missing_is b true _ c0).mono ?_; rintro e w' ⟨rfl, hw⟩; subst w') | (go_at_call 24; refine (word_any _ _).mono ?_; rintro e w' ⟨rfl, hw⟩; subst w'))
  have H2 := hide (H.out.set2 x)
  have O2 := hide ((Only.refl b w).set 32770 (.int .i64 x))
  obtain ⟨w2, hw2⟩ : ∃ w2, w2 = w.setCell ⟨b, 32770, none⟩ (.int .i64 x) := ⟨_, rfl⟩
  rw [← hw2] at H2 O2 ⊢
  clear hw2 H c0 c2 z2
  refine (word_is b f _ _ _ _ _ _ H2.out x y HY.out).mono ?_
  rintro e w' ⟨rfl, hw⟩
  subst w'
  have c5 := H2.out.c5
  have z5 := H2.out.frozen 32773
  go_wp2
  go_end0
  exact ⟨rfl, H2.out.set5 y, O2.out.set _ _⟩
theorem ret_val {a c : Int} (h : a = c) : Ending.returned (.int .i64 a) = .returned (.int .i64 c) := by rw [h]
theorem putHigh_is (b : Nat) (f : Nat → Int) (wr rd st lo bu : Int) (w : World) (h : HasM w b true f wr rd st lo bu) (n x y : Int) (F : Nat → Int) (hx : lo % 256 + 256 * (n % 256) = x) (hF : pokeAt f wr x = F) (hw0 : 0 ≤ wr) (hw1 : wr < 65536) (hs0 : 0 ≤ st) (hs1 : st < 65536) (hy : (wr + st) % 65536 = y) :
    Calls Tryz.prog 301 #[.pointer (some ⟨b, 0, none⟩), .bool true, .int .i64 n] w fun e w' => e = .returned (.tuple #[]) ∧ HasM w' b true F y rd st lo bu ∧ Only b w w' := by
  have c0 := h.c0
  have k1 := kept_cell h.c1 h.lt
  have k4 := kept_cell h.c4 h.lt
  have H := hide h
  have HF := hide hF
  have HX := hide hx
  have HY := hide hy
  clear h hF hx hy
  go_enter Tryz.func301, Tryz.ntmps301
  go_wp2_with (first | (go_at_call 121; refine (missing_is b true _ c0).mono ?_; rintro e w' ⟨rfl, hw⟩; subst w'))
  haveI := kept_some w
  refine wp_region_kept_shut _ _ (show _ = [_, _, _, _, _, _, _, _, _, _, _] ++ [_] from rfl) (by kernel_rfl) (by kernel_rfl) (by kernel_rfl) ?_
  repeat (go_big_quiet_step ((first | (go_at_call 107; exact kept_call ((join_any _ _ _).mono (fun _ _ hh => ⟨hh.1.trans (ret_val HX.out), hh.2⟩))))))
  refine wpQuiet_nil ?_
  rintro _ ⟨wk, rfl⟩
  clear c0 k1 k4
  go_wp2_with fail
  refine (poke_is b f _ _ _ _ _ _ (H.out.next wk.below) wr x F HF.out).mono ?_
  rintro e w2 ⟨rfl, h2, o2⟩
  have H2 := hide h2
  have O2 := hide ((Only.of (b := b) wk.below).trans o2)
  have k1 := kept_cell h2.c1 h2.lt
  have k3 := kept_cell h2.c3 h2.lt
  clear h2 o2 H
  go_wp2_with fail
  haveI := kept_some w2
  refine wp_region_kept_shut _ _ (show _ = [_, _, _, _, _, _, _, _, _, _] ++ [_] from rfl) (by kernel_rfl) (by kernel_rfl) (by kernel_rfl) ?_
  repeat (go_big_quiet_step (fail))
  refine wpQuiet_nil ?_
  rintro _ ⟨wj, rfl⟩
  clear k1 k3
  go_wp2_with fail
  refine (setWrite_is b F _ _ _ _ _ _ (H2.out.next wj.below) (wr + st) y HY.out).mono ?_
  rintro e w3 ⟨rfl, h3, o3⟩
  go_wp2_with fail
  go_end0
  exact ⟨rfl, h3, (O2.out.trans (Only.of wj.below)).trans o3⟩
theorem getLow_is (b : Nat) (f : Nat → Int) (wr rd st lo bu : Int) (w : World) (h : HasM w b true f wr rd st lo bu) : Calls Tryz.prog 148 #[.pointer (some ⟨b, 0, none⟩), .bool false] w fun e w' => e = .returned (.int .i64 (bu % 256)) ∧ w' = w := by
  have c0 := h.c0
  have c5 := h.c5
  clear h
  go_enter Tryz.func148, Tryz.ntmps148
  go_wp2_with (first | (go_at_call 121; refine (missing_is b true _ c0).mono ?_; rintro e w' ⟨rfl, hw⟩; subst w') | (go_at_call 111; refine (split_any _ _).mono ?_; rintro e w' ⟨rfl, hw⟩; subst w'))
  go_ret
  exact ⟨rfl, rfl⟩
theorem getHigh_is (b : Nat) (f : Nat → Int) (wr rd st lo bu : Int) (w : World) (h : HasM w b true f wr rd st lo bu) (x y : Int) (hr0 : 0 ≤ rd) (hr1 : rd < 65536) (hs0 : 0 ≤ st) (hs1 : st < 65536) (hx : (rd + st) % 65536 = x) (hy : wordAt f x = y) :
    Calls Tryz.prog 148 #[.pointer (some ⟨b, 0, none⟩), .bool true] w fun e w' => e = .returned (.int .i64 (bu / 256 % 256)) ∧ HasM w' b true f wr x st lo y ∧ Only b w w' := by
  have c0 := h.c0
  have c5 := h.c5
  have k2 := kept_cell h.c2 h.lt
  have k3 := kept_cell h.c3 h.lt
  have H := hide h
  have HX := hide hx
  have HY := hide hy
  clear h hx hy
  go_enter Tryz.func148, Tryz.ntmps148
  go_wp2_with (first | (go_at_call 121; refine (missing_is b true _ c0).mono ?_; rintro e w' ⟨rfl, hw⟩; subst w') | (go_at_call 111; refine (split_any _ _).mono ?_; rintro e w' ⟨rfl, hw⟩; subst w'))
  haveI := kept_some w
  refine wp_region_kept_shut _ _ (show _ = [_, _, _, _, _, _, _, _, _, _] ++ [_] from rfl) (by kernel_rfl) (by kernel_rfl) (by kernel_rfl) ?_
  repeat (go_big_quiet_step (fail))
  refine wpQuiet_nil ?_
  rintro _ ⟨wj, rfl⟩
  clear k2 k3 c0 c5
  go_wp2_with fail
  refine (setRead_is b f _ _ _ _ _ _ (H.out.next wj.below) (rd + st) x y HX.out HY.out).mono ?_
  rintro e w3 ⟨rfl, h3, o3⟩
  go_wp2_with fail
  go_ret
  exact ⟨rfl, h3, (Only.of wj.below).trans o3⟩
end Go.Proofs.YtnoggfnidaifkaaGreatDoor.W13
namespace Go.Proofs.YtnoggfnidaifkaaGreatDoor.W13
set_option maxRecDepth 20000
open Go.RowKit
theorem own : ownKnob Tryz.prog.godebug = none := by kernel_rfl
theorem and_31 (n : Int) : bits .and .i64 n 31 = n % 32 := and_mask 5 (by decide) n
end Go.Proofs.YtnoggfnidaifkaaGreatDoor.W13
namespace Go.Proofs.YtnoggfnidaifkaaGreatDoor.W13
set_option maxRecDepth 20000
open Go.RowKit
set_option linter.unusedVariables false
def HasRow (w : World) (g : Nat) (l : List Value) : Prop := w.heap[g]? = some (.cells l.toArray 3 (0, 0))
theorem HasRow.next {w w' : World} {g : Nat} {l : List Value} (h : HasRow w g l) (k : Below w.heap.size w w') : HasRow w' g l := (k.block g (lt_of_block h)).trans h
theorem HasRow.words {w : World} {g : Nat} {f : Nat → Int} (h : HasRow w g (wordsM f)) : ∀ j, j < 32768 → w.cell? ⟨g, 0 + j, none⟩ = some (.int .i64 (f j)) := by
  intro j hj
  rw [Nat.zero_add, cell_of_row w g j _ _ _ h, List.getElem?_toArray]
  exact wordsM_at f j hj
def zerosL (N : Nat) : List Value := List.replicate N (.int .i64 0)
theorem make_ints (n : Int) (h0 : 0 ≤ n) (h1 : n ≤ 65536) (w : World) :
    (Instr.makeSlice 97 (.int .i64 n) (.int .i64 n)).run Tryz.prog w = .ok (.slice (some ⟨w.heap.size, 0, none⟩) n.toNat n.toNat) (w.alloc (.cells (zerosL n.toNat).toArray 3)) := by
  obtain ⟨N, rfl⟩ : ∃ N : Nat, n = (N : Int) := ⟨n.toNat, by omega⟩
  have hb : Tryz.t3.bytes = 8 := rfl
  rw [Go.run_make w 97 3 Tryz.t3 (.int .i64 0) Tryz.underlying97 (by kernel_rfl) rfl .i64 .i64 N N (by omega) (by omega) (by rw [hb]; omega) (by omega)]
  have e1 : madeCells (Value.cells (.int .i64 0)) (N * Tryz.t3.size) = (zerosL N).toArray := by
    rw [show Tryz.t3.size = 1 from rfl, Nat.mul_one]
    apply Array.toList_inj.1
    show (madeCells #[.int .i64 0] N).toList = _
    rw [toList_madeCells_one]
    rfl
  simp only [Int.toNat_natCast, e1]
theorem add_none (b o j : Nat) : Addr.add ⟨b, o, none⟩ j = ⟨b, o + j, none⟩ := by
  unfold Addr.add
  split <;> simp_all
theorem cut_from (b : Nat) (p : Int) (h0 : 0 ≤ p) (h1 : p < 32768) (w : World) : (Instr.sliceAt 154 (.pointer (some ⟨b, 1, none⟩)) (some (.int .i64 p)) none none).run Tryz.prog w = .ok (.slice (some ⟨b, 1 + p.toNat, none⟩) (32768 - p.toNat) (32768 - p.toNat)) w := by
  have hl : Tryz.prog.arrayLen 154 = 32768 := by kernel_rfl
  have he : Tryz.prog.elem 154 = 3 := by kernel_rfl
  rw [run_sliceAt_array_l w _ _ (by rw [hl, he]; exact Tryz.underlying154) .i64 p h0 (by rw [hl]; omega), hl, he, Tryz.sizeOf3]
  simp only [Result.andThen_ok, slicedAt, Nat.mul_one]
  rw [if_neg (by omega), add_none]
theorem cut_all (b : Nat) (w : World) : (Instr.sliceAt 154 (.pointer (some ⟨b, 1, none⟩)) none none none).run Tryz.prog w = .ok (.slice (some ⟨b, 1, none⟩) 32768 32768) w := by
  have hl : Tryz.prog.arrayLen 154 = 32768 := by kernel_rfl
  have he : Tryz.prog.elem 154 = 3 := by kernel_rfl
  rw [run_sliceAt_array_all w _ _ (by rw [hl, he]; exact Tryz.underlying154), hl, he, Tryz.sizeOf3]
  simp only [Result.andThen_ok, slicedAt, Nat.mul_one]
  rw [if_neg (by omega)]
  rfl
theorem cut_row (g N : Nat) (m : Int) (h0 : 0 ≤ m) (h1 : m < N) (w : World) : (Instr.sliceAt 97 (.slice (some ⟨g, 0, none⟩) N N) (some (.int .i64 m)) none none).run Tryz.prog w = .ok (.slice (some ⟨g, m.toNat, none⟩) (N - m.toNat) (N - m.toNat)) w := by
  have he : Tryz.prog.elem 97 = 3 := by kernel_rfl
  have hu : Tryz.prog.underlying 97 = some (.slice (Tryz.prog.elem 97)) := by rw [he]; exact Tryz.underlying97
  rw [run_sliceAt_slice w _ _ _ _ _ hu, run_slice_l w _ _ _ _ hu .i64 m h0 (by omega), he, Tryz.sizeOf3]
  simp only [Result.andThen_ok, sliced, Nat.mul_one]
  rw [if_neg (by omega)]
  simp only [Option.map_some, add_none, Nat.zero_add]
def partL (f : Nat → Int) (p L : Nat) : List Value := (List.range L).map fun j => Value.int .i64 (f (p + j))
theorem partL_length (f : Nat → Int) (p L : Nat) : (partL f p L).length = L := by simp [partL]
theorem partL_one (f : Nat → Int) (p L : Nat) : ∀ v ∈ partL f p L, v.oneCell' = true := by
  intro v hv
  obtain ⟨j, _, rfl⟩ := List.mem_map.1 hv
  rfl
theorem partL_at (f : Nat → Int) (p L j : Nat) (h : j < L) : (partL f p L)[j]? = some (.int .i64 (f (p + j))) := by simp [partL, h]
theorem HasM.part {w : World} {b : Nat} {m : Bool} {f : Nat → Int} {wr rd st lo bu : Int} (h : HasM w b m f wr rd st lo bu) (p L : Nat) (hL : p + L ≤ 32768) : ∀ j v, (partL f p L)[j]? = some v → w.cell? (Addr.add ⟨b, 1 + p, none⟩ j) = some v := by
  intro j v hv
  obtain ⟨hj, _⟩ := List.getElem?_eq_some_iff.1 hv
  rw [partL_length] at hj
  rw [partL_at f p L j hj] at hv
  rw [← hv, add_none, Nat.add_assoc]
  exact h.at (p + j) (by omega)
def toldL (f : Nat → Int) (p : Int) (N : Nat) : List Value := (List.range N).map fun (j : Nat) => Value.int .i64 (wordAt f (p + (j : Int)))
theorem toldL_length (f : Nat → Int) (p : Int) (N : Nat) : (toldL f p N).length = N := by simp [toldL]
theorem toldL_at (f : Nat → Int) (p : Int) (N j : Nat) (h : j < N) : (toldL f p N)[j]? = some (.int .i64 (wordAt f (p + j))) := by simp [toldL, h]
theorem splice_at {α : Type} (L : List α) (off : Nat) (cs : List α) (h : off + cs.length ≤ L.length) (j : Nat) : (splice L off cs)[j]? = if j < off then L[j]? else if j < off + cs.length then cs[j - off]? else L[j]? := by
  unfold splice
  have h1 : (L.take off).length = off := by rw [List.length_take]; omega
  by_cases k : j < off
  · rw [if_pos k, List.getElem?_append_left (by omega), List.getElem?_take_of_lt k]
  · rw [if_neg k, List.getElem?_append_right (by omega), h1]
    by_cases k2 : j < off + cs.length
    · rw [if_pos k2, List.getElem?_append_left (by omega)]
    · rw [if_neg k2, List.getElem?_append_right (by omega), List.getElem?_drop, show off + cs.length + (j - off - cs.length) = j by omega]
theorem zerosL_at (N j : Nat) (h : j < N) : (zerosL N)[j]? = some (.int .i64 0) := by simp [zerosL, h]
theorem zerosL_length (N : Nat) : (zerosL N).length = N := by simp [zerosL]
theorem ext_at {N : Nat} {a b : List Value} (ha : a.length = N) (hb : b.length = N) (h : ∀ j, j < N → a[j]? = b[j]?) : a = b := by
  apply List.ext_getElem?
  intro j
  by_cases k : j < N
  · exact h j k
  · rw [List.getElem?_eq_none (by omega), List.getElem?_eq_none (by omega)]
theorem wordAt_in (f : Nat → Int) (n : Int) (h0 : 0 ≤ n) (h1 : n < 32768) : wordAt f n = f n.toNat := by
  unfold wordAt
  rw [show n % 65536 = n by omega, if_pos h1]
theorem wordAt_out (f : Nat → Int) (n : Int) (h : ¬ n % 65536 < 32768) : wordAt f n = 0 := by
  unfold wordAt
  rw [if_neg h]
theorem told_a (f : Nat → Int) (p : Int) (N : Nat) (h0 : 0 ≤ p) (h1 : p < 32768) (hN : p + N ≤ 65536) : splice (zerosL N) 0 (partL f p.toNat (min N (32768 - p.toNat))) = toldL f p N := by
  have hl : 0 + (partL f p.toNat (min N (32768 - p.toNat))).length ≤ (zerosL N).length := by rw [partL_length, zerosL_length]; omega
  refine ext_at (N := N) (by rw [length_splice _ _ _ hl, zerosL_length]) (toldL_length _ _ _) fun j hj => ?_
  rw [splice_at _ _ _ hl, partL_length, toldL_at f p N j hj, if_neg (by omega)]
  by_cases k : j < 32768 - p.toNat
  · rw [if_pos (by omega), show j - 0 = j from rfl, partL_at _ _ _ _ (by omega), wordAt_in f _ (by omega) (by omega), show (p + (j : Int)).toNat = p.toNat + j by omega]
  · rw [if_neg (by omega), zerosL_at N j hj, wordAt_out f _ (by omega)]
theorem told_c (f : Nat → Int) (p : Int) (N : Nat) (h0 : 32768 ≤ p) (hN : p + N ≤ 65536) : zerosL N = toldL f p N := by
  refine ext_at (zerosL_length N) (toldL_length _ _ _) fun j hj => ?_
  rw [zerosL_at N j hj, toldL_at f p N j hj, wordAt_out f _ (by omega)]
theorem told_b (f : Nat → Int) (p : Int) (N : Nat) (h0 : 0 ≤ p) (h1 : p < 32768) (hN : 65536 < p + N) (h2 : N ≤ 65536) : splice (splice (zerosL N) 0 (partL f p.toNat (min N (32768 - p.toNat)))) (65536 - p).toNat (partL f 0 (min (N - (65536 - p).toNat) 32768)) = toldL f p N := by
  have hl : 0 + (partL f p.toNat (min N (32768 - p.toNat))).length ≤ (zerosL N).length := by rw [partL_length, zerosL_length]; omega
  have hl2 : (65536 - p).toNat + (partL f 0 (min (N - (65536 - p).toNat) 32768)).length ≤ (splice (zerosL N) 0 (partL f p.toNat (min N (32768 - p.toNat)))).length := by rw [length_splice _ _ _ hl, partL_length, zerosL_length]; omega
  refine ext_at (N := N) (by rw [length_splice _ _ _ hl2, length_splice _ _ _ hl, zerosL_length]) (toldL_length _ _ _) fun j hj => ?_
  rw [splice_at _ _ _ hl2, partL_length, splice_at _ _ _ hl, partL_length, toldL_at f p N j hj]
  by_cases k : j < (65536 - p).toNat
  · rw [if_pos k, if_neg (by omega)]
    by_cases k : j < 32768 - p.toNat
    · rw [if_pos (by omega), show j - 0 = j from rfl, partL_at _ _ _ _ (by omega), wordAt_in f _ (by omega) (by omega), show (p + (j : Int)).toNat = p.toNat + j by omega]
    · rw [if_neg (by omega), zerosL_at N j hj, wordAt_out f _ (by omega)]
  · rw [if_neg k, if_pos (by omega), partL_at _ _ _ _ (by omega)]
    have e : wordAt f (p + j) = f (p + (j : Int) - 65536).toNat := by
      unfold wordAt
      rw [show (p + (j : Int)) % 65536 = p + (j : Int) - 65536 by omega, if_pos (by omega)]
    rw [e, show (p + (j : Int) - 65536).toNat = 0 + (j - (65536 - p).toNat) by omega]
theorem told_d (f : Nat → Int) (p : Int) (N : Nat) (h0 : 32768 ≤ p) (h1 : p < 65536) (hN : 65536 < p + N) (h2 : N ≤ 65536) : splice (zerosL N) (65536 - p).toNat (partL f 0 (min (N - (65536 - p).toNat) 32768)) = toldL f p N := by
  have hl2 : (65536 - p).toNat + (partL f 0 (min (N - (65536 - p).toNat) 32768)).length ≤ (zerosL N).length := by rw [partL_length, zerosL_length]; omega
  refine ext_at (N := N) (by rw [length_splice _ _ _ hl2, zerosL_length]) (toldL_length _ _ _) fun j hj => ?_
  rw [splice_at _ _ _ hl2, partL_length, toldL_at f p N j hj]
  by_cases k : j < (65536 - p).toNat
  · rw [if_pos k, zerosL_at N j hj, wordAt_out f _ (by omega)]
  · by_cases k2 : p + (j : Int) - 65536 < 32768
    · rw [if_neg k, if_pos (by omega), partL_at _ _ _ _ (by omega)]
      have e : wordAt f (p + j) = f (p + (j : Int) - 65536).toNat := by
        unfold wordAt
        rw [show (p + (j : Int)) % 65536 = p + (j : Int) - 65536 by omega, if_pos k2]
      rw [e, show (p + (j : Int) - 65536).toNat = 0 + (j - (65536 - p).toNat) by omega]
    · rw [if_neg k, if_neg (by omega), zerosL_at N j hj, wordAt_out f _ (by omega)]
end Go.Proofs.YtnoggfnidaifkaaGreatDoor.W13
namespace Go.Proofs.YtnoggfnidaifkaaGreatDoor.W13
set_option maxRecDepth 20000
open Go.RowKit
set_option linter.unusedVariables false
def OnlyE (E : Nat → Prop) (w w' : World) : Prop := w'.os = w.os ∧ w'.tape = w.tape ∧ w'.output = w.output ∧ w.heap.size ≤ w'.heap.size ∧ ∀ k, k < w.heap.size → ¬ E k → w'.heap[k]? = w.heap[k]?
theorem OnlyE.of {E : Nat → Prop} {w w' : World} (h : Below w.heap.size w w') : OnlyE E w w' := ⟨h.os, h.tape, h.output, h.size, fun k hk _ => h.block k hk⟩
theorem OnlyE.size {E : Nat → Prop} {w w' : World} (h : OnlyE E w w') : w.heap.size ≤ w'.heap.size := h.2.2.2.1
theorem OnlyE.block {E : Nat → Prop} {w w' : World} (h : OnlyE E w w') (k : Nat) (hk : k < w.heap.size) (hb : ¬ E k) : w'.heap[k]? = w.heap[k]? := h.2.2.2.2 k hk hb
theorem OnlyE.trans {E : Nat → Prop} {w1 w2 w3 : World} (h : OnlyE E w1 w2) (k : OnlyE E w2 w3) : OnlyE E w1 w3 :=
  ⟨k.1.trans h.1, k.2.1.trans h.2.1, k.2.2.1.trans h.2.2.1, Nat.le_trans h.size k.size, fun i hi hb => (k.block i (Nat.lt_of_lt_of_le hi h.size) hb).trans (h.block i hi hb)⟩
theorem OnlyE.obj {E : Nat → Prop} {c : Nat} {w w' : World} {o : Obj} (h : OnlyE E w w') (k : w.heap[c]? = some o) (hc : ¬ E c) : w'.heap[c]? = some o := (h.block c (lt_of_block k) hc).trans k
theorem OnlyE.setRow {E : Nat → Prop} {w w' : World} (h : OnlyE E w w') (g : Nat) (hg : w.heap.size ≤ g) (cs : Array Value) : OnlyE E w (w'.setRow g cs) :=
  ⟨h.1, h.2.1, h.2.2.1, by have := h.size; simp [World.setRow]; omega, fun i hi hb => (setRow_other w' g i cs (by omega)).trans (h.block i hi hb)⟩
theorem OnlyE.set {E : Nat → Prop} {w w' : World} (h : OnlyE E w w') (b o : Nat) (v : Value) (hb : E b) : OnlyE E w (w'.setCell ⟨b, o, none⟩ v) :=
  ⟨h.1, h.2.1, h.2.2.1, by have := h.size; simpa [World.setCell] using this, fun k hk hE => (Below.heap_setCell _ _ _ _ fun e => hE (by rw [e]; exact hb)).trans (h.block k hk hE)⟩
theorem OnlyE.drew {E : Nat → Prop} {w w' : World} (h : OnlyE E w w') : OnlyE E w w'.drew := h
theorem OnlyE.below {E : Nat → Prop} {B : Nat} {w w' : World} (h : OnlyE E w w') (hE : ∀ k, E k → B ≤ k) (hB : B ≤ w.heap.size) : Below B w w' :=
  ⟨h.1, h.2.1, h.2.2.1, h.size, fun k hk => h.block k (Nat.lt_of_lt_of_le hk hB) fun e => by have := hE k e; omega⟩
end Go.Proofs.YtnoggfnidaifkaaGreatDoor.W13
namespace Go.Proofs.YtnoggfnidaifkaaGreatDoor.W13
set_option maxRecDepth 20000
open Go.RowKit
set_option linter.unusedVariables false
def rowR (d : Nat) (wr rd st lo bu : Int) : Array Value := #[.slice (some ⟨d, 0, none⟩) 32768 32768, .int .i64 wr, .int .i64 rd, .int .i64 st, .int .i64 lo, .int .i64 bu]
def HasR (w : World) (c d : Nat) (f : Nat → Int) (wr rd st lo bu : Int) : Prop := w.heap[c]? = some (.cells (rowR d wr rd st lo bu) 185 (0, 0)) ∧ HasRow w d (wordsM f) ∧ c ≠ d
def Only2 (c d : Nat) (w w' : World) : Prop := w'.os = w.os ∧ w'.tape = w.tape ∧ w'.output = w.output ∧ w.heap.size ≤ w'.heap.size ∧ ∀ k, k < w.heap.size → k ≠ c → k ≠ d → w'.heap[k]? = w.heap[k]?
theorem Only2.of {c d : Nat} {w w' : World} (h : Below w.heap.size w w') : Only2 c d w w' := ⟨h.os, h.tape, h.output, h.size, fun k hk _ _ => h.block k hk⟩
theorem Only2.refl (c d : Nat) (w : World) : Only2 c d w w := Only2.of (Below.refl _ _)
theorem Only2.size {c d : Nat} {w w' : World} (h : Only2 c d w w') : w.heap.size ≤ w'.heap.size := h.2.2.2.1
theorem Only2.block {c d : Nat} {w w' : World} (h : Only2 c d w w') (k : Nat) (hk : k < w.heap.size) (hc : k ≠ c) (hd : k ≠ d) : w'.heap[k]? = w.heap[k]? := h.2.2.2.2 k hk hc hd
theorem Only2.trans {c d : Nat} {w1 w2 w3 : World} (h : Only2 c d w1 w2) (k : Only2 c d w2 w3) : Only2 c d w1 w3 :=
  ⟨k.1.trans h.1, k.2.1.trans h.2.1, k.2.2.1.trans h.2.2.1, Nat.le_trans h.size k.size, fun i hi hc hd => (k.block i (Nat.lt_of_lt_of_le hi h.size) hc hd).trans (h.block i hi hc hd)⟩
theorem Only2.below {c d B : Nat} {w w' : World} (h : Only2 c d w w') (hc : B ≤ c) (hd : B ≤ d) (hB : B ≤ w.heap.size) : Below B w w' :=
  ⟨h.1, h.2.1, h.2.2.1, h.size, fun k hk => h.block k (by omega) (by omega) (by omega)⟩
theorem Only2.obj {c d k : Nat} {w w' : World} {o : Obj} (h : Only2 c d w w') (hk : w.heap[k]? = some o) (hc : k ≠ c) (hd : k ≠ d) : w'.heap[k]? = some o := (h.block k (lt_of_block hk) hc hd).trans hk
theorem HasR.c0 {w : World} {c d : Nat} {f : Nat → Int} {wr rd st lo bu : Int} (h : HasR w c d f wr rd st lo bu) : w.cell? ⟨c, 0, none⟩ = some (.slice (some ⟨d, 0, none⟩) 32768 32768) := (cell_of_row w c 0 _ _ _ h.1).trans rfl
theorem HasR.c1 {w : World} {c d : Nat} {f : Nat → Int} {wr rd st lo bu : Int} (h : HasR w c d f wr rd st lo bu) : w.cell? ⟨c, 1, none⟩ = some (.int .i64 wr) := (cell_of_row w c 1 _ _ _ h.1).trans rfl
theorem HasR.c2 {w : World} {c d : Nat} {f : Nat → Int} {wr rd st lo bu : Int} (h : HasR w c d f wr rd st lo bu) : w.cell? ⟨c, 2, none⟩ = some (.int .i64 rd) := (cell_of_row w c 2 _ _ _ h.1).trans rfl
theorem HasR.c3 {w : World} {c d : Nat} {f : Nat → Int} {wr rd st lo bu : Int} (h : HasR w c d f wr rd st lo bu) : w.cell? ⟨c, 3, none⟩ = some (.int .i64 st) := (cell_of_row w c 3 _ _ _ h.1).trans rfl
theorem HasR.c4 {w : World} {c d : Nat} {f : Nat → Int} {wr rd st lo bu : Int} (h : HasR w c d f wr rd st lo bu) : w.cell? ⟨c, 4, none⟩ = some (.int .i64 lo) := (cell_of_row w c 4 _ _ _ h.1).trans rfl
theorem HasR.c5 {w : World} {c d : Nat} {f : Nat → Int} {wr rd st lo bu : Int} (h : HasR w c d f wr rd st lo bu) : w.cell? ⟨c, 5, none⟩ = some (.int .i64 bu) := (cell_of_row w c 5 _ _ _ h.1).trans rfl
theorem HasR.at {w : World} {c d : Nat} {f : Nat → Int} {wr rd st lo bu : Int} (h : HasR w c d f wr rd st lo bu) (j : Nat) (hj : j < 32768) : w.cell? ⟨d, j, none⟩ = some (.int .i64 (f j)) := by
  have k := h.2.1.words j hj
  rw [Nat.zero_add] at k
  exact k
theorem HasR.frozen {w : World} {c d : Nat} {f : Nat → Int} {wr rd st lo bu : Int} (h : HasR w c d f wr rd st lo bu) (j : Nat) : w.frozen? ⟨c, j, none⟩ = false := frozen_of_row w c j _ _ h.1
theorem HasR.lt {w : World} {c d : Nat} {f : Nat → Int} {wr rd st lo bu : Int} (h : HasR w c d f wr rd st lo bu) : c < w.heap.size := lt_of_block h.1
theorem HasR.next {w : World} {c d : Nat} {f : Nat → Int} {wr rd st lo bu : Int} (h : HasR w c d f wr rd st lo bu) {w' : World} (k : Below w.heap.size w w') : HasR w' c d f wr rd st lo bu := ⟨(k.block c (lt_of_block h.1)).trans h.1, h.2.1.next k, h.2.2⟩
theorem HasR.only {w : World} {c d : Nat} {f : Nat → Int} {wr rd st lo bu : Int} (h : HasR w c d f wr rd st lo bu) {w' : World} {b : Nat} (k : Only b w w') (hc : c ≠ b) (hd : d ≠ b) : HasR w' c d f wr rd st lo bu := ⟨k.obj h.1 hc, k.obj h.2.1 hd, h.2.2⟩
theorem HasR.set1 {w : World} {c d : Nat} {f : Nat → Int} {wr rd st lo bu : Int} (h : HasR w c d f wr rd st lo bu) (x : Int) : HasR (w.setCell ⟨c, 1, none⟩ (.int .i64 x)) c d f x rd st lo bu := ⟨heap_setCell_same w c 1 _ _ _ h.1, (Below.heap_setCell _ _ _ _ (fun e => h.2.2 e.symm)).trans h.2.1, h.2.2⟩
theorem HasR.set2 {w : World} {c d : Nat} {f : Nat → Int} {wr rd st lo bu : Int} (h : HasR w c d f wr rd st lo bu) (x : Int) : HasR (w.setCell ⟨c, 2, none⟩ (.int .i64 x)) c d f wr x st lo bu := ⟨heap_setCell_same w c 2 _ _ _ h.1, (Below.heap_setCell _ _ _ _ (fun e => h.2.2 e.symm)).trans h.2.1, h.2.2⟩
theorem HasR.set5 {w : World} {c d : Nat} {f : Nat → Int} {wr rd st lo bu : Int} (h : HasR w c d f wr rd st lo bu) (x : Int) : HasR (w.setCell ⟨c, 5, none⟩ (.int .i64 x)) c d f wr rd st lo x := ⟨heap_setCell_same w c 5 _ _ _ h.1, (Below.heap_setCell _ _ _ _ (fun e => h.2.2 e.symm)).trans h.2.1, h.2.2⟩
theorem HasRow.set {w : World} {g : Nat} {f : Nat → Int} (h : HasRow w g (wordsM f)) (i : Nat) (x : Int) : HasRow (w.setCell ⟨g, i, none⟩ (.int .i64 x)) g (wordsM (upd f i x)) := by
  have k := heap_setCell_same w g i _ _ (.int .i64 x) h
  rw [List.setIfInBounds_toArray, wordsM_set] at k
  exact k
theorem HasR.set {w : World} {c d : Nat} {f : Nat → Int} {wr rd st lo bu : Int} (h : HasR w c d f wr rd st lo bu) (i : Nat) (x : Int) : HasR (w.setCell ⟨d, i, none⟩ (.int .i64 x)) c d (upd f i x) wr rd st lo bu := ⟨(Below.heap_setCell _ _ _ _ h.2.2).trans h.1, h.2.1.set i x, h.2.2⟩
theorem zeros_words : zerosL 32768 = wordsM (fun _ => 0) := by
  unfold zerosL wordsM
  rw [List.map_const', List.length_range]
theorem rnew_any (w : World) : Calls Tryz.prog 45 #[] w fun e w' => e = .returned (.pointer (some ⟨w.heap.size + 1, 0, none⟩)) ∧ HasR w' (w.heap.size + 1) w.heap.size (fun _ => 0) 0 0 1 0 0 ∧ Below w.heap.size w w' := by
  have hm := make_ints 32768 (by omega) (by omega)
  rw [show (32768 : Int).toNat = 32768 from rfl] at hm
  obtain ⟨Z, hZ⟩ : ∃ Z, zerosL 32768 = Z := ⟨_, rfl⟩
  rw [hZ] at hm
  have HZ := hide hZ
  clear hZ
  go_enter Tryz.func45, Tryz.ntmps45
  go_wp2
  go_ret
  refine ⟨rfl, ⟨heap_alloc2_new _ _ _, ?_, by omega⟩, ((Below.refl _ w).alloc (Nat.le_refl _) _).alloc (by simp) _⟩
  rw [← zeros_words, HZ.out]
  exact (Below.heap_alloc _ _ _ (by simp)).trans (heap_alloc_new _ _)
end Go.Proofs.YtnoggfnidaifkaaGreatDoor.W13
