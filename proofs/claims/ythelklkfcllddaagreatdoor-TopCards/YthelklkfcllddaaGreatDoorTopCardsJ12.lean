/- Texts without a word of the program, one behind the other. -/
import Derived.Test.YthelklkfcllddaaGreatDoorTopCardsJ09
import Derived.Laws.Rows
import Derived.Laws.Tables
import Derived.Laws.CopyOwn
import Derived.WalkMore
import Derived.OneCell
import Derived.Handy
import Derived.Deep.RegionWith
import Derived.Laws.MakeOwn
import Derived.Laws.OwnMore
namespace Go.Proofs.YthelklkfcllddaaGreatDoor.W13
set_option maxRecDepth 20000
open Go.RowKit
set_option linter.unusedVariables false
def tailM (wr rd st lo bu : Int) : List Value := [.int .i64 wr, .int .i64 rd, .int .i64 st, .int .i64 lo, .int .i64 bu]
def wordsM (f : Nat → Int) : List Value := (List.range 32768).map fun j => Value.int .i64 (f j)
def rowM (m : Bool) (f : Nat → Int) (wr rd st lo bu : Int) : Array Value := (.bool m :: (wordsM f ++ tailM wr rd st lo bu)).toArray
theorem wordsM_length (f : Nat → Int) : (wordsM f).length = 32768 := by simp [wordsM]
theorem rowM_size (m : Bool) (f : Nat → Int) (wr rd st lo bu : Int) : (rowM m f wr rd st lo bu).size = 32774 := by simp [rowM, wordsM_length, tailM]
theorem wordsM_at (f : Nat → Int) (j : Nat) (h : j < 32768) : (wordsM f)[j]? = some (.int .i64 (f j)) := by simp [wordsM, h]
theorem rowM_0 (m : Bool) (f : Nat → Int) (wr rd st lo bu : Int) : (rowM m f wr rd st lo bu)[0]? = some (.bool m) := by simp [rowM]
theorem rowM_at (m : Bool) (f : Nat → Int) (wr rd st lo bu : Int) (j : Nat) (h : j < 32768) : (rowM m f wr rd st lo bu)[1 + j]? = some (.int .i64 (f j)) := by
  unfold rowM
  rw [show 1 + j = j + 1 by omega, List.getElem?_toArray, List.getElem?_cons_succ, List.getElem?_append_left (by rw [wordsM_length]; exact h)]
  exact wordsM_at f j h
theorem rowM_tail (m : Bool) (f : Nat → Int) (wr rd st lo bu : Int) (j : Nat) : (rowM m f wr rd st lo bu)[32769 + j]? = (tailM wr rd st lo bu)[j]? := by
  unfold rowM
  rw [show 32769 + j = (32768 + j) + 1 by omega, List.getElem?_toArray, List.getElem?_cons_succ, List.getElem?_append_right (by rw [wordsM_length]; omega), wordsM_length, show 32768 + j - 32768 = j by omega]
def upd (f : Nat → Int) (i : Nat) (v : Int) : Nat → Int := fun j => if j = i then v else f j
theorem wordsM_set (i : Nat) (x : Int) (f : Nat → Int) : (wordsM f).set i (.int .i64 x) = wordsM (upd f i x) := by
  unfold wordsM
  apply List.ext_getElem?
  intro j
  rw [List.getElem?_set]
  simp only [List.getElem?_map, List.length_map, List.length_range]
  by_cases h : i = j
  · subst h
    by_cases k : i < 32768
    · simp [k, upd]
    · simp [k]
  · rw [if_neg h]
    by_cases k : j < 32768
    · simp [k, upd, show ¬ j = i from fun e => h e.symm]
    · simp [k]
theorem rowM_set (m : Bool) (f : Nat → Int) (wr rd st lo bu x : Int) (i : Nat) (h : i < 32768) : (rowM m f wr rd st lo bu).setIfInBounds (1 + i) (.int .i64 x) = rowM m (upd f i x) wr rd st lo bu := by
  unfold rowM
  rw [List.setIfInBounds_toArray, show 1 + i = i + 1 by omega, List.set_cons_succ, List.set_append_left _ _ (by rw [wordsM_length]; exact h), wordsM_set]
theorem rowM_setTail (m : Bool) (f : Nat → Int) (wr rd st lo bu x : Int) (i : Nat) : (rowM m f wr rd st lo bu).setIfInBounds (32769 + i) (.int .i64 x) = (.bool m :: (wordsM f ++ (tailM wr rd st lo bu).set i (.int .i64 x))).toArray := by
  unfold rowM
  rw [List.setIfInBounds_toArray, show 32769 + i = (32768 + i) + 1 by omega, List.set_cons_succ, List.set_append_right _ _ (by rw [wordsM_length]; omega), wordsM_length, show 32768 + i - 32768 = i by omega]
theorem rowM_setMade (m q : Bool) (f : Nat → Int) (wr rd st lo bu : Int) : (rowM m f wr rd st lo bu).setIfInBounds 0 (.bool q) = rowM q f wr rd st lo bu := by
  unfold rowM
  rw [List.setIfInBounds_toArray, List.set_cons_zero]
def HasM (w : World) (b : Nat) (m : Bool) (f : Nat → Int) (wr rd st lo bu : Int) : Prop := w.heap[b]? = some (.cells (rowM m f wr rd st lo bu) 120 (0, 0))
theorem HasM.lt {w : World} {b : Nat} {m : Bool} {f : Nat → Int} {wr rd st lo bu : Int} (h : HasM w b m f wr rd st lo bu) : b < w.heap.size := lt_of_block h
theorem HasM.c0 {w : World} {b : Nat} {m : Bool} {f : Nat → Int} {wr rd st lo bu : Int} (h : HasM w b m f wr rd st lo bu) : w.cell? ⟨b, 0, none⟩ = some (.bool m) := (cell_of_row w b 0 _ _ _ h).trans (rowM_0 _ _ _ _ _ _ _)
theorem HasM.at {w : World} {b : Nat} {m : Bool} {f : Nat → Int} {wr rd st lo bu : Int} (h : HasM w b m f wr rd st lo bu) (j : Nat) (hj : j < 32768) : w.cell? ⟨b, 1 + j, none⟩ = some (.int .i64 (f j)) := (cell_of_row w b (1 + j) _ _ _ h).trans (rowM_at _ _ _ _ _ _ _ j hj)
theorem HasM.c1 {w : World} {b : Nat} {m : Bool} {f : Nat → Int} {wr rd st lo bu : Int} (h : HasM w b m f wr rd st lo bu) : w.cell? ⟨b, 32769, none⟩ = some (.int .i64 wr) := (cell_of_row w b 32769 _ _ _ h).trans (rowM_tail m f wr rd st lo bu 0)
theorem HasM.c2 {w : World} {b : Nat} {m : Bool} {f : Nat → Int} {wr rd st lo bu : Int} (h : HasM w b m f wr rd st lo bu) : w.cell? ⟨b, 32770, none⟩ = some (.int .i64 rd) := (cell_of_row w b 32770 _ _ _ h).trans (rowM_tail m f wr rd st lo bu 1)
theorem HasM.c3 {w : World} {b : Nat} {m : Bool} {f : Nat → Int} {wr rd st lo bu : Int} (h : HasM w b m f wr rd st lo bu) : w.cell? ⟨b, 32771, none⟩ = some (.int .i64 st) := (cell_of_row w b 32771 _ _ _ h).trans (rowM_tail m f wr rd st lo bu 2)
theorem HasM.c4 {w : World} {b : Nat} {m : Bool} {f : Nat → Int} {wr rd st lo bu : Int} (h : HasM w b m f wr rd st lo bu) : w.cell? ⟨b, 32772, none⟩ = some (.int .i64 lo) := (cell_of_row w b 32772 _ _ _ h).trans (rowM_tail m f wr rd st lo bu 3)
theorem HasM.c5 {w : World} {b : Nat} {m : Bool} {f : Nat → Int} {wr rd st lo bu : Int} (h : HasM w b m f wr rd st lo bu) : w.cell? ⟨b, 32773, none⟩ = some (.int .i64 bu) := (cell_of_row w b 32773 _ _ _ h).trans (rowM_tail m f wr rd st lo bu 4)
theorem HasM.frozen {w : World} {b : Nat} {m : Bool} {f : Nat → Int} {wr rd st lo bu : Int} (h : HasM w b m f wr rd st lo bu) (j : Nat) : w.frozen? ⟨b, j, none⟩ = false := frozen_of_row w b j _ _ h
theorem HasM.set {w : World} {b : Nat} {m : Bool} {f : Nat → Int} {wr rd st lo bu : Int} (h : HasM w b m f wr rd st lo bu) (i : Nat) (hi : i < 32768) (x : Int) : HasM (w.setCell ⟨b, 1 + i, none⟩ (.int .i64 x)) b m (upd f i x) wr rd st lo bu := by
  have k := heap_setCell_same w b (1 + i) _ _ (.int .i64 x) h
  rw [rowM_set _ _ _ _ _ _ _ _ _ hi] at k
  exact k
theorem HasM.next {w : World} {b : Nat} {m : Bool} {f : Nat → Int} {wr rd st lo bu : Int} (h : HasM w b m f wr rd st lo bu) {w' : World} (k : Below w.heap.size w w') : HasM w' b m f wr rd st lo bu := (k.block b (lt_of_block h)).trans h
theorem hasM_new (w : World) (m : Bool) (f : Nat → Int) (wr rd st lo bu : Int) : HasM (w.alloc (.cells (rowM m f wr rd st lo bu) 120)) w.heap.size m f wr rd st lo bu := heap_alloc_new _ _
def Only (b : Nat) (w w' : World) : Prop := w'.os = w.os ∧ w'.tape = w.tape ∧ w'.output = w.output ∧ w.heap.size ≤ w'.heap.size ∧ ∀ k, k < w.heap.size → k ≠ b → w'.heap[k]? = w.heap[k]?
theorem Only.of {b : Nat} {w w' : World} (h : Below w.heap.size w w') : Only b w w' := ⟨h.os, h.tape, h.output, h.size, fun k hk _ => h.block k hk⟩
theorem Only.refl (b : Nat) (w : World) : Only b w w := Only.of (Below.refl _ _)
theorem Only.size {b : Nat} {w w' : World} (h : Only b w w') : w.heap.size ≤ w'.heap.size := h.2.2.2.1
theorem Only.block {b : Nat} {w w' : World} (h : Only b w w') (k : Nat) (hk : k < w.heap.size) (hb : k ≠ b) : w'.heap[k]? = w.heap[k]? := h.2.2.2.2 k hk hb
theorem Only.trans {b : Nat} {w1 w2 w3 : World} (h : Only b w1 w2) (k : Only b w2 w3) : Only b w1 w3 :=
  ⟨k.1.trans h.1, k.2.1.trans h.2.1, k.2.2.1.trans h.2.2.1, Nat.le_trans h.size k.size, fun i hi hb => (k.block i (Nat.lt_of_lt_of_le hi h.size) hb).trans (h.block i hi hb)⟩
theorem Only.set {b : Nat} {w w' : World} (h : Only b w w') (o : Nat) (v : Value) : Only b w (w'.setCell ⟨b, o, none⟩ v) :=
  h.trans ⟨rfl, rfl, rfl, by simp [World.setCell], fun k _ hk => Below.heap_setCell _ _ _ _ hk⟩
theorem Only.below {b B : Nat} {w w' : World} (h : Only b w w') (hb : B ≤ b) (hB : B ≤ w.heap.size) : Below B w w' :=
  ⟨h.1, h.2.1, h.2.2.1, h.size, fun k hk => h.block k (by omega) (by omega)⟩
theorem Only.obj {b c : Nat} {w w' : World} {o : Obj} (h : Only b w w') (k : w.heap[c]? = some o) (hc : c ≠ b) : w'.heap[c]? = some o := (h.block c (lt_of_block k) hc).trans k
theorem Only.drewN {b : Nat} {w w' : World} (h : Only b w w') (n : Nat) : Only b w (w'.drewN n) := h.trans ⟨rfl, rfl, rfl, Nat.le_refl _, fun _ _ _ => rfl⟩
def isZ : Value → Bool | .int .i64 0 => true | _ => false
def allZ : Nat → List Value → Bool
  | 0, [] => true
  | n + 1, x :: xs => isZ x && allZ n xs
  | _, _ => false
def isZeroM : Option Value → Bool | some (.agg ⟨.bool false :: xs⟩) => allZ 32773 xs | _ => false
theorem isZ_eq {v : Value} (h : isZ v = true) : v = .int .i64 0 := by
  unfold isZ at h
  split at h
  · rfl
  · cases h
theorem allZ_eq : ∀ (n : Nat) (l : List Value), allZ n l = true → l = List.replicate n (.int .i64 0)
  | 0, [], _ => rfl
  | 0, x :: xs, h => by simp [allZ] at h
  | n + 1, [], h => by simp [allZ] at h
  | n + 1, x :: xs, h => by
    simp only [allZ, Bool.and_eq_true] at h
    rw [isZ_eq h.1, allZ_eq n xs h.2, List.replicate_succ]
def zeroC : Array Value := rowM false (fun _ => 0) 0 0 0 0 0
theorem zero_list : wordsM (fun _ => 0) ++ tailM 0 0 0 0 0 = List.replicate 32773 (.int .i64 0) := by
  have e : wordsM (fun _ => 0) = List.replicate 32768 (.int .i64 0) := by
    unfold wordsM
    rw [List.map_const', List.length_range]
  rw [e, show tailM 0 0 0 0 0 = List.replicate 5 (.int .i64 0) from rfl, List.replicate_append_replicate]
theorem isZeroM_eq {v : Option Value} (h : isZeroM v = true) : v = some (.agg zeroC) := by
  unfold isZeroM at h
  split at h
  · rename_i xs
    have k := allZ_eq _ _ h
    subst k
    unfold zeroC rowM
    rw [zero_list]
  · cases h
theorem zero_is : Tryz.t120.zero = some (.agg zeroC) := isZeroM_eq (by kernel_rfl)
theorem zero_M : zeroC = rowM false (fun _ => 0) 0 0 0 0 0 := rfl
set_option maxRecDepth 100000 in
theorem built_of (parts : List (Nat × Value)) : Tryz.prog.built 120 parts = Instr.fill (fun i => #[(0, 1), (1, 32768), (32769, 1), (32770, 1), (32771, 1), (32772, 1), (32773, 1)][i]?) zeroC parts := by
  have h1 : Tryz.prog.info? 120 = some Tryz.t120 := by kernel_rfl
  unfold Program.built
  simp only [h1, Tryz.underlying120, zero_is]
  rfl
theorem fill_one {place : Nat → Option (Nat × Nat)} {cells : Array Value} {i off : Nat} {v : Value} {rest : List (Nat × Value)} (hp : place i = some (off, 1)) (hv : v.cells = #[v]) (ho : off + 1 ≤ cells.size) :
    Instr.fill place cells ((i, v) :: rest) = Instr.fill place (cells.setIfInBounds off v) rest := by
  have hn : ¬ off + 1 > cells.size := by omega
  rw [Instr.fill, hp]
  simp only [hv, List.size_toArray, List.length_cons, List.length_nil]
  rw [if_neg (by simp; omega)]
  rfl
theorem run_new (w : World) : (Instr.build 120 #[(0, .bool true), (4, .int .i64 1)]).run Tryz.prog w = .ok (.agg (rowM true (fun _ => 0) 0 0 1 0 0)) w := by
  refine run_build w _ _ _ ?_
  rw [built_of, zero_M, fill_one (off := 0) rfl rfl (by rw [rowM_size]; omega), rowM_setMade, fill_one (off := 32771) rfl rfl (by rw [rowM_size]; omega), rowM_setTail _ _ _ _ _ _ _ _ 2]
  rfl
theorem wpList_built {P : Program} {ops : Array Oper} {rest : List Oper} {o : Oper} {a : Act} {w : World} {Q : Exit → Act → World → Prop} (hg : o.guard = none) (t : TypeId) (parts : Array (Nat × Operand)) (ho : o.op = .build t parts)
    (vals : Array (Nat × Value)) (hp : (parts.map fun (i, x) => (i, a.eval x)) = vals) (R : Array Value) (h : ∀ w, (Instr.build t vals).run P w = .ok (.agg R) w) (hK : wpList P ops Q rest (a.put o.dst (.agg R)) w) : wpList P ops Q (o :: rest) a w :=
  wpList_plain hg fun K hK' => by
    unfold Oper.wp execOp
    simp only [ho, hp, Sem.run_bind, h, Result.andThen_ok]
    exact hK' _ _ hK
end Go.Proofs.YthelklkfcllddaaGreatDoor.W13
namespace Go.Proofs.YthelklkfcllddaaGreatDoor.W13
set_option maxRecDepth 20000
open Go.RowKit
set_option linter.unusedVariables false
theorem new_any (w : World) : Calls Tryz.prog 17 #[] w fun e w' => e = .returned (.pointer (some ⟨w.heap.size, 0, none⟩)) ∧ HasM w' w.heap.size true (fun _ => 0) 0 0 1 0 0 ∧ Below w.heap.size w w' := by
  go_enter Tryz.func17, Tryz.ntmps17
  go_wp2_with (first | (refine wpList_built rfl 120 _ rfl #[(0, .bool true), (4, .int .i64 1)] (by simp [Act.eval]) _ run_new ?_))
  go_ret
  exact ⟨rfl, hasM_new _ _ _ _ _ _ _ _, (Below.refl _ w).alloc (Nat.le_refl _) _⟩
theorem missing_is (b : Nat) (m : Bool) (w : World) (c0 : w.cell? ⟨b, 0, none⟩ = some (.bool m)) : Calls Tryz.prog 78 #[.pointer (some ⟨b, 0, none⟩)] w fun e w' => e = .returned (.bool (!m)) ∧ w' = w := by
  go_enter Tryz.func78, Tryz.ntmps78
  go_wp2
  go_ret
  exact ⟨rfl, rfl⟩
theorem results_five {fn : Func} {a b c d e : Tmp} (h : fn.results = #[.tmp a, .tmp b, .tmp c, .tmp d, .tmp e]) (tmps : Array Value) (P : Program) (w : World) :
    (results fn tmps).run P w = .ok (.tuple #[tmps.getD a undef, tmps.getD b undef, tmps.getD c undef, tmps.getD d undef, tmps.getD e undef]) w := by
  simp [results, h]
theorem ports_is (b : Nat) (f : Nat → Int) (wr rd st lo bu : Int) (w : World) (h : HasM w b true f wr rd st lo bu) : Calls Tryz.prog 76 #[.pointer (some ⟨b, 0, none⟩)] w fun e w' => e = .returned (.tuple #[.int .i64 wr, .int .i64 rd, .int .i64 st, .int .i64 lo, .int .i64 bu]) ∧ Below w.heap.size w w' := by
  have c0 := h.c0
  have k1 := kept_cell h.c1 h.lt
  have k2 := kept_cell h.c2 h.lt
  have k3 := kept_cell h.c3 h.lt
  have k4 := kept_cell h.c4 h.lt
  have k5 := kept_cell h.c5 h.lt
  clear h
  go_enter Tryz.func76, Tryz.ntmps76
  go_wp2_with (first | (go_at_call 78; refine (missing_is b true _ c0).mono ?_; rintro e w' ⟨rfl, hw⟩; subst w'))
  haveI := kept_some w
  refine wp_region_kept (by kernel_rfl) (by kernel_rfl) ?_
  repeat (go_big_quiet_step (fail))
  refine wpQuiet_nil ?_
  rintro _ ⟨wk, rfl⟩
  go_wp2
  refine bodyPost_ret (results_five rfl _ _ _) rfl ?_
  exact ⟨rfl, wk.below⟩
end Go.Proofs.YthelklkfcllddaaGreatDoor.W13
namespace Go.Proofs.YthelklkfcllddaaGreatDoor.W13
set_option maxRecDepth 20000
open Go.RowKit
set_option linter.unusedVariables false
end Go.Proofs.YthelklkfcllddaaGreatDoor.W13
namespace Go.Proofs.YthelklkfcllddaaGreatDoor.W13
set_option maxRecDepth 20000
open Go.RowKit
theorem own : ownKnob Tryz.prog.godebug = none := by kernel_rfl
end Go.Proofs.YthelklkfcllddaaGreatDoor.W13
namespace Go.Proofs.YthelklkfcllddaaGreatDoor.W13
set_option maxRecDepth 20000
open Go.RowKit
set_option linter.unusedVariables false
def HasRow (w : World) (g : Nat) (l : List Value) : Prop := w.heap[g]? = some (.cells l.toArray 3 (0, 0))
theorem HasRow.next {w w' : World} {g : Nat} {l : List Value} (h : HasRow w g l) (k : Below w.heap.size w w') : HasRow w' g l := (k.block g (lt_of_block h)).trans h
end Go.Proofs.YthelklkfcllddaaGreatDoor.W13
namespace Go.Proofs.YthelklkfcllddaaGreatDoor.W13
set_option maxRecDepth 20000
open Go.RowKit
set_option linter.unusedVariables false
def OnlyE (E : Nat → Prop) (w w' : World) : Prop := w'.os = w.os ∧ w'.tape = w.tape ∧ w'.output = w.output ∧ w.heap.size ≤ w'.heap.size ∧ ∀ k, k < w.heap.size → ¬ E k → w'.heap[k]? = w.heap[k]?
theorem OnlyE.of {E : Nat → Prop} {w w' : World} (h : Below w.heap.size w w') : OnlyE E w w' := ⟨h.os, h.tape, h.output, h.size, fun k hk _ => h.block k hk⟩
theorem OnlyE.size {E : Nat → Prop} {w w' : World} (h : OnlyE E w w') : w.heap.size ≤ w'.heap.size := h.2.2.2.1
theorem OnlyE.block {E : Nat → Prop} {w w' : World} (h : OnlyE E w w') (k : Nat) (hk : k < w.heap.size) (hb : ¬ E k) : w'.heap[k]? = w.heap[k]? := h.2.2.2.2 k hk hb
theorem OnlyE.trans {E : Nat → Prop} {w1 w2 w3 : World} (h : OnlyE E w1 w2) (k : OnlyE E w2 w3) : OnlyE E w1 w3 :=
  ⟨k.1.trans h.1, k.2.1.trans h.2.1, k.2.2.1.trans h.2.2.1, Nat.le_trans h.size k.size, fun i hi hb => (k.block i (Nat.lt_of_lt_of_le hi h.size) hb).trans (h.block i hi hb)⟩
theorem OnlyE.obj {E : Nat → Prop} {c : Nat} {w w' : World} {o : Obj} (h : OnlyE E w w') (k : w.heap[c]? = some o) (hc : ¬ E c) : w'.heap[c]? = some o := (h.block c (lt_of_block k) hc).trans k
theorem OnlyE.setRow {E : Nat → Prop} {w w' : World} (h : OnlyE E w w') (g : Nat) (hg : w.heap.size ≤ g) (cs : Array Value) : OnlyE E w (w'.setRow g cs) :=
  ⟨h.1, h.2.1, h.2.2.1, by have := h.size; simp [World.setRow]; omega, fun i hi hb => (setRow_other w' g i cs (by omega)).trans (h.block i hi hb)⟩
theorem OnlyE.set {E : Nat → Prop} {w w' : World} (h : OnlyE E w w') (b o : Nat) (v : Value) (hb : E b) : OnlyE E w (w'.setCell ⟨b, o, none⟩ v) :=
  ⟨h.1, h.2.1, h.2.2.1, by have := h.size; simpa [World.setCell] using this, fun k hk hE => (Below.heap_setCell _ _ _ _ fun e => hE (by rw [e]; exact hb)).trans (h.block k hk hE)⟩
theorem OnlyE.drew {E : Nat → Prop} {w w' : World} (h : OnlyE E w w') : OnlyE E w w'.drew := h
theorem OnlyE.below {E : Nat → Prop} {B : Nat} {w w' : World} (h : OnlyE E w w') (hE : ∀ k, E k → B ≤ k) (hB : B ≤ w.heap.size) : Below B w w' :=
  ⟨h.1, h.2.1, h.2.2.1, h.size, fun k hk => h.block k (Nat.lt_of_lt_of_le hk hB) fun e => by have := hE k e; omega⟩
end Go.Proofs.YthelklkfcllddaaGreatDoor.W13
namespace Go.Proofs.YthelklkfcllddaaGreatDoor.W13
set_option maxRecDepth 20000
open Go.RowKit
set_option linter.unusedVariables false
def Only2 (c d : Nat) (w w' : World) : Prop := w'.os = w.os ∧ w'.tape = w.tape ∧ w'.output = w.output ∧ w.heap.size ≤ w'.heap.size ∧ ∀ k, k < w.heap.size → k ≠ c → k ≠ d → w'.heap[k]? = w.heap[k]?
theorem Only2.of {c d : Nat} {w w' : World} (h : Below w.heap.size w w') : Only2 c d w w' := ⟨h.os, h.tape, h.output, h.size, fun k hk _ _ => h.block k hk⟩
theorem Only2.refl (c d : Nat) (w : World) : Only2 c d w w := Only2.of (Below.refl _ _)
theorem Only2.size {c d : Nat} {w w' : World} (h : Only2 c d w w') : w.heap.size ≤ w'.heap.size := h.2.2.2.1
theorem Only2.block {c d : Nat} {w w' : World} (h : Only2 c d w w') (k : Nat) (hk : k < w.heap.size) (hc : k ≠ c) (hd : k ≠ d) : w'.heap[k]? = w.heap[k]? := h.2.2.2.2 k hk hc hd
theorem Only2.trans {c d : Nat} {w1 w2 w3 : World} (h : Only2 c d w1 w2) (k : Only2 c d w2 w3) : Only2 c d w1 w3 :=
  ⟨k.1.trans h.1, k.2.1.trans h.2.1, k.2.2.1.trans h.2.2.1, Nat.le_trans h.size k.size, fun i hi hc hd => (k.block i (Nat.lt_of_lt_of_le hi h.size) hc hd).trans (h.block i hi hc hd)⟩
theorem Only2.below {c d B : Nat} {w w' : World} (h : Only2 c d w w') (hc : B ≤ c) (hd : B ≤ d) (hB : B ≤ w.heap.size) : Below B w w' :=
  ⟨h.1, h.2.1, h.2.2.1, h.size, fun k hk => h.block k (by omega) (by omega) (by omega)⟩
theorem Only2.obj {c d k : Nat} {w w' : World} {o : Obj} (h : Only2 c d w w') (hk : w.heap[k]? = some o) (hc : k ≠ c) (hd : k ≠ d) : w'.heap[k]? = some o := (h.block k (lt_of_block hk) hc hd).trans hk
theorem HasRow.set {w : World} {g : Nat} {f : Nat → Int} (h : HasRow w g (wordsM f)) (i : Nat) (x : Int) : HasRow (w.setCell ⟨g, i, none⟩ (.int .i64 x)) g (wordsM (upd f i x)) := by
  have k := heap_setCell_same w g i _ _ (.int .i64 x) h
  rw [List.setIfInBounds_toArray, wordsM_set] at k
  exact k
end Go.Proofs.YthelklkfcllddaaGreatDoor.W13
