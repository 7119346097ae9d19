/- A struct of a bool, an array of 32768 numbers and five numbers behind it (video memory): its row under letters, never as 32774 cells; what is as it was but for one block. -/
import Derived.Test.YtnhjhmfiapjenaaDoorBits
import Derived.Test.YtnhjhmfiapjenaaDoorGenA
import Derived.Laws.Rows
import Derived.Laws.Tables
import Derived.Laws.CopyOwn
import Derived.WalkMore
import Derived.OneCell
import Derived.Handy
namespace Go.Proofs.YtnhjhmfiapjenaaDoor
open Go.RowKit
set_option linter.unusedVariables false

def tailM (wr rd st lo bu : Int) : List Value := [.int .i64 wr, .int .i64 rd, .int .i64 st, .int .i64 lo, .int .i64 bu]
def wordsM (f : Nat → Int) : List Value := (List.range 32768).map fun j => Value.int .i64 (f j)
def rowM (m : Bool) (f : Nat → Int) (wr rd st lo bu : Int) : Array Value := (.bool m :: (wordsM f ++ tailM wr rd st lo bu)).toArray
theorem wordsM_length (f : Nat → Int) : (wordsM f).length = 32768 := by simp [wordsM]
theorem rowM_size (m : Bool) (f : Nat → Int) (wr rd st lo bu : Int) : (rowM m f wr rd st lo bu).size = 32774 := by simp [rowM, wordsM_length, tailM]
theorem wordsM_at (f : Nat → Int) (j : Nat) (h : j < 32768) : (wordsM f)[j]? = some (.int .i64 (f j)) := by simp [wordsM, h]
theorem rowM_0 (m : Bool) (f : Nat → Int) (wr rd st lo bu : Int) : (rowM m f wr rd st lo bu)[0]? = some (.bool m) := by simp [rowM]
theorem rowM_at (m : Bool) (f : Nat → Int) (wr rd st lo bu : Int) (j : Nat) (h : j < 32768) : (rowM m f wr rd st lo bu)[1 + j]? = some (.int .i64 (f j)) := by
  unfold rowM
  rw [show 1 + j = j + 1 by omega, List.getElem?_toArray, List.getElem?_cons_succ, List.getElem?_append_left (by rw [wordsM_length]; exact h)]
  exact wordsM_at f j h
theorem rowM_tail (m : Bool) (f : Nat → Int) (wr rd st lo bu : Int) (j : Nat) : (rowM m f wr rd st lo bu)[32769 + j]? = (tailM wr rd st lo bu)[j]? := by
  unfold rowM
  rw [show 32769 + j = (32768 + j) + 1 by omega, List.getElem?_toArray, List.getElem?_cons_succ, List.getElem?_append_right (by rw [wordsM_length]; omega), wordsM_length, show 32768 + j - 32768 = j by omega]
def upd (f : Nat → Int) (i : Nat) (v : Int) : Nat → Int := fun j => if j = i then v else f j
theorem wordsM_set (i : Nat) (x : Int) (f : Nat → Int) : (wordsM f).set i (.int .i64 x) = wordsM (upd f i x) := by
  unfold wordsM
  apply List.ext_getElem?
  intro j
  rw [List.getElem?_set]
  simp only [List.getElem?_map, List.length_map, List.length_range]
  by_cases h : i = j
  · subst h
    by_cases k : i < 32768
    · simp [k, upd]
    · simp [k]
  · rw [if_neg h]
    by_cases k : j < 32768
    · simp [k, upd, show ¬ j = i from fun e => h e.symm]
    · simp [k]
theorem rowM_set (m : Bool) (f : Nat → Int) (wr rd st lo bu x : Int) (i : Nat) (h : i < 32768) : (rowM m f wr rd st lo bu).setIfInBounds (1 + i) (.int .i64 x) = rowM m (upd f i x) wr rd st lo bu := by
  unfold rowM
  rw [List.setIfInBounds_toArray, show 1 + i = i + 1 by omega, List.set_cons_succ, List.set_append_left _ _ (by rw [wordsM_length]; exact h), wordsM_set]
theorem rowM_setTail (m : Bool) (f : Nat → Int) (wr rd st lo bu x : Int) (i : Nat) : (rowM m f wr rd st lo bu).setIfInBounds (32769 + i) (.int .i64 x) = (.bool m :: (wordsM f ++ (tailM wr rd st lo bu).set i (.int .i64 x))).toArray := by
  unfold rowM
  rw [List.setIfInBounds_toArray, show 32769 + i = (32768 + i) + 1 by omega, List.set_cons_succ, List.set_append_right _ _ (by rw [wordsM_length]; omega), wordsM_length, show 32768 + i - 32768 = i by omega]
theorem rowM_setMade (m q : Bool) (f : Nat → Int) (wr rd st lo bu : Int) : (rowM m f wr rd st lo bu).setIfInBounds 0 (.bool q) = rowM q f wr rd st lo bu := by
  unfold rowM
  rw [List.setIfInBounds_toArray, List.set_cons_zero]
theorem rowM_one (m : Bool) (f : Nat → Int) (wr rd st lo bu : Int) : (rowM m f wr rd st lo bu).all (·.oneCell') = true := by
  rw [← Array.all_toList, List.all_eq_true]
  intro v hv
  have hv : v ∈ Value.bool m :: (wordsM f ++ tailM wr rd st lo bu) := hv
  rcases List.mem_cons.1 hv with rfl | hv
  · rfl
  rcases List.mem_append.1 hv with hv | hv
  · obtain ⟨j, _, rfl⟩ := List.mem_map.1 hv
    rfl
  · simp only [tailM, List.mem_cons, List.not_mem_nil, or_false] at hv
    rcases hv with rfl | rfl | rfl | rfl | rfl <;> rfl

/-- Block b holds such a struct. -/
def HasM (w : World) (b : Nat) (m : Bool) (f : Nat → Int) (wr rd st lo bu : Int) : Prop := w.heap[b]? = some (.cells (rowM m f wr rd st lo bu) 94 (0, 0))
theorem HasM.lt {w : World} {b : Nat} {m : Bool} {f : Nat → Int} {wr rd st lo bu : Int} (h : HasM w b m f wr rd st lo bu) : b < w.heap.size := lt_of_block h
theorem HasM.c0 {w : World} {b : Nat} {m : Bool} {f : Nat → Int} {wr rd st lo bu : Int} (h : HasM w b m f wr rd st lo bu) : w.cell? ⟨b, 0, none⟩ = some (.bool m) := (cell_of_row w b 0 _ _ _ h).trans (rowM_0 _ _ _ _ _ _ _)
theorem HasM.at {w : World} {b : Nat} {m : Bool} {f : Nat → Int} {wr rd st lo bu : Int} (h : HasM w b m f wr rd st lo bu) (j : Nat) (hj : j < 32768) : w.cell? ⟨b, 1 + j, none⟩ = some (.int .i64 (f j)) := (cell_of_row w b (1 + j) _ _ _ h).trans (rowM_at _ _ _ _ _ _ _ j hj)
theorem HasM.c1 {w : World} {b : Nat} {m : Bool} {f : Nat → Int} {wr rd st lo bu : Int} (h : HasM w b m f wr rd st lo bu) : w.cell? ⟨b, 32769, none⟩ = some (.int .i64 wr) := (cell_of_row w b 32769 _ _ _ h).trans (rowM_tail m f wr rd st lo bu 0)
theorem HasM.c2 {w : World} {b : Nat} {m : Bool} {f : Nat → Int} {wr rd st lo bu : Int} (h : HasM w b m f wr rd st lo bu) : w.cell? ⟨b, 32770, none⟩ = some (.int .i64 rd) := (cell_of_row w b 32770 _ _ _ h).trans (rowM_tail m f wr rd st lo bu 1)
theorem HasM.c3 {w : World} {b : Nat} {m : Bool} {f : Nat → Int} {wr rd st lo bu : Int} (h : HasM w b m f wr rd st lo bu) : w.cell? ⟨b, 32771, none⟩ = some (.int .i64 st) := (cell_of_row w b 32771 _ _ _ h).trans (rowM_tail m f wr rd st lo bu 2)
theorem HasM.c4 {w : World} {b : Nat} {m : Bool} {f : Nat → Int} {wr rd st lo bu : Int} (h : HasM w b m f wr rd st lo bu) : w.cell? ⟨b, 32772, none⟩ = some (.int .i64 lo) := (cell_of_row w b 32772 _ _ _ h).trans (rowM_tail m f wr rd st lo bu 3)
theorem HasM.c5 {w : World} {b : Nat} {m : Bool} {f : Nat → Int} {wr rd st lo bu : Int} (h : HasM w b m f wr rd st lo bu) : w.cell? ⟨b, 32773, none⟩ = some (.int .i64 bu) := (cell_of_row w b 32773 _ _ _ h).trans (rowM_tail m f wr rd st lo bu 4)
theorem HasM.frozen {w : World} {b : Nat} {m : Bool} {f : Nat → Int} {wr rd st lo bu : Int} (h : HasM w b m f wr rd st lo bu) (j : Nat) : w.frozen? ⟨b, j, none⟩ = false := frozen_of_row w b j _ _ h
theorem HasM.set {w : World} {b : Nat} {m : Bool} {f : Nat → Int} {wr rd st lo bu : Int} (h : HasM w b m f wr rd st lo bu) (i : Nat) (hi : i < 32768) (x : Int) : HasM (w.setCell ⟨b, 1 + i, none⟩ (.int .i64 x)) b m (upd f i x) wr rd st lo bu := by
  have k := heap_setCell_same w b (1 + i) _ _ (.int .i64 x) h
  rw [rowM_set _ _ _ _ _ _ _ _ _ hi] at k
  exact k
theorem HasM.set1 {w : World} {b : Nat} {m : Bool} {f : Nat → Int} {wr rd st lo bu : Int} (h : HasM w b m f wr rd st lo bu) (x : Int) : HasM (w.setCell ⟨b, 32769, none⟩ (.int .i64 x)) b m f x rd st lo bu := by
  have k := heap_setCell_same w b 32769 _ _ (.int .i64 x) h
  rw [rowM_setTail _ _ _ _ _ _ _ _ 0] at k
  exact k
theorem HasM.set2 {w : World} {b : Nat} {m : Bool} {f : Nat → Int} {wr rd st lo bu : Int} (h : HasM w b m f wr rd st lo bu) (x : Int) : HasM (w.setCell ⟨b, 32770, none⟩ (.int .i64 x)) b m f wr x st lo bu := by
  have k := heap_setCell_same w b 32770 _ _ (.int .i64 x) h
  rw [rowM_setTail _ _ _ _ _ _ _ _ 1] at k
  exact k
theorem HasM.set3 {w : World} {b : Nat} {m : Bool} {f : Nat → Int} {wr rd st lo bu : Int} (h : HasM w b m f wr rd st lo bu) (x : Int) : HasM (w.setCell ⟨b, 32771, none⟩ (.int .i64 x)) b m f wr rd x lo bu := by
  have k := heap_setCell_same w b 32771 _ _ (.int .i64 x) h
  rw [rowM_setTail _ _ _ _ _ _ _ _ 2] at k
  exact k
theorem HasM.set4 {w : World} {b : Nat} {m : Bool} {f : Nat → Int} {wr rd st lo bu : Int} (h : HasM w b m f wr rd st lo bu) (x : Int) : HasM (w.setCell ⟨b, 32772, none⟩ (.int .i64 x)) b m f wr rd st x bu := by
  have k := heap_setCell_same w b 32772 _ _ (.int .i64 x) h
  rw [rowM_setTail _ _ _ _ _ _ _ _ 3] at k
  exact k
theorem HasM.set5 {w : World} {b : Nat} {m : Bool} {f : Nat → Int} {wr rd st lo bu : Int} (h : HasM w b m f wr rd st lo bu) (x : Int) : HasM (w.setCell ⟨b, 32773, none⟩ (.int .i64 x)) b m f wr rd st lo x := by
  have k := heap_setCell_same w b 32773 _ _ (.int .i64 x) h
  rw [rowM_setTail _ _ _ _ _ _ _ _ 4] at k
  exact k
theorem HasM.next {w : World} {b : Nat} {m : Bool} {f : Nat → Int} {wr rd st lo bu : Int} (h : HasM w b m f wr rd st lo bu) {w' : World} (k : Below w.heap.size w w') : HasM w' b m f wr rd st lo bu := (k.block b (lt_of_block h)).trans h
theorem hasM_new (w : World) (m : Bool) (f : Nat → Int) (wr rd st lo bu : Int) : HasM (w.alloc (.cells (rowM m f wr rd st lo bu) 94)) w.heap.size m f wr rd st lo bu := heap_alloc_new _ _

/-- All blocks that there were are as they were, but for one. -/
def Only (b : Nat) (w w' : World) : Prop := w'.os = w.os ∧ w'.tape = w.tape ∧ w'.output = w.output ∧ w.heap.size ≤ w'.heap.size ∧ ∀ k, k < w.heap.size → k ≠ b → w'.heap[k]? = w.heap[k]?
theorem Only.of {b : Nat} {w w' : World} (h : Below w.heap.size w w') : Only b w w' := ⟨h.os, h.tape, h.output, h.size, fun k hk _ => h.block k hk⟩
theorem Only.refl (b : Nat) (w : World) : Only b w w := Only.of (Below.refl _ _)
theorem Only.size {b : Nat} {w w' : World} (h : Only b w w') : w.heap.size ≤ w'.heap.size := h.2.2.2.1
theorem Only.block {b : Nat} {w w' : World} (h : Only b w w') (k : Nat) (hk : k < w.heap.size) (hb : k ≠ b) : w'.heap[k]? = w.heap[k]? := h.2.2.2.2 k hk hb
theorem Only.trans {b : Nat} {w1 w2 w3 : World} (h : Only b w1 w2) (k : Only b w2 w3) : Only b w1 w3 :=
  ⟨k.1.trans h.1, k.2.1.trans h.2.1, k.2.2.1.trans h.2.2.1, Nat.le_trans h.size k.size, fun i hi hb => (k.block i (Nat.lt_of_lt_of_le hi h.size) hb).trans (h.block i hi hb)⟩
theorem Only.set {b : Nat} {w w' : World} (h : Only b w w') (o : Nat) (v : Value) : Only b w (w'.setCell ⟨b, o, none⟩ v) :=
  h.trans ⟨rfl, rfl, rfl, by simp [World.setCell], fun k _ hk => Below.heap_setCell _ _ _ _ hk⟩
theorem Only.below {b B : Nat} {w w' : World} (h : Only b w w') (hb : B ≤ b) (hB : B ≤ w.heap.size) : Below B w w' :=
  ⟨h.1, h.2.1, h.2.2.1, h.size, fun k hk => h.block k (by omega) (by omega)⟩
theorem Only.obj {b c : Nat} {w w' : World} {o : Obj} (h : Only b w w') (k : w.heap[c]? = some o) (hc : c ≠ b) : w'.heap[c]? = some o := (h.block c (lt_of_block k) hc).trans k
theorem Only.drewN {b : Nat} {w w' : World} (h : Only b w w') (n : Nat) : Only b w (w'.drewN n) := h.trans ⟨rfl, rfl, rfl, Nat.le_refl _, fun _ _ _ => rfl⟩
/-- What a call has made, and then turned in one block. -/
theorem bonly {B b : Nat} {w a c : World} (h : Below B w a) (k : Only b a c) (hb : B ≤ b) (hB : B ≤ w.heap.size) : Below B w c := h.trans (k.below hb (Nat.le_trans hB h.size))

/-- The zero value of such a struct, as the program's table has it: looked over cell by cell. -/
def isZ : Value → Bool | .int .i64 0 => true | _ => false
def allZ : Nat → List Value → Bool
  | 0, [] => true
  | n + 1, x :: xs => isZ x && allZ n xs
  | _, _ => false
def isZeroM : Option Value → Bool | some (.agg ⟨.bool false :: xs⟩) => allZ 32773 xs | _ => false
theorem isZ_eq {v : Value} (h : isZ v = true) : v = .int .i64 0 := by
  unfold isZ at h
  split at h
  · rfl
  · cases h
theorem allZ_eq : ∀ (n : Nat) (l : List Value), allZ n l = true → l = List.replicate n (.int .i64 0)
  | 0, [], _ => rfl
  | 0, x :: xs, h => by simp [allZ] at h
  | n + 1, [], h => by simp [allZ] at h
  | n + 1, x :: xs, h => by
    simp only [allZ, Bool.and_eq_true] at h
    rw [isZ_eq h.1, allZ_eq n xs h.2, List.replicate_succ]
def zeroC : Array Value := rowM false (fun _ => 0) 0 0 0 0 0
theorem zero_list : wordsM (fun _ => 0) ++ tailM 0 0 0 0 0 = List.replicate 32773 (.int .i64 0) := by
  have e : wordsM (fun _ => 0) = List.replicate 32768 (.int .i64 0) := by
    unfold wordsM
    rw [List.map_const', List.length_range]
  rw [e, show tailM 0 0 0 0 0 = List.replicate 5 (.int .i64 0) from rfl, List.replicate_append_replicate]
theorem isZeroM_eq {v : Option Value} (h : isZeroM v = true) : v = some (.agg zeroC) := by
  unfold isZeroM at h
  split at h
  · rename_i xs
    have k := allZ_eq _ _ h
    subst k
    unfold zeroC rowM
    rw [zero_list]
  · cases h
theorem zero_is : Tryd.t94.zero = some (.agg zeroC) := isZeroM_eq (by kernel_rfl)
theorem zero_M : zeroC = rowM false (fun _ => 0) 0 0 0 0 0 := rfl
set_option maxRecDepth 100000 in
/-- A composite of such a struct, whatever the load names its zero value. -/
theorem built_of (parts : List (Nat × Value)) : Tryd.prog.built 94 parts = Instr.fill (fun i => #[(0, 1), (1, 32768), (32769, 1), (32770, 1), (32771, 1), (32772, 1), (32773, 1)][i]?) zeroC parts := by
  have h1 : Tryd.prog.info? 94 = some Tryd.t94 := by kernel_rfl
  unfold Program.built
  simp only [h1, Tryd.underlying94, zero_is]
  rfl
theorem fill_one {place : Nat → Option (Nat × Nat)} {cells : Array Value} {i off : Nat} {v : Value} {rest : List (Nat × Value)} (hp : place i = some (off, 1)) (hv : v.cells = #[v]) (ho : off + 1 ≤ cells.size) :
    Instr.fill place cells ((i, v) :: rest) = Instr.fill place (cells.setIfInBounds off v) rest := by
  have hn : ¬ off + 1 > cells.size := by omega
  rw [Instr.fill, hp]
  simp only [hv, List.size_toArray, List.length_cons, List.length_nil]
  rw [if_neg (by simp; omega)]
  rfl
theorem run_plain (w : World) : (Instr.build 94 #[]).run Tryd.prog w = .ok (.agg (rowM false (fun _ => 0) 0 0 0 0 0)) w := by
  refine run_build w _ _ _ ?_
  rw [built_of]
  rfl
theorem run_new (w : World) : (Instr.build 94 #[(0, .bool true), (4, .int .i64 1)]).run Tryd.prog w = .ok (.agg (rowM true (fun _ => 0) 0 0 1 0 0)) w := by
  refine run_build w _ _ _ ?_
  rw [built_of, zero_M, fill_one (off := 0) rfl rfl (by rw [rowM_size]; omega), rowM_setMade, fill_one (off := 32771) rfl rfl (by rw [rowM_size]; omega), rowM_setTail _ _ _ _ _ _ _ _ 2]
  rfl
theorem run_load (wr rd st lo bu : Int) (w : World) : (Instr.build 94 #[(0, .bool true), (2, .int .i64 wr), (3, .int .i64 rd), (4, .int .i64 st), (5, .int .i64 lo), (6, .int .i64 bu)]).run Tryd.prog w = .ok (.agg (rowM true (fun _ => 0) wr rd st lo bu)) w := by
  refine run_build w _ _ _ ?_
  have e1 (x) : (rowM true (fun _ => 0) 0 0 0 0 0).setIfInBounds 32769 (.int .i64 x) = rowM true (fun _ => 0) x 0 0 0 0 := (rowM_setTail true (fun _ => 0) 0 0 0 0 0 x 0).trans rfl
  have e2 (x) : (rowM true (fun _ => 0) wr 0 0 0 0).setIfInBounds 32770 (.int .i64 x) = rowM true (fun _ => 0) wr x 0 0 0 := (rowM_setTail true (fun _ => 0) wr 0 0 0 0 x 1).trans rfl
  have e3 (x) : (rowM true (fun _ => 0) wr rd 0 0 0).setIfInBounds 32771 (.int .i64 x) = rowM true (fun _ => 0) wr rd x 0 0 := (rowM_setTail true (fun _ => 0) wr rd 0 0 0 x 2).trans rfl
  have e4 (x) : (rowM true (fun _ => 0) wr rd st 0 0).setIfInBounds 32772 (.int .i64 x) = rowM true (fun _ => 0) wr rd st x 0 := (rowM_setTail true (fun _ => 0) wr rd st 0 0 x 3).trans rfl
  have e5 (x) : (rowM true (fun _ => 0) wr rd st lo 0).setIfInBounds 32773 (.int .i64 x) = rowM true (fun _ => 0) wr rd st lo x := (rowM_setTail true (fun _ => 0) wr rd st lo 0 x 4).trans rfl
  rw [built_of, zero_M, fill_one (off := 0) rfl rfl (by rw [rowM_size]; omega), rowM_setMade, fill_one (off := 32769) rfl rfl (by rw [rowM_size]; omega), e1, fill_one (off := 32770) rfl rfl (by rw [rowM_size]; omega), e2,
    fill_one (off := 32771) rfl rfl (by rw [rowM_size]; omega), e3, fill_one (off := 32772) rfl rfl (by rw [rowM_size]; omega), e4, fill_one (off := 32773) rfl rfl (by rw [rowM_size]; omega), e5]
  rfl
/-- A composite, as one step of the walk: ahead of what the walk knows of zero values by itself. -/
theorem wpList_built {P : Program} {ops : Array Oper} {rest : List Oper} {o : Oper} {a : Act} {w : World} {Q : Exit → Act → World → Prop} (hg : o.guard = none) (t : TypeId) (parts : Array (Nat × Operand)) (ho : o.op = .build t parts)
    (vals : Array (Nat × Value)) (hp : (parts.map fun (i, x) => (i, a.eval x)) = vals) (R : Array Value) (h : ∀ w, (Instr.build t vals).run P w = .ok (.agg R) w) (hK : wpList P ops Q rest (a.put o.dst (.agg R)) w) : wpList P ops Q (o :: rest) a w :=
  wpList_plain hg fun K hK' => by
    unfold Oper.wp execOp
    simp only [ho, hp, Sem.run_bind, h, Result.andThen_ok]
    exact hK' _ _ hK
theorem info_M (m : Bool) (f : Nat → Int) (wr rd st lo bu : Int) : (Tryd.prog.info? 94).map (·.size) = some (rowM m f wr rd st lo bu).size := by
  rw [rowM_size]
  kernel_rfl
end Go.Proofs.YtnhjhmfiapjenaaDoor
