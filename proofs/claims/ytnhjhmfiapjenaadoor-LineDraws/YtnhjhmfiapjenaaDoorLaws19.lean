/- What the laws of layer 19 have in common: their setup, the memories that they make of it, and the parts of a line's input. -/
import Derived.Test.YtnhjhmfiapjenaaDoorDraw19
import Derived.Test.YtnhjhmfiapjenaaDoorMade17
import Derived.Test.YtnhjhmfiapjenaaDoorGenA
namespace Go.Proofs.YtnhjhmfiapjenaaDoor
open Go.RowKit
set_option linter.unusedVariables false

/-- A setup, as it lies. -/
def rowS (pa : Option Addr) (pl pc : Nat) (ta : Option Addr) (tl tc : Nat) (ca : Option Addr) (cl cc : Nat) (ct mp X Y L Wd : Int) : Array Value :=
  #[.slice pa pl pc, .slice ta tl tc, .slice ca cl cc, .int .i64 ct, .int .i64 mp, .int .i64 X, .int .i64 Y, .int .i64 L, .int .i64 Wd]
def HasS (w : World) (b : Nat) (R : Array Value) : Prop := w.heap[b]? = some (.cells R 25 (0, 0))
theorem HasS.next {w w' : World} {b : Nat} {R : Array Value} (h : HasS w b R) (k : Below w.heap.size w w') : HasS w' b R := (k.block b (lt_of_block h)).trans h
theorem HasS.c0 {w : World} {b : Nat} {pa : Option Addr} {pl pc : Nat} {ta : Option Addr} {tl tc : Nat} {ca : Option Addr} {cl cc : Nat} {ct mp X Y L Wd : Int} (h : HasS w b (rowS pa pl pc ta tl tc ca cl cc ct mp X Y L Wd)) : w.cell? ⟨b, 0, none⟩ = some (.slice pa pl pc) := (cell_of_row w b 0 _ _ _ h).trans rfl
theorem HasS.c1 {w : World} {b : Nat} {pa : Option Addr} {pl pc : Nat} {ta : Option Addr} {tl tc : Nat} {ca : Option Addr} {cl cc : Nat} {ct mp X Y L Wd : Int} (h : HasS w b (rowS pa pl pc ta tl tc ca cl cc ct mp X Y L Wd)) : w.cell? ⟨b, 1, none⟩ = some (.slice ta tl tc) := (cell_of_row w b 1 _ _ _ h).trans rfl
theorem HasS.c2 {w : World} {b : Nat} {pa : Option Addr} {pl pc : Nat} {ta : Option Addr} {tl tc : Nat} {ca : Option Addr} {cl cc : Nat} {ct mp X Y L Wd : Int} (h : HasS w b (rowS pa pl pc ta tl tc ca cl cc ct mp X Y L Wd)) : w.cell? ⟨b, 2, none⟩ = some (.slice ca cl cc) := (cell_of_row w b 2 _ _ _ h).trans rfl
theorem HasS.c3 {w : World} {b : Nat} {pa : Option Addr} {pl pc : Nat} {ta : Option Addr} {tl tc : Nat} {ca : Option Addr} {cl cc : Nat} {ct mp X Y L Wd : Int} (h : HasS w b (rowS pa pl pc ta tl tc ca cl cc ct mp X Y L Wd)) : w.cell? ⟨b, 3, none⟩ = some (.int .i64 ct) := (cell_of_row w b 3 _ _ _ h).trans rfl
theorem HasS.c4 {w : World} {b : Nat} {pa : Option Addr} {pl pc : Nat} {ta : Option Addr} {tl tc : Nat} {ca : Option Addr} {cl cc : Nat} {ct mp X Y L Wd : Int} (h : HasS w b (rowS pa pl pc ta tl tc ca cl cc ct mp X Y L Wd)) : w.cell? ⟨b, 4, none⟩ = some (.int .i64 mp) := (cell_of_row w b 4 _ _ _ h).trans rfl
theorem HasS.c5 {w : World} {b : Nat} {pa : Option Addr} {pl pc : Nat} {ta : Option Addr} {tl tc : Nat} {ca : Option Addr} {cl cc : Nat} {ct mp X Y L Wd : Int} (h : HasS w b (rowS pa pl pc ta tl tc ca cl cc ct mp X Y L Wd)) : w.cell? ⟨b, 5, none⟩ = some (.int .i64 X) := (cell_of_row w b 5 _ _ _ h).trans rfl
theorem HasS.c6 {w : World} {b : Nat} {pa : Option Addr} {pl pc : Nat} {ta : Option Addr} {tl tc : Nat} {ca : Option Addr} {cl cc : Nat} {ct mp X Y L Wd : Int} (h : HasS w b (rowS pa pl pc ta tl tc ca cl cc ct mp X Y L Wd)) : w.cell? ⟨b, 6, none⟩ = some (.int .i64 Y) := (cell_of_row w b 6 _ _ _ h).trans rfl
theorem HasS.c7 {w : World} {b : Nat} {pa : Option Addr} {pl pc : Nat} {ta : Option Addr} {tl tc : Nat} {ca : Option Addr} {cl cc : Nat} {ct mp X Y L Wd : Int} (h : HasS w b (rowS pa pl pc ta tl tc ca cl cc ct mp X Y L Wd)) : w.cell? ⟨b, 7, none⟩ = some (.int .i64 L) := (cell_of_row w b 7 _ _ _ h).trans rfl
theorem HasS.c8 {w : World} {b : Nat} {pa : Option Addr} {pl pc : Nat} {ta : Option Addr} {tl tc : Nat} {ca : Option Addr} {cl cc : Nat} {ct mp X Y L Wd : Int} (h : HasS w b (rowS pa pl pc ta tl tc ca cl cc ct mp X Y L Wd)) : w.cell? ⟨b, 8, none⟩ = some (.int .i64 Wd) := (cell_of_row w b 8 _ _ _ h).trans rfl
/-- The setup and both memories, in a law. -/
def Env (w0 : World) (zs : Nat) (R : Array Value) (g c d : Nat) (m : Nat → Int) (w : World) : Prop := HasS w zs R ∧ HasM w g true m 0 0 1 0 0 ∧ HasR w c d m 0 0 1 0 0 ∧ Below w0.heap.size w0 w
theorem Env.next {w0 : World} {zs : Nat} {R : Array Value} {g c d : Nat} {m : Nat → Int} {w : World} (h : Env w0 zs R g c d m w) {w' : World} (k : Below w.heap.size w w') : Env w0 zs R g c d m w' := ⟨h.1.next k, h.2.1.next k, h.2.2.1.next k, bnext h.2.2.2 k⟩
theorem Env.below {w0 : World} {zs : Nat} {R : Array Value} {g c d : Nat} {m : Nat → Int} {w : World} (h : Env w0 zs R g c d m w) : Below w0.heap.size w0 w := h.2.2.2
theorem Env.only {w0 : World} {zs : Nat} {R : Array Value} {g c d : Nat} {m : Nat → Int} {w : World} (h : Env w0 zs R g c d m w) {w' : World} {b : Nat} {cs : Array Value} {t : TypeId} {p : Nat × Nat} (hb : w.heap[b]? = some (.cells cs t p)) (ht : t ≠ 25 ∧ t ≠ 94 ∧ t ≠ 96 ∧ t ≠ 3) (hB : w0.heap.size ≤ b) (k : Only b w w') : Env w0 zs R g c d m w' := by
  obtain ⟨h1, h2, h3, h4⟩ := h
  have n1 : zs ≠ b := fun e => types_apart hb h1 ht.1 e.symm
  have n2 : g ≠ b := fun e => types_apart hb h2 ht.2.1 e.symm
  have n3 : c ≠ b := fun e => types_apart hb h3.1 ht.2.2.1 e.symm
  have n4 : d ≠ b := fun e => types_apart hb h3.2.1 ht.2.2.2 e.symm
  exact ⟨k.obj h1 n1, k.obj h2 n2, h3.only k n3 n4, bonly h4 k hB (Nat.le_refl _)⟩
theorem only_setRow (w : World) (b : Nat) (cs : Array Value) : Only b w (w.setRow b cs) := by
  have k := below_setRow (Below.refl 0 w) (Nat.zero_le b) cs
  have hs : w.heap.size ≤ (w.setRow b cs).heap.size := k.size
  exact ⟨k.os, k.tape, k.output, hs, fun j _ hj => setRow_other _ _ _ _ hj⟩
theorem only_setCell (w : World) (b o : Nat) (v : Value) : Only b w (w.setCell ⟨b, o, none⟩ v) := (Only.refl b w).set o v
theorem Only.drew' {b : Nat} {w w' : World} (h : Only b w w') : Only b w w'.drew := h.trans ⟨rfl, rfl, rfl, Nat.le_refl _, fun _ _ _ => rfl⟩
/-- Composites, and zero values. -/
theorem run_vce0 (w : World) : (Instr.build 34 #[]).run Tryd.prog w = .ok (.agg (V12.rowV 0 0 fun _ => 0)) w := run_build w _ _ _ (by kernel_rfl)
theorem run_regs0 (w : World) : (Instr.build 39 #[]).run Tryd.prog w = .ok (.agg (R15.rowG 0 fun _ => 0)) w := run_build w _ _ _ (by kernel_rfl)
theorem zero_vce (w : World) : (zeroValue 34).run Tryd.prog w = .ok (.agg (V12.rowV 0 0 fun _ => 0)) w := V12.zero_run w
theorem zero_regs (w : World) : (zeroValue 39).run Tryd.prog w = .ok (.agg (R15.rowG 0 fun _ => 0)) w := by kernel_rfl
theorem zero_input (w : World) : (zeroValue 43).run Tryd.prog w = .ok (.agg zeroI) w := by
  have h1 : Tryd.prog.info? 43 = some Tryd.t43 := by kernel_rfl
  simp [zeroValue, typeInfo, h1, zero_I]
theorem run_input (p : Value) (hp : p.cells.toList = [p]) (s : Int) (f : Nat → Int) (T : Nat → Int) (c a : Int) (F : Nat → Int) (X Y L N : Int) (w : World) :
    (Instr.build 43 #[(0, p), (1, .agg (R15.rowG s f)), (2, .agg (tabL T).toArray), (3, .agg (V12.rowV c a F)), (4, .int .i64 X), (5, .int .i64 Y), (6, .int .i64 L), (7, .int .i64 N)]).run Tryd.prog w = .ok (.agg (inL [p] (gL s f) (tabL T) (vL c a F) X Y L N).toArray) w := by
  refine run_build w _ _ _ ?_
  rw [← gL_row, ← vL_row, built_I]
  unfold zeroI
  rw [fill_first rfl hp, fill_G zG_length zT_length zV_length rfl (gL_length _ _), fill_T (gL_length _ _) zT_length zV_length rfl (tabL_length _), fill_V (gL_length _ _) (tabL_length _) zV_length rfl (vL_length _ _ _),
    fill_X (gL_length _ _) (tabL_length _) (vL_length _ _ _) rfl, fill_Y (gL_length _ _) (tabL_length _) (vL_length _ _ _) rfl, fill_L (gL_length _ _) (tabL_length _) (vL_length _ _ _) rfl, fill_N (gL_length _ _) (tabL_length _) (vL_length _ _ _) rfl]
  rfl
theorem run_input3 (p : Value) (hp : p.cells.toList = [p]) (s : Int) (f : Nat → Int) (T : Nat → Int) (X Y L N : Int) (w : World) :
    (Instr.build 43 #[(0, p), (1, .agg (R15.rowG s f)), (2, .agg (tabL T).toArray), (4, .int .i64 X), (5, .int .i64 Y), (6, .int .i64 L), (7, .int .i64 N)]).run Tryd.prog w = .ok (.agg (inL [p] (gL s f) (tabL T) (vL 0 0 fun _ => 0) X Y L N).toArray) w := by
  refine run_build w _ _ _ ?_
  rw [← gL_row, built_I]
  unfold zeroI
  rw [fill_first rfl hp, fill_G zG_length zT_length zV_length rfl (gL_length _ _), fill_T (gL_length _ _) zT_length zV_length rfl (tabL_length _),
    fill_X (gL_length _ _) (tabL_length _) zV_length rfl, fill_Y (gL_length _ _) (tabL_length _) zV_length rfl, fill_L (gL_length _ _) (tabL_length _) zV_length rfl, fill_N (gL_length _ _) (tabL_length _) zV_length rfl]
  rfl
theorem run_input07 (p : Value) (hp : p.cells.toList = [p]) (N : Int) (w : World) :
    (Instr.build 43 #[(0, p), (7, .int .i64 N)]).run Tryd.prog w = .ok (.agg (inL [p] (gL 0 fun _ => 0) (tabL fun _ => 0) (vL 0 0 fun _ => 0) 0 0 0 N).toArray) w := by
  refine run_build w _ _ _ ?_
  rw [built_I]
  unfold zeroI
  rw [fill_first rfl hp, fill_N zG_length zT_length zV_length rfl]
  rfl
theorem info_in (p : Value) (s : Int) (f : Nat → Int) (T : Nat → Int) (c a : Int) (F : Nat → Int) (X Y L N : Int) : (Tryd.prog.info? 43).map (·.size) = some (inL [p] (gL s f) (tabL T) (vL c a F) X Y L N).toArray.size := info_I rfl (gL_length _ _) (tabL_length _) (vL_length _ _ _)
theorem in_size (p : Value) (s : Int) (f : Nat → Int) (T : Nat → Int) (c a : Int) (F : Nat → Int) (X Y L N : Int) : zeroI.size = (inL [p] (gL s f) (tabL T) (vL c a F) X Y L N).toArray.size := by
  unfold zeroI
  rw [List.size_toArray, List.size_toArray, inL_length zG_length zT_length zV_length, inL_length (gL_length _ _) (tabL_length _) (vL_length _ _ _)]
  rfl
theorem in_one (p : Value) (hp : p.oneCell' = true) (s : Int) (f : Nat → Int) (T : Nat → Int) (c a : Int) (F : Nat → Int) (X Y L N : Int) : (inL [p] (gL s f) (tabL T) (vL c a F) X Y L N).toArray.all (·.oneCell') = true :=
  inL_one (fun v hv => by simp at hv; rw [hv]; exact hp) (gL_one _ _) (tL_one _) (vL_one _ _ _)
/-- Block b holds an input, its parts by their numbers. -/
def HasIn (w : World) (b : Nat) (p : Value) (s : Int) (f : Nat → Int) (T : Nat → Int) (c a : Int) (F : Nat → Int) (X Y L N : Int) : Prop := w.heap[b]? = some (.cells (inL [p] (gL s f) (tabL T) (vL c a F) X Y L N).toArray 43 (0, 0))
theorem HasIn.next {w : World} {b : Nat} {p : Value} {s : Int} {f : Nat → Int} {T : Nat → Int} {c a : Int} {F : Nat → Int} {X Y L N : Int} (h : HasIn w b p s f T c a F X Y L N) {w' : World} (k : Below w.heap.size w w') : HasIn w' b p s f T c a F X Y L N := (k.block b (lt_of_block h)).trans h
theorem HasIn.has {w : World} {b : Nat} {p : Value} {s : Int} {f : Nat → Int} {T : Nat → Int} {c a : Int} {F : Nat → Int} {X Y L N : Int} (h : HasIn w b p s f T c a F X Y L N) : HasI 43 w b [p] (gL s f) (tabL T) (vL c a F) X Y L N := ⟨h, gL_length _ _, tabL_length _, vL_length _ _ _⟩
theorem set_part {A B C : List Value} {i : Nat} {v : Value} (h : i < B.length) : (A ++ (B ++ C)).toArray.setIfInBounds (A.length + i) v = (A ++ (B.set i v ++ C)).toArray := by
  rw [List.setIfInBounds_toArray, List.set_append_right _ _ (by omega), show A.length + i - A.length = i by omega, List.set_append_left _ _ h]
theorem gL_set (s : Int) (f : Nat → Int) (i : Nat) (x : Int) : (gL s f).set (1 + i) (.int .i64 x) = gL s (R15.upd f i x) := by
  unfold gL
  rw [← R15.rowG_set, Array.toList_setIfInBounds]
theorem vL_set (c a : Int) (f : Nat → Int) (i : Nat) (x : Int) : (vL c a f).set (2 + i) (.int .i64 x) = vL c a (V12.upd f i x) := by
  unfold vL
  rw [← V12.rowV_set, Array.toList_setIfInBounds]
theorem HasIn.setG {w : World} {b : Nat} {p : Value} {s : Int} {f : Nat → Int} {T : Nat → Int} {c a : Int} {F : Nat → Int} {X Y L N : Int} (h : HasIn w b p s f T c a F X Y L N) (i : Nat) (hi : i < 20) (x : Int) : HasIn (w.setCell ⟨b, 2 + i, none⟩ (.int .i64 x)) b p s (R15.upd f i x) T c a F X Y L N := by
  have q : (inL [p] (gL s f) (tabL T) (vL c a F) X Y L N).toArray.setIfInBounds (2 + i) (.int .i64 x) = (inL [p] (gL s (R15.upd f i x)) (tabL T) (vL c a F) X Y L N).toArray := by
    unfold inL
    rw [show 2 + i = [p].length + (1 + i) by simp; omega, set_part (by rw [gL_length]; omega), gL_set]
  exact (heap_setCell_same w b (2 + i) _ _ (.int .i64 x) h).trans (by rw [q])
theorem HasIn.setV {w : World} {b : Nat} {p : Value} {s : Int} {f : Nat → Int} {T : Nat → Int} {c a : Int} {F : Nat → Int} {X Y L N : Int} (h : HasIn w b p s f T c a F X Y L N) (i : Nat) (hi : i < 512) (x : Int) : HasIn (w.setCell ⟨b, 280 + i, none⟩ (.int .i64 x)) b p s f T c a (V12.upd F i x) X Y L N := by
  have e (H : Nat → Int) : inL [p] (gL s f) (tabL T) (vL c a H) X Y L N = ([p] ++ (gL s f ++ tabL T)) ++ (vL c a H ++ [.int .i64 X, .int .i64 Y, .int .i64 L, .int .i64 N]) := by unfold inL; simp only [List.append_assoc]
  have l : 280 + i = ([p] ++ (gL s f ++ tabL T)).length + (2 + i) := by rw [List.length_append, List.length_append, gL_length, tabL_length, List.length_cons, List.length_nil]; omega
  have q : (inL [p] (gL s f) (tabL T) (vL c a F) X Y L N).toArray.setIfInBounds (280 + i) (.int .i64 x) = (inL [p] (gL s f) (tabL T) (vL c a (V12.upd F i x)) X Y L N).toArray := by
    rw [l, e, e, set_part (by rw [vL_length]; omega), vL_set]
  exact (heap_setCell_same w b (280 + i) _ _ (.int .i64 x) h).trans (by rw [q])
theorem HasIn.setN {w : World} {b : Nat} {p : Value} {s : Int} {f : Nat → Int} {T : Nat → Int} {c a : Int} {F : Nat → Int} {X Y L N : Int} (h : HasIn w b p s f T c a F X Y L N) (x : Int) : HasIn (w.setCell ⟨b, 795, none⟩ (.int .i64 x)) b p s f T c a F X Y L x := by
  have e (y : Int) : inL [p] (gL s f) (tabL T) (vL c a F) X Y L y = ([p] ++ (gL s f ++ (tabL T ++ vL c a F))) ++ ([.int .i64 X, .int .i64 Y, .int .i64 L, .int .i64 y] ++ []) := by unfold inL; simp only [List.append_assoc, List.append_nil]
  have l : 795 = ([p] ++ (gL s f ++ (tabL T ++ vL c a F))).length + 3 := by rw [List.length_append, List.length_append, List.length_append, gL_length, tabL_length, vL_length, List.length_cons, List.length_nil]
  have q (o : Nat) (ho : o = ([p] ++ (gL s f ++ (tabL T ++ vL c a F))).length + 3) : (inL [p] (gL s f) (tabL T) (vL c a F) X Y L N).toArray.setIfInBounds o (.int .i64 x) = (inL [p] (gL s f) (tabL T) (vL c a F) X Y L x).toArray := by
    rw [ho, e, e, set_part (by simp)]
    rfl
  exact (heap_setCell_same w b 795 _ _ (.int .i64 x) h).trans (by rw [q 795 l])
theorem HasIn.cell {w : World} {b : Nat} {p : Value} {s : Int} {f : Nat → Int} {T : Nat → Int} {c a : Int} {F : Nat → Int} {X Y L N : Int} (h : HasIn w b p s f T c a F X Y L N) {o : Nat} (ho : o < 796) : ∃ v, w.cell? ⟨b, o, none⟩ = some v := by
  have hl : o < (inL [p] (gL s f) (tabL T) (vL c a F) X Y L N).length := by
    rw [inL_length (gL_length _ _) (tabL_length _) (vL_length _ _ _)]
    exact ho
  exact ⟨_, (cell_of_row w b o _ _ _ h).trans (by rw [List.getElem?_toArray, List.getElem?_eq_getElem hl])⟩
/-- Registers of which two are set. -/
def regF (x y : Int) : Nat → Int := R15.upd (R15.upd (fun _ => 0) 5 x) 9 y
theorem regF_5 (x y : Int) : regF x y 5 = x := rfl
theorem regF_9 (x y : Int) : regF x y 9 = y := rfl
theorem num_le (x7 x6 : Bool) (g : Int → Int) (hg : Words g) (W H X Y : Int) (T : Nat → Int) (y : Int) (N j : Nat) : 0 ≤ numOf x7 x6 g W H X Y T y N j ∧ numOf x7 x6 g W H X Y T y N j < 512 := by
  have hb : 0 ≤ backOf x7 g W H X Y j ∧ backOf x7 g W H X Y j < 256 := by
    unfold backOf
    split
    · exact T17.pixelG_le g hg W H X Y j 0
    · exact ⟨Int.le_refl 0, by decide⟩
  have hs : 0 ≤ (sprOf x6 g T y j).1 ∧ (sprOf x6 g T y j).1 ≤ 255 := by
    unfold sprOf
    split
    · exact runT_col g T y 64 j
    · exact ⟨Int.le_refl 0, show (0 : Int) ≤ 255 by decide⟩
  have e : numOf x7 x6 g W H X Y T y N j = if j < N ∧ ¬ (sprOf x6 g T y j).1 = 0 ∧ ((sprOf x6 g T y j).2.1 = true ∨ backOf x7 g W H X Y j = 0) then 256 + (sprOf x6 g T y j).1 else backOf x7 g W H X Y j := rfl
  rw [e]
  split <;> omega
theorem num_same (x7 x6 : Bool) (g : Int → Int) (W H X Y : Int) (T : Nat → Int) (y : Int) {N M j : Nat} (hN : j < N) (hM : j < M) : numOf x7 x6 g W H X Y T y N j = numOf x7 x6 g W H X Y T y M j := by
  unfold numOf mixOf
  simp [hN, hM]
theorem shown_le (F : Nat → Int) (c k : Int) : 0 ≤ shownC F c k ∧ shownC F c k ≤ 511 := by
  unfold shownC V12.colOf
  split <;> omega
end Go.Proofs.YtnhjhmfiapjenaaDoor
