/- What a line is made of: a struct of 796 cells (the document's: 795), as its parts under letters, never cell by cell. -/
import Derived.Test.YtnhjhmfiapjenaaDoorRow15
import Derived.Test.YtnhjhmfiapjenaaDoorBig12
import Derived.Test.YtnhjhmfiapjenaaDoorLaw18
import Derived.Test.YtnhjhmfiapjenaaDoorMem13
import Derived.Deep.MidRow
namespace Go.Proofs.YtnhjhmfiapjenaaDoor
open Go.RowKit
set_option linter.unusedVariables false

/-- The parts, one behind the other. -/
def inL (P0 G T V : List Value) (X Y L N : Int) : List Value := P0 ++ (G ++ (T ++ (V ++ [.int .i64 X, .int .i64 Y, .int .i64 L, .int .i64 N])))
def gL (s : Int) (f : Nat → Int) : List Value := (R15.rowG s f).toList
def vL (c a : Int) (f : Nat → Int) : List Value := (V12.rowV c a f).toList
theorem gL_length (s : Int) (f : Nat → Int) : (gL s f).length = 21 := by unfold gL; rw [Array.length_toList, R15.rowG_size]
theorem vL_length (c a : Int) (f : Nat → Int) : (vL c a f).length = 514 := by unfold vL; rw [Array.length_toList, V12.rowV_size]
theorem gL_row (s : Int) (f : Nat → Int) : (gL s f).toArray = R15.rowG s f := by unfold gL; simp
theorem vL_row (c a : Int) (f : Nat → Int) : (vL c a f).toArray = V12.rowV c a f := by unfold vL; simp
theorem inL_length {P0 G T V : List Value} {X Y L N : Int} (hG : G.length = 21) (hT : T.length = 256) (hV : V.length = 514) : (inL P0 G T V X Y L N).length = P0.length + 795 := by
  unfold inL
  simp only [List.length_append, hG, hT, hV, List.length_cons, List.length_nil]
/-- Block b holds such a struct. -/
def HasI (TI : TypeId) (w : World) (b : Nat) (P0 G T V : List Value) (X Y L N : Int) : Prop := w.heap[b]? = some (.cells (inL P0 G T V X Y L N).toArray TI (0, 0)) ∧ G.length = 21 ∧ T.length = 256 ∧ V.length = 514
theorem HasI.lt {TI : TypeId} {w : World} {b : Nat} {P0 G T V : List Value} {X Y L N : Int} (h : HasI TI w b P0 G T V X Y L N) : b < w.heap.size := lt_of_block h.1
theorem HasI.next {TI : TypeId} {w : World} {b : Nat} {P0 G T V : List Value} {X Y L N : Int} (h : HasI TI w b P0 G T V X Y L N) {w' : World} (k : Below w.heap.size w w') : HasI TI w' b P0 G T V X Y L N := ⟨(k.block b (lt_of_block h.1)).trans h.1, h.2⟩
theorem HasI.keep {TI : TypeId} {w : World} {b : Nat} {P0 G T V : List Value} {X Y L N : Int} (h : HasI TI w b P0 G T V X Y L N) {w' : World} (k : w'.heap[b]? = w.heap[b]?) : HasI TI w' b P0 G T V X Y L N := ⟨k.trans h.1, h.2⟩
theorem range_part {w : World} {b : Nat} {TI : TypeId} {A B C : List Value} (h : w.heap[b]? = some (.cells (A ++ (B ++ C)).toArray TI (0, 0))) : w.rangeAt b A.length B := by
  intro j v hv
  rw [cell_of_row w b (A.length + j) _ _ _ h, List.getElem?_toArray, List.getElem?_append_right (by omega), show A.length + j - A.length = j by omega]
  rw [List.getElem?_append_left (List.getElem?_eq_some_iff.1 hv).1]
  exact hv
theorem HasI.first {TI : TypeId} {w : World} {b : Nat} {P0 G T V : List Value} {X Y L N : Int} (h : HasI TI w b P0 G T V X Y L N) : w.rangeAt b 0 P0 := range_part (A := []) (TI := TI) h.1
theorem HasI.regs {TI : TypeId} {w : World} {b : Nat} {P0 G T V : List Value} {X Y L N : Int} (h : HasI TI w b P0 G T V X Y L N) : w.rangeAt b P0.length G := range_part h.1
theorem HasI.table {TI : TypeId} {w : World} {b : Nat} {P0 G T V : List Value} {X Y L N : Int} (h : HasI TI w b P0 G T V X Y L N) : w.rangeAt b (P0.length + 21) T := by
  have k := range_part (A := P0 ++ G) (B := T) (C := V ++ [.int .i64 X, .int .i64 Y, .int .i64 L, .int .i64 N]) (TI := TI) (by rw [List.append_assoc]; exact h.1)
  rw [List.length_append, h.2.1] at k
  exact k
theorem HasI.vce {TI : TypeId} {w : World} {b : Nat} {P0 G T V : List Value} {X Y L N : Int} (h : HasI TI w b P0 G T V X Y L N) : w.rangeAt b (P0.length + 277) V := by
  have k := range_part (A := P0 ++ (G ++ T)) (B := V) (C := [.int .i64 X, .int .i64 Y, .int .i64 L, .int .i64 N]) (TI := TI) (by rw [List.append_assoc, List.append_assoc]; exact h.1)
  rw [List.length_append, List.length_append, h.2.1, h.2.2.1] at k
  exact k
theorem HasI.tail {TI : TypeId} {w : World} {b : Nat} {P0 G T V : List Value} {X Y L N : Int} (h : HasI TI w b P0 G T V X Y L N) : w.rangeAt b (P0.length + 791) [.int .i64 X, .int .i64 Y, .int .i64 L, .int .i64 N] := by
  have k := range_part (A := P0 ++ (G ++ (T ++ V))) (B := [.int .i64 X, .int .i64 Y, .int .i64 L, .int .i64 N]) (C := []) (TI := TI) (by rw [List.append_assoc, List.append_assoc, List.append_assoc, List.append_nil]; exact h.1)
  rw [List.length_append, List.length_append, List.length_append, h.2.1, h.2.2.1, h.2.2.2] at k
  exact k
theorem HasI.x {TI : TypeId} {w : World} {b : Nat} {P0 G T V : List Value} {X Y L N : Int} (h : HasI TI w b P0 G T V X Y L N) : w.cell? ⟨b, P0.length + 791, none⟩ = some (.int .i64 X) := h.tail 0 _ rfl
theorem HasI.y {TI : TypeId} {w : World} {b : Nat} {P0 G T V : List Value} {X Y L N : Int} (h : HasI TI w b P0 G T V X Y L N) : w.cell? ⟨b, P0.length + 792, none⟩ = some (.int .i64 Y) := h.tail 1 _ rfl
theorem HasI.l {TI : TypeId} {w : World} {b : Nat} {P0 G T V : List Value} {X Y L N : Int} (h : HasI TI w b P0 G T V X Y L N) : w.cell? ⟨b, P0.length + 793, none⟩ = some (.int .i64 L) := h.tail 2 _ rfl
theorem HasI.n {TI : TypeId} {w : World} {b : Nat} {P0 G T V : List Value} {X Y L N : Int} (h : HasI TI w b P0 G T V X Y L N) : w.cell? ⟨b, P0.length + 794, none⟩ = some (.int .i64 N) := h.tail 3 _ rfl
theorem HasI.frozen {TI : TypeId} {w : World} {b : Nat} {P0 G T V : List Value} {X Y L N : Int} (h : HasI TI w b P0 G T V X Y L N) (j : Nat) : w.frozen? ⟨b, j, none⟩ = false := frozen_of_row w b j _ _ h.1
/-- A part of a row laid anew. -/
theorem fold_put (off : Nat) : ∀ (cs B A C : List Value) (k : Nat), B.length = cs.length → A.length = off + k → (cs.zipIdx k).foldl (fun (acc : Array Value) (p : Value × Nat) => acc.setIfInBounds (off + p.2) p.1) (A ++ (B ++ C)).toArray = (A ++ (cs ++ C)).toArray
  | [], B, A, C, k, h, _ => by
    cases B with
    | nil => rfl
    | cons b B => cases h
  | c :: cs, B, A, C, k, h, hA => by
    cases B with
    | nil => cases h
    | cons b B =>
      rw [List.zipIdx_cons, List.foldl_cons]
      have e : (A ++ (b :: B ++ C)).toArray.setIfInBounds (off + k) c = ((A ++ [c]) ++ (B ++ C)).toArray := by
        rw [← hA, List.setIfInBounds_toArray, List.set_append_right _ _ (Nat.le_refl _), Nat.sub_self]
        simp
      show List.foldl _ ((A ++ (b :: B ++ C)).toArray.setIfInBounds (off + k) c) _ = _
      rw [e, fold_put off cs B (A ++ [c]) C (k + 1) (by simpa using h) (by simp; omega)]
      simp
theorem fill_part {place : Nat → Option (Nat × Nat)} {cells : Array Value} {i off size : Nat} {v : Value} {rest : List (Nat × Value)} (A B C D : List Value) (hc : cells = (A ++ (B ++ C)).toArray) (hp : place i = some (off, size)) (hA : A.length = off) (hv : v.cells.toList = D) (hD : D.length = size) (hB : B.length = size) :
    Instr.fill place cells ((i, v) :: rest) = Instr.fill place (A ++ (D ++ C)).toArray rest := by
  subst hc
  have hs : v.cells.size = size := by rw [← Array.length_toList, hv, hD]
  rw [Instr.fill, hp]
  simp only [hs]
  rw [if_neg (by simp [hA, hB])]
  congr 1
  rw [← Array.foldl_toList, Array.toList_zipIdx, hv]
  exact fold_put off D B A C 0 (by omega) (by omega)
theorem fill_first {place : Nat → Option (Nat × Nat)} {p v : Value} {G T V : List Value} {X Y L N : Int} {i : Nat} {rest : List (Nat × Value)} (hp : place i = some (0, 1)) (hv : v.cells.toList = [v]) : Instr.fill place (inL [p] G T V X Y L N).toArray ((i, v) :: rest) = Instr.fill place (inL [v] G T V X Y L N).toArray rest :=
  fill_part [] [p] _ [v] rfl hp rfl hv rfl rfl
theorem fill_G {place : Nat → Option (Nat × Nat)} {P0 G T V : List Value} {X Y L N : Int} {i : Nat} {rest : List (Nat × Value)} (hG : G.length = 21) (hT : T.length = 256) (hV : V.length = 514) {D : List Value} (hp : place i = some (P0.length, 21)) (hD : D.length = 21) : Instr.fill place (inL P0 G T V X Y L N).toArray ((i, .agg D.toArray) :: rest) = Instr.fill place (inL P0 D T V X Y L N).toArray rest :=
  fill_part P0 G _ D rfl hp rfl rfl hD hG
theorem fill_T {place : Nat → Option (Nat × Nat)} {P0 G T V : List Value} {X Y L N : Int} {i : Nat} {rest : List (Nat × Value)} (hG : G.length = 21) (hT : T.length = 256) (hV : V.length = 514) {D : List Value} (hp : place i = some (P0.length + 21, 256)) (hD : D.length = 256) : Instr.fill place (inL P0 G T V X Y L N).toArray ((i, .agg D.toArray) :: rest) = Instr.fill place (inL P0 G D V X Y L N).toArray rest := by
  rw [fill_part (P0 ++ G) T (V ++ [.int .i64 X, .int .i64 Y, .int .i64 L, .int .i64 N]) D (by unfold inL; rw [List.append_assoc]) hp (by rw [List.length_append, hG]) rfl hD hT]
  unfold inL
  rw [List.append_assoc]
theorem fill_V {place : Nat → Option (Nat × Nat)} {P0 G T V : List Value} {X Y L N : Int} {i : Nat} {rest : List (Nat × Value)} (hG : G.length = 21) (hT : T.length = 256) (hV : V.length = 514) {D : List Value} (hp : place i = some (P0.length + 277, 514)) (hD : D.length = 514) : Instr.fill place (inL P0 G T V X Y L N).toArray ((i, .agg D.toArray) :: rest) = Instr.fill place (inL P0 G T D X Y L N).toArray rest := by
  rw [fill_part (P0 ++ (G ++ T)) V [.int .i64 X, .int .i64 Y, .int .i64 L, .int .i64 N] D (by unfold inL; rw [List.append_assoc, List.append_assoc]) hp (by rw [List.length_append, List.length_append, hG, hT]) rfl hD hV]
  unfold inL
  rw [List.append_assoc, List.append_assoc]
theorem fill_X {place : Nat → Option (Nat × Nat)} {P0 G T V : List Value} {X Y L N : Int} {i : Nat} {rest : List (Nat × Value)} (hG : G.length = 21) (hT : T.length = 256) (hV : V.length = 514) {Z : Int} (hp : place i = some (P0.length + 791, 1)) : Instr.fill place (inL P0 G T V X Y L N).toArray ((i, .int .i64 Z) :: rest) = Instr.fill place (inL P0 G T V Z Y L N).toArray rest := by
  rw [fill_part (P0 ++ (G ++ (T ++ (V ++ [])))) [.int .i64 X] [.int .i64 Y, .int .i64 L, .int .i64 N] [.int .i64 Z] (by unfold inL; simp [List.append_assoc]) hp (by simp [hG, hT, hV]) rfl rfl rfl]
  unfold inL
  simp [List.append_assoc]
theorem fill_Y {place : Nat → Option (Nat × Nat)} {P0 G T V : List Value} {X Y L N : Int} {i : Nat} {rest : List (Nat × Value)} (hG : G.length = 21) (hT : T.length = 256) (hV : V.length = 514) {Z : Int} (hp : place i = some (P0.length + 792, 1)) : Instr.fill place (inL P0 G T V X Y L N).toArray ((i, .int .i64 Z) :: rest) = Instr.fill place (inL P0 G T V X Z L N).toArray rest := by
  rw [fill_part (P0 ++ (G ++ (T ++ (V ++ [.int .i64 X])))) [.int .i64 Y] [.int .i64 L, .int .i64 N] [.int .i64 Z] (by unfold inL; simp [List.append_assoc]) hp (by simp [hG, hT, hV]) rfl rfl rfl]
  unfold inL
  simp [List.append_assoc]
theorem fill_L {place : Nat → Option (Nat × Nat)} {P0 G T V : List Value} {X Y L N : Int} {i : Nat} {rest : List (Nat × Value)} (hG : G.length = 21) (hT : T.length = 256) (hV : V.length = 514) {Z : Int} (hp : place i = some (P0.length + 793, 1)) : Instr.fill place (inL P0 G T V X Y L N).toArray ((i, .int .i64 Z) :: rest) = Instr.fill place (inL P0 G T V X Y Z N).toArray rest := by
  rw [fill_part (P0 ++ (G ++ (T ++ (V ++ [.int .i64 X, .int .i64 Y])))) [.int .i64 L] [.int .i64 N] [.int .i64 Z] (by unfold inL; simp [List.append_assoc]) hp (by simp [hG, hT, hV]) rfl rfl rfl]
  unfold inL
  simp [List.append_assoc]
theorem fill_N {place : Nat → Option (Nat × Nat)} {P0 G T V : List Value} {X Y L N : Int} {i : Nat} {rest : List (Nat × Value)} (hG : G.length = 21) (hT : T.length = 256) (hV : V.length = 514) {Z : Int} (hp : place i = some (P0.length + 794, 1)) : Instr.fill place (inL P0 G T V X Y L N).toArray ((i, .int .i64 Z) :: rest) = Instr.fill place (inL P0 G T V X Y L Z).toArray rest := by
  rw [fill_part (P0 ++ (G ++ (T ++ (V ++ [.int .i64 X, .int .i64 Y, .int .i64 L])))) [.int .i64 N] [] [.int .i64 Z] (by unfold inL; simp [List.append_assoc]) hp (by simp [hG, hT, hV]) rfl rfl rfl]
  unfold inL
  simp [List.append_assoc]
def zG : List Value := gL 0 fun _ => 0
def zV : List Value := vL 0 0 fun _ => 0
def zT : List Value := tabL fun _ => 0
theorem zG_length : zG.length = 21 := gL_length _ _
theorem zV_length : zV.length = 514 := vL_length _ _ _
theorem zT_length : zT.length = 256 := tabL_length _
theorem zG_all : ∀ v ∈ zG, v = Value.int .i64 0 := by
  intro v hv
  unfold zG gL R15.rowG at hv
  simp only [List.mem_cons, List.mem_map] at hv
  rcases hv with h | ⟨j, _, h⟩
  · exact h
  · exact h.symm
theorem zV_all : ∀ v ∈ zV, v = Value.int .i64 0 := by
  intro v hv
  unfold zV vL V12.rowV at hv
  simp only [List.mem_cons, List.mem_map] at hv
  rcases hv with h | h | ⟨j, _, h⟩
  · exact h
  · exact h
  · exact h.symm
theorem zT_all : ∀ v ∈ zT, v = Value.int .i64 0 := by
  intro v hv
  unfold zT tabL valsOf at hv
  simp only [List.mem_map] at hv
  obtain ⟨j, _, h⟩ := hv
  exact h.symm
theorem zero_parts : zG ++ (zT ++ (zV ++ [Value.int .i64 0, .int .i64 0, .int .i64 0, .int .i64 0])) = List.replicate 795 (.int .i64 0) := by
  refine List.eq_replicate_iff.2 ⟨?_, fun v hv => ?_⟩
  · simp only [List.length_append, zG_length, zT_length, zV_length, List.length_cons, List.length_nil]
  · simp only [List.mem_append, List.mem_cons, List.not_mem_nil, or_false] at hv
    rcases hv with h | h | h | h | h | h | h
    · exact zG_all v h
    · exact zT_all v h
    · exact zV_all v h
    all_goals exact h
def isZeroI : Option Value → Bool | some (.agg ⟨.pointer none :: xs⟩) => allZ 795 xs | _ => false
def isZeroJ : Option Value → Bool | some (.agg ⟨xs⟩) => allZ 795 xs | _ => false
def zeroI : Array Value := (inL [.pointer none] zG zT zV 0 0 0 0).toArray
def zeroJ : Array Value := (inL [] zG zT zV 0 0 0 0).toArray
theorem isZeroI_eq {v : Option Value} (h : isZeroI v = true) : v = some (.agg zeroI) := by
  unfold isZeroI at h
  split at h
  · rename_i xs
    have k := allZ_eq _ _ h
    subst k
    unfold zeroI inL
    rw [zero_parts]
    rfl
  · cases h
theorem isZeroJ_eq {v : Option Value} (h : isZeroJ v = true) : v = some (.agg zeroJ) := by
  unfold isZeroJ at h
  split at h
  · rename_i xs
    have k := allZ_eq _ _ h
    subst k
    unfold zeroJ inL
    rw [zero_parts]
    rfl
  · cases h
theorem zero_I : Tryd.t43.zero = some (.agg zeroI) := isZeroI_eq (by kernel_rfl)
def placeI (i : Nat) : Option (Nat × Nat) := #[(0, 1), (1, 21), (22, 256), (278, 514), (792, 1), (793, 1), (794, 1), (795, 1)][i]?
set_option maxRecDepth 100000 in
theorem built_I (parts : List (Nat × Value)) : Tryd.prog.built 43 parts = Instr.fill placeI zeroI parts := by
  have h1 : Tryd.prog.info? 43 = some Tryd.t43 := by kernel_rfl
  unfold Program.built
  simp only [h1, Tryd.underlying43, zero_I]
  rfl
theorem info_I {P0 G T V : List Value} {X Y L N : Int} (h0 : P0.length = 1) (hG : G.length = 21) (hT : T.length = 256) (hV : V.length = 514) : (Tryd.prog.info? 43).map (·.size) = some (inL P0 G T V X Y L N).toArray.size := by
  rw [List.size_toArray, inL_length hG hT hV, h0]
  kernel_rfl
theorem inL_one {P0 G T V : List Value} {X Y L N : Int} (h0 : ∀ v ∈ P0, v.oneCell' = true) (hG : ∀ v ∈ G, v.oneCell' = true) (hT : ∀ v ∈ T, v.oneCell' = true) (hV : ∀ v ∈ V, v.oneCell' = true) : (inL P0 G T V X Y L N).toArray.all (·.oneCell') = true := by
  rw [← Array.all_toList, List.all_eq_true]
  intro v hv
  unfold inL at hv
  simp only [List.mem_append, List.mem_cons, List.not_mem_nil, or_false] at hv
  rcases hv with h | h | h | h | h | h | h | h
  · exact h0 v h
  · exact hG v h
  · exact hT v h
  · exact hV v h
  all_goals (subst h; rfl)
theorem gL_one (s : Int) (f : Nat → Int) : ∀ v ∈ gL s f, v.oneCell' = true := by
  have h := R15.rowG_one s f
  rw [← Array.all_toList, List.all_eq_true] at h
  exact h
theorem vL_one (c a : Int) (f : Nat → Int) : ∀ v ∈ vL c a f, v.oneCell' = true := by
  have h := V12.rowV_one c a f
  rw [← Array.all_toList, List.all_eq_true] at h
  exact h
theorem tL_one (T : Nat → Int) : ∀ v ∈ tabL T, v.oneCell' = true := by
  have h := tabL_one T
  rw [← Array.all_toList, List.all_eq_true] at h
  exact h
end Go.Proofs.YtnhjhmfiapjenaaDoor
