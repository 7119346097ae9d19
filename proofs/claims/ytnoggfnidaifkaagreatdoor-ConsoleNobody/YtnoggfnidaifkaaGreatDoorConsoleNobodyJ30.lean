/- A byte's row of the table: the table's literal is laid cell by cell, and one row is read off it. -/
import Derived.Test.YtnoggfnidaifkaaGreatDoorRows
import Derived.Test.YtnoggfnidaifkaaGreatDoorConsoleNobodyJ01
import Derived.Test.YtnoggfnidaifkaaGreatDoorConsoleNobodyJ28
import Derived.Laws.Tables
import Derived.Laws.Rows
import Derived.Laws.ResultCell
import Derived.Laws.CopyOwn
import Derived.Great.FillDense
import Derived.WalkKit
import Derived.Below
import Derived.OneCell
namespace Go.Proofs.YtnoggfnidaifkaaGreatDoor.O7
set_option maxRecDepth 20000
open Go.RowKit
set_option linter.unusedVariables false
set_option maxRecDepth 20000
def rowV (r : List UInt8 × Int × Int) : Value := .agg #[.string ⟨⟨r.1⟩⟩, .int .i64 r.2.1, .int .i64 r.2.2]
def rowOp (k : Nat) (r : List UInt8 × Int × Int) : Oper :=
  { dst := some k, op := .build 322 #[(0, .const (.string ⟨⟨r.1⟩⟩)), (1, .const (.int .i64 r.2.1)), (2, .const (.int .i64 r.2.2))], type := 322, pos := "opcode.go:81", after := #[], guard := none }
def rowOps : Nat → List (List UInt8 × Int × Int) → List Oper
  | _, [] => []
  | k, r :: l => rowOp k r :: rowOps (k + 1) l
def putRows : Nat → List (List UInt8 × Int × Int) → Act → Act
  | _, [], a => a
  | k, r :: l, a => putRows (k + 1) l (a.put (some k) (rowV r))
theorem wpList_value {P : Program} {ops : Array Oper} {rest : List Oper} {o : Oper} {a : Act} {w : World} {Q : Exit → Act → World → Prop} (hg : o.guard = none) (v : Value)
    (h : (execOp a.eval o).run P w = .ok (.value v) w) (hK : wpList P ops Q rest (a.put o.dst v) w) : wpList P ops Q (o :: rest) a w :=
  wpList_plain hg fun K hK' => by
    unfold Oper.wp
    rw [h]
    exact hK' _ _ hK
theorem run_row (e : Operand → Value) (he : ∀ v, e (.const v) = v) (k : Nat) (r : List UInt8 × Int × Int) (w : World) : (execOp e (rowOp k r)).run Tryz.prog w = .ok (.value (rowV r)) w := by
  simp [execOp, rowOp, he]
  rw [run_build w 322 _ #[.string ⟨⟨r.1⟩⟩, .int .i64 r.2.1, .int .i64 r.2.2] (by kernel_rfl)]
  rfl
theorem wp_rows {ops : Array Oper} {rest : List Oper} {w : World} {Q : Exit → Act → World → Prop} : ∀ (l : List (List UInt8 × Int × Int)) (k : Nat) (a : Act),
    wpList Tryz.prog ops Q rest (putRows k l a) w → wpList Tryz.prog ops Q (rowOps k l ++ rest) a w
  | [], _, _, h => h
  | r :: l, k, a, h => wpList_value rfl (rowV r) (run_row a.eval (fun _ => rfl) k r w) (wp_rows l (k + 1) _ h)
theorem putRows_defers : ∀ (l : List (List UInt8 × Int × Int)) (k : Nat) (a : Act), (putRows k l a).defers = a.defers
  | [], _, _ => rfl
  | r :: l, k, a => putRows_defers l (k + 1) _
theorem putRows_size : ∀ (l : List (List UInt8 × Int × Int)) (k : Nat) (a : Act), (putRows k l a).tmps.size = a.tmps.size
  | [], _, _ => rfl
  | r :: l, k, a => by
    rw [putRows, putRows_size l (k + 1)]
    simp [Act.put]
theorem putRows_low : ∀ (l : List (List UInt8 × Int × Int)) (k : Nat) (a : Act) (j : Nat), j < k → (putRows k l a).tmps[j]? = a.tmps[j]?
  | [], _, _, _, _ => rfl
  | r :: l, k, a, j, h => by
    rw [putRows, putRows_low l (k + 1) _ j (by omega)]
    simp only [Act.put]
    rw [Array.getElem?_setIfInBounds_ne (by omega)]
theorem putRows_at : ∀ (l : List (List UInt8 × Int × Int)) (k : Nat) (a : Act) (j : Nat) (hj : j < l.length), k + j < a.tmps.size → (putRows k l a).tmps[k + j]? = some (rowV l[j])
  | [], _, _, j, hj, _ => by simp at hj
  | r :: l, k, a, 0, hj, hs => by
    rw [putRows, putRows_low l (k + 1) _ (k + 0) (by omega)]
    simp only [Act.put, Nat.add_zero]
    rw [Array.getElem?_setIfInBounds_self_of_lt (by omega)]
    rfl
  | r :: l, k, a, j + 1, hj, hs => by
    have e : k + (j + 1) = k + 1 + j := by omega
    rw [putRows, e, putRows_at l (k + 1) _ j (by simpa using hj) (by simp [Act.put]; omega)]
    rfl
def secondOps (c : Option Code) : List Oper := match c with
  | some (.seq _ (.seq (.region _ o _) _)) => o.toList
  | _ => []
theorem body13 : ∃ o1 o2 o3 o4 : Oper, Tryz.f231.body = some (.seq (.region 0 #[{ dst := some 2, op := .alloc 322, type := 0, pos := "opcode.go:80", after := #[], guard := none }] false) (.seq (.region 1 (rowOps 3 tbl ++ [o1, o2, o3, o4]).toArray false) .ret)) ∧
    (o1.guard = none ∧ o1.dst = some 259 ∧ o1.op = .build 338 ((List.range 256).map fun i => (i, Operand.tmp (3 + i))).toArray) ∧ (o2.guard = none ∧ o2.dst = some 260 ∧ o2.op = .move (.tmp 0)) ∧
    (o3.guard = none ∧ o3.dst = some 261 ∧ o3.op = .index 338 (.tmp 259) (.tmp 260)) ∧ (o4.guard = none ∧ o4.dst = none ∧ o4.op = .store 322 (.tmp 2) (.tmp 261)) :=
  ⟨(secondOps Tryz.f231.body).getD 256 (rowOp 0 ([], 0, 0)), (secondOps Tryz.f231.body).getD 257 (rowOp 0 ([], 0, 0)), (secondOps Tryz.f231.body).getD 258 (rowOp 0 ([], 0, 0)), (secondOps Tryz.f231.body).getD 259 (rowOp 0 ([], 0, 0)),
    by kernel_rfl, ⟨by kernel_rfl, by kernel_rfl, by kernel_rfl⟩, ⟨by kernel_rfl, by kernel_rfl, by kernel_rfl⟩, ⟨by kernel_rfl, by kernel_rfl, by kernel_rfl⟩, ⟨by kernel_rfl, by kernel_rfl, by kernel_rfl⟩⟩
theorem wpList_turn {P : Program} {ops : Array Oper} {rest : List Oper} {o : Oper} {a : Act} {w w' : World} {Q : Exit → Act → World → Prop} (hg : o.guard = none) (v : Value)
    (h : (execOp a.eval o).run P w = .ok (.value v) w') (hK : wpList P ops Q rest (a.put o.dst v) w') : wpList P ops Q (o :: rest) a w :=
  wpList_plain hg fun K hK' => by
    unfold Oper.wp
    rw [h]
    exact hK' _ _ hK
theorem built45 : ∃ z : Array Value, z.size = 768 ∧ ∀ l : List (Nat × Value), Tryz.prog.built 338 l = Instr.fill (fun i => some (i * 3, 3)) z l :=
  ⟨(((Tryz.prog.info? 338).bind (·.zero)).map (·.cells)).getD #[], by kernel_rfl, fun l => by kernel_rfl⟩
theorem flat_row : ∀ (l : List (List UInt8 × Int × Int)) (j : Nat) (hj : j < l.length), (((l.map rowV).flatMap fun v => v.cells.toList).drop (3 * j)).take 3 = (rowV l[j]).cells.toList
  | [], j, hj => by simp at hj
  | r :: l, 0, _ => rfl
  | r :: l, j + 1, hj => by
    have e : 3 * (j + 1) = 3 * j + 1 + 1 + 1 := by omega
    rw [e]
    show (List.drop (3 * j) ((l.map rowV).flatMap fun v => v.cells.toList)).take 3 = _
    exact flat_row l j (by simpa using hj)
theorem run_index45 (T : List (List UInt8 × Int × Int)) (b : Nat) (hl : b < T.length) (hb : b < 256) (w : World) : (Instr.index 338 (.agg ((T.map rowV).flatMap fun v => v.cells.toList).toArray) (.int .i64 (b : Int))).run Tryz.prog w = .ok (rowV T[b]) w := by
  have h0 : (0 : Int) ≤ b ∧ (b : Int) < ((256 : Nat) : Int) := by omega
  have hs : (sizeOf 322).run Tryz.prog w = .ok 3 w := by kernel_rfl
  have hg : (isAgg 322).run Tryz.prog w = .ok true w := by kernel_rfl
  have hr := flat_row T b hl
  generalize ((T.map rowV).flatMap fun v => v.cells.toList) = cs at hr ⊢
  have e2 : List.take 3 (List.drop (b * 3) cs) = (rowV T[b]).cells.toList := by rw [Nat.mul_comm]; exact hr
  have h1 : (b : Int) < 256 := by omega
  simp only [Instr.index, asIntOf, part]
  simp only [run_underlying Tryz.underlying338, Sem.run_bind, Result.andThen]
  simp [h0, hs, hg, Result.andThen]
  rw [if_pos h1, e2]
  rfl
theorem row_walk (T : List (List UInt8 × Int × Int)) (hT : T.length = 256) (o1 o2 o3 o4 : Oper)
    (hbody : Tryz.f231.body = some (.seq (.region 0 #[{ dst := some 2, op := .alloc 322, type := 0, pos := "opcode.go:80", after := #[], guard := none }] false) (.seq (.region 1 (rowOps 3 T ++ [o1, o2, o3, o4]).toArray false) .ret)))
    (g1 : o1.guard = none) (d1 : o1.dst = some 259) (p1 : o1.op = .build 338 ((List.range 256).map fun i => (i, Operand.tmp (3 + i))).toArray)
    (g2 : o2.guard = none) (d2 : o2.dst = some 260) (p2 : o2.op = .move (.tmp 0)) (g3 : o3.guard = none) (d3 : o3.dst = some 261) (p3 : o3.op = .index 338 (.tmp 259) (.tmp 260))
    (g4 : o4.guard = none) (d4 : o4.dst = none) (p4 : o4.op = .store 322 (.tmp 2) (.tmp 261)) (b : Nat) (hb : b < 256) (w : World) :
    Calls Tryz.prog 231 #[.int .i64 (b : Int)] w fun e w' => e = .returned (rowV (T[b]'(by omega))) ∧ Below w.heap.size w w' := by
  refine calls_of_wp Tryz.func231 hbody ?_
  rw [Tryz.ntmps231]
  refine wp_seq (wp_region_lit ?_)
  refine wpList_turn rfl (.pointer (some ⟨w.heap.size, 0, none⟩)) (w' := w.alloc (.cells #[.string ⟨#[]⟩, .int .i64 0, .int .i64 0] 322)) (by kernel_rfl) ?_
  refine wpList_nil ?_
  refine wp_seq (wp_region_lit ?_)
  refine wp_rows T 3 _ ?_
  generalize ha : putRows 3 T _ = a
  have hz : ∀ (i : Nat) (hi : i < T.length), a.eval (.tmp (3 + i)) = rowV T[i] := by
    intro i hi
    rw [← ha]
    show (Array.getD _ (3 + i) undef) = _
    rw [Array.getD_eq_getD_getElem?, putRows_at T 3 _ i hi (by simp [Act.put]; omega)]
    rfl
  have h0 : a.eval (.tmp 0) = .int .i64 (b : Int) := by
    rw [← ha]
    show (Array.getD _ 0 undef) = _
    rw [Array.getD_eq_getD_getElem?, putRows_low T 3 _ 0 (by omega)]
    simp [Act.put]
  have h2 : a.eval (.tmp 2) = .pointer (some ⟨w.heap.size, 0, none⟩) := by
    rw [← ha]
    show (Array.getD _ 2 undef) = _
    rw [Array.getD_eq_getD_getElem?, putRows_low T 3 _ 2 (by omega)]
    simp [Act.put]
  have hs : a.tmps.size = 262 := by
    rw [← ha, putRows_size]
    simp [Act.put]
  have hd : a.defers = [] := by
    rw [← ha, putRows_defers]
    rfl
  clear ha
  refine wpList_value g1 (.agg ((T.map rowV).flatMap fun v => v.cells.toList).toArray) ?_ ?_
  · obtain ⟨z, z1, z2⟩ := built45
    have hp : (((List.range 256).map fun i => (i, Operand.tmp (3 + i))).toArray.map fun x => (x.1, a.eval x.2)).toList = ((T.map rowV).zipIdx 0).map fun x => (x.2, x.1) := by
      apply List.ext_getElem
      · simp [hT]
      · intro n h1 h2
        have hn : n < T.length := by simp [hT] at h2; omega
        simp [hz n hn]
    have hv := run_build (P := Tryz.prog) (w.alloc (.cells #[.string ⟨#[]⟩, .int .i64 0, .int .i64 0] 322)) 338 (((List.range 256).map fun i => (i, Operand.tmp (3 + i))).toArray.map fun x => (x.1, a.eval x.2)) ((T.map rowV).flatMap fun v => v.cells.toList).toArray
      (by rw [hp, z2]; exact Great.fill_whole (by omega) _ _ (by intro v hv; obtain ⟨r, _, rfl⟩ := List.mem_map.1 hv; rfl) (by rw [z1, List.length_map, hT]))
    have he : ∀ w : World, (execOp a.eval o1).run Tryz.prog w = ((Instr.build 338 (((List.range 256).map fun i => (i, Operand.tmp (3 + i))).toArray.map fun x => (x.1, a.eval x.2))).run Tryz.prog w).andThen fun a w' => .ok (.value a) w' := by
      intro w
      simp only [execOp, p1, Sem.run_bind, Sem.run_pure]
    rw [he, hv]
    rfl
  rw [d1]
  have a0 : (a.put (some 259) (.agg ((T.map rowV).flatMap fun v => v.cells.toList).toArray)).eval (.tmp 0) = .int .i64 (b : Int) := by
    rw [← h0]
    show Array.getD (Array.setIfInBounds a.tmps 259 _) 0 undef = Array.getD a.tmps 0 undef
    simp [Array.getD_eq_getD_getElem?]
  have a2 : (a.put (some 259) (.agg ((T.map rowV).flatMap fun v => v.cells.toList).toArray)).eval (.tmp 2) = .pointer (some ⟨w.heap.size, 0, none⟩) := by
    rw [← h2]
    show Array.getD (Array.setIfInBounds a.tmps 259 _) 2 undef = Array.getD a.tmps 2 undef
    simp [Array.getD_eq_getD_getElem?]
  have a9 : (a.put (some 259) (.agg ((T.map rowV).flatMap fun v => v.cells.toList).toArray)).eval (.tmp 259) = .agg ((T.map rowV).flatMap fun v => v.cells.toList).toArray := by
    show Array.getD (Array.setIfInBounds a.tmps 259 _) 259 undef = _
    simp [Array.getD_eq_getD_getElem?, hs]
  have asz : (a.put (some 259) (.agg ((T.map rowV).flatMap fun v => v.cells.toList).toArray)).tmps.size = 262 := by simp [Act.put, hs]
  have ad : (a.put (some 259) (.agg ((T.map rowV).flatMap fun v => v.cells.toList).toArray)).defers = [] := hd
  generalize (a.put (some 259) (.agg ((T.map rowV).flatMap fun v => v.cells.toList).toArray)) = a' at a0 a2 a9 asz ad ⊢
  clear hz h0 h2 hs hd a
  refine wpList_value g2 (.int .i64 (b : Int)) (by simp only [execOp, p2, a0]; rfl) ?_
  rw [d2]
  have b2 : (a'.put (some 260) (.int .i64 (b : Int))).eval (.tmp 2) = .pointer (some ⟨w.heap.size, 0, none⟩) := by
    rw [← a2]
    show Array.getD (Array.setIfInBounds a'.tmps 260 _) 2 undef = Array.getD a'.tmps 2 undef
    simp [Array.getD_eq_getD_getElem?]
  have b9 : (a'.put (some 260) (.int .i64 (b : Int))).eval (.tmp 259) = .agg ((T.map rowV).flatMap fun v => v.cells.toList).toArray := by
    rw [← a9]
    show Array.getD (Array.setIfInBounds a'.tmps 260 _) 259 undef = Array.getD a'.tmps 259 undef
    simp [Array.getD_eq_getD_getElem?]
  have b0 : (a'.put (some 260) (.int .i64 (b : Int))).eval (.tmp 260) = .int .i64 (b : Int) := by
    show Array.getD (Array.setIfInBounds a'.tmps 260 _) 260 undef = _
    simp [Array.getD_eq_getD_getElem?, asz]
  have bs : (a'.put (some 260) (.int .i64 (b : Int))).tmps.size = 262 := by simp [Act.put, asz]
  have bd : (a'.put (some 260) (.int .i64 (b : Int))).defers = [] := ad
  generalize (a'.put (some 260) (.int .i64 (b : Int))) = a at b0 b2 b9 bs bd ⊢
  clear a0 a2 a9 asz ad a'
  refine wpList_value g3 (rowV (T[b]'(by omega))) ?_ ?_
  · have he : ∀ w : World, (execOp a.eval o3).run Tryz.prog w = ((Instr.index 338 (a.eval (.tmp 259)) (a.eval (.tmp 260))).run Tryz.prog w).andThen fun a w' => .ok (.value a) w' := by
      intro w
      simp only [execOp, p3, Sem.run_bind, Sem.run_pure]
    rw [he, b9, b0, run_index45 T b (by omega) hb]
    rfl
  rw [d3]
  have c2 : (a.put (some 261) (rowV (T[b]'(by omega)))).eval (.tmp 2) = .pointer (some ⟨w.heap.size, 0, none⟩) := by
    rw [← b2]
    show Array.getD (Array.setIfInBounds a.tmps 261 _) 2 undef = Array.getD a.tmps 2 undef
    simp [Array.getD_eq_getD_getElem?]
  have c1 : (a.put (some 261) (rowV (T[b]'(by omega)))).eval (.tmp 261) = rowV (T[b]'(by omega)) := by
    show Array.getD (Array.setIfInBounds a.tmps 261 _) 261 undef = _
    simp [Array.getD_eq_getD_getElem?, bs]
  have cd : (a.put (some 261) (rowV (T[b]'(by omega)))).defers = [] := bd
  generalize (a.put (some 261) (rowV (T[b]'(by omega)))) = a' at c1 c2 cd ⊢
  have hR := heap_alloc_new w (.cells #[.string ⟨#[]⟩, .int .i64 0, .int .i64 0] 322)
  refine wpList_store_row g4 322 (.tmp 2) (.tmp 261) p4 w.heap.size _ c2 c1 322 _ hR (by kernel_rfl) rfl (by kernel_rfl) ?_
  refine wpList_nil ?_
  rw [d4]
  refine wp_ret ?_
  refine bodyPost_ret (results_cell_row rfl _ _ w.heap.size 322 _ (0, 0) _ c2 (setRow_heap _ _ _ _ _ _ hR) Tryz.underlying322 rfl (by kernel_rfl)) cd ?_
  exact ⟨rfl, below_setRow ((Below.refl _ w).alloc (Nat.le_refl _) _) (Nat.le_refl _) _⟩
theorem row_any (b : Nat) (hb : b < 256) (w : World) : Calls Tryz.prog 231 #[.int .i64 (b : Int)] w fun e w' => e = .returned (rowV (rowAt b)) ∧ Below w.heap.size w w' := by
  obtain ⟨o1, o2, o3, o4, hbody, ⟨g1, d1, p1⟩, ⟨g2, d2, p2⟩, ⟨g3, d3, p3⟩, ⟨g4, d4, p4⟩⟩ := body13
  have hl : b < tbl.length := by rw [tbl_length]; exact hb
  have ht : rowAt b = tbl[b] := by unfold rowAt; rw [List.getD_eq_getElem?_getD, List.getElem?_eq_getElem hl]; rfl
  rw [ht]
  exact row_walk tbl tbl_length o1 o2 o3 o4 hbody g1 d1 p1 g2 d2 p2 g3 d3 p3 g4 d4 p4 b hb w
end Go.Proofs.YtnoggfnidaifkaaGreatDoor.O7
