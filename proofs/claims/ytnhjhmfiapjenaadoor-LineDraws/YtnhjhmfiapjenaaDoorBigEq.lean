/- '==' of two such structs that are the same, and of their arrays; a load of a whole row in a region that draws its order; a number and a struct as results. -/
import Derived.Test.YtnhjhmfiapjenaaDoorBig12
import Derived.Test.YtnhjhmfiapjenaaDoorGenA
import Derived.Deep.Quiet
import Derived.BigFrame
namespace Go.Proofs.YtnhjhmfiapjenaaDoor.V12
open Go.RowKit
set_option linter.unusedVariables false

theorem results_tmp_agg {P : Program} {fn : Func} {p u : Tmp} {ty : TypeId} (h : fn.results = #[.tmp u, .cell p ty]) (tmps : Array Value) (w : World) (g : Nat) (t : TypeId) (cs : Array Value) (fr : Nat × Nat) (d : TypeDesc)
    (hp : tmps.getD p undef = .pointer (some ⟨g, 0, none⟩)) (hg : w.heap[g]? = some (.cells cs t fr))
    (hu : P.underlying ty = some d) (hd : (match d with | .struct _ | .array _ _ => true | _ => false) = true) (hi : (P.info? ty).map (·.size) = some cs.size) :
    (results fn tmps).run P w = .ok (.tuple #[tmps.getD u undef, .agg cs]) w := by
  have hp' : tmps[p]?.getD undef = .pointer (some ⟨g, 0, none⟩) := by simpa using hp
  simp [results, h, hp', asAddr, run_loadVar_row w g t ty cs fr d hg hu hd hi]

/-- A load of a whole row that is guarded, and wanted. -/
theorem wpList_load_want {P : Program} {ops : Array Oper} {rest : List Oper} {o : Oper} {a : Act} {w : World} {Q : Exit → Act → World → Prop} (hw : Region.wanted o (yielded ops a.tmps) = true) (ty : TypeId) (x : Operand) (ho : o.op = .load ty x)
    (g : Nat) (hx : a.eval x = .pointer (some ⟨g, 0, none⟩)) (t : TypeId) (cs : Array Value) (fr : Nat × Nat) (d : TypeDesc) (hg : w.heap[g]? = some (.cells cs t fr))
    (hu : P.underlying ty = some d) (hd : (match d with | .struct _ | .array _ _ => true | _ => false) = true) (hi : (P.info? ty).map (·.size) = some cs.size)
    (h : wpList P ops Q rest (a.put o.dst (.agg cs)) w) : wpList P ops Q (o :: rest) a w :=
  BigFrame.wpList_want hw fun _ hK => wp_load_row ty x ho g hx t cs fr d hg hu hd hi (hK _ _ h)
theorem wpQuiet_row {P : Program} {ops : Array Oper} {C : World → Prop} {Q : Act → Prop} {a : Act} {o : Oper} {rest : List Oper} (hw : Region.wanted o (yielded ops a.tmps) = true) (ty : TypeId) (x : Operand) (ho : o.op = .load ty x)
    (g : Nat) (hx : a.eval x = .pointer (some ⟨g, 0, none⟩)) (t : TypeId) (cs : Array Value) (fr : Nat × Nat) (d : TypeDesc) (hg : ∀ w, C w → w.heap[g]? = some (.cells cs t fr))
    (hu : P.underlying ty = some d) (hd : (match d with | .struct _ | .array _ _ => true | _ => false) = true) (hi : (P.info? ty).map (·.size) = some cs.size)
    (h : wpQuiet P ops C Q rest (a.put o.dst (.agg cs))) : wpQuiet P ops C Q (o :: rest) a := by
  unfold wpQuiet
  rw [if_pos hw]
  refine ⟨.agg cs, fun w hC => ?_, h⟩
  unfold Oper.quietAt execOp
  simp only [ho, hx, Instr.loadAt, Instr.sureAddr, Sem.run_bind, Sem.run_pure, Result.andThen_ok, run_loadVar_row w g t ty cs fr d (hg w hC) hu hd hi]
  exact ⟨rfl, rfl⟩

def listV (f : Nat → Int) : List Int := (List.range 512).map f
theorem listV_length (f : Nat → Int) : (listV f).length = 512 := by simp [listV]
theorem rowV_extract (c a : Int) (f : Nat → Int) : (rowV c a f).extract 2 514 = ((listV f).map (Value.int .i64)).toArray := by
  apply Array.ext_getElem?
  intro j
  rw [Array.getElem?_extract]
  have hs := rowV_size c a f
  by_cases h : j < 512
  · rw [if_pos (by omega), rowV_at c a f j h]
    simp [listV, h]
  · rw [if_neg (by omega)]
    exact (Array.getElem?_eq_none (by simp [listV]; omega)).symm
theorem part_0 (c a : Int) (f : Nat → Int) (w : World) : (part 3 (rowV c a f) 0).run Tryd.prog w = .ok (.int .i64 c) w := by
  have h := rowV_0 c a f
  simp [part, isAgg, run_underlying Tryd.underlying3, h]
theorem part_1 (c a : Int) (f : Nat → Int) (w : World) : (part 3 (rowV c a f) 1).run Tryd.prog w = .ok (.int .i64 a) w := by
  have h := rowV_1 c a f
  simp [part, isAgg, run_underlying Tryd.underlying3, h]
theorem size_tab (w : World) : (sizeOf 32).run Tryd.prog w = .ok 512 w := by
  have h : (Tryd.prog.info? 32).map (·.size) = some 512 := by kernel_rfl
  cases hq : Tryd.prog.info? 32 with
  | none => rw [hq] at h; cases h
  | some i =>
    rw [hq] at h
    have : i.size = 512 := by simpa using h
    simp [sizeOf, typeInfo, hq, this]
theorem size_int (w : World) : (sizeOf 3).run Tryd.prog w = .ok 1 w := by
  have h : (Tryd.prog.info? 3).map (·.size) = some 1 := by kernel_rfl
  cases hq : Tryd.prog.info? 3 with
  | none => rw [hq] at h; cases h
  | some i =>
    rw [hq] at h
    have : i.size = 1 := by simpa using h
    simp [sizeOf, typeInfo, hq, this]
theorem part_2 (c a : Int) (f : Nat → Int) (w : World) : (part 32 (rowV c a f) 2).run Tryd.prog w = .ok (.agg ((listV f).map (Value.int .i64)).toArray) w := by
  have h := rowV_extract c a f
  have hs := rowV_size c a f
  simp [part, isAgg, run_underlying Tryd.underlying32, h, hs]
theorem same_tab (f : Nat → Int) (d : Nat) (w : World) : (Op.equalIn (d + 2) 32 (.agg ((listV f).map (Value.int .i64)).toArray) (.agg ((listV f).map (Value.int .i64)).toArray)).run Tryd.prog w = .ok true w := by
  rw [run_equalIn_ints w d 32 3 512 Tryd.underlying32 Tryd.underlying3 size_int _ _ (listV_length f) (listV_length f), beq_self_eq_true]
theorem eqV_self (c a : Int) (f : Nat → Int) (w : World) : (binOp .eql 34 (.agg (rowV c a f)) (.agg (rowV c a f))).run Tryd.prog w = .ok (.bool true) w := by
  rw [run_eql_struct, run_equalIn_struct w 9999 34 _ _ (by kernel_rfl) (by kernel_rfl)]
  simp only [Program.fieldsOf, Tryd.underlying34, Op.eqFields]
  have i0 : ∀ w, (Op.equalIn 9999 3 (.int .i64 c) (.int .i64 c)).run Tryd.prog w = .ok true w := fun w => by
    rw [run_equalIn_int w 9998 3 .i64 .i64 _ _ Tryd.underlying3]
    simp
  have i1 : ∀ w, (Op.equalIn 9999 3 (.int .i64 a) (.int .i64 a)).run Tryd.prog w = .ok true w := fun w => by
    rw [run_equalIn_int w 9998 3 .i64 .i64 _ _ Tryd.underlying3]
    simp
  have i2 := same_tab f 9997
  simp [Sem.run_bind, part_0, part_1, part_2, i0, i1, i2]
end Go.Proofs.YtnhjhmfiapjenaaDoor.V12
