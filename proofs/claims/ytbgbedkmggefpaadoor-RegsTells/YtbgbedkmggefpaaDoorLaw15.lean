/- What the laws of layer 15 lean on besides: registers that are built, a composite as one step of the walk. -/
import Derived.Test.YtbgbedkmggefpaaDoorWrite15
namespace Go.Proofs.YtbgbedkmggefpaaDoor
open Go.RowKit
set_option linter.unusedVariables false

/-- A composite, as one step of the walk: ahead of what the walk knows of zero values by itself. -/
theorem wpList_built {P : Program} {ops : Array Oper} {rest : List Oper} {o : Oper} {a : Act} {w : World} {Q : Exit → Act → World → Prop} (hg : o.guard = none) (t : TypeId) (parts : Array (Nat × Operand)) (ho : o.op = .build t parts)
    (vals : Array (Nat × Value)) (hp : (parts.map fun (i, x) => (i, a.eval x)) = vals) (R : Array Value) (h : ∀ w, (Instr.build t vals).run P w = .ok (.agg R) w) (hK : wpList P ops Q rest (a.put o.dst (.agg R)) w) : wpList P ops Q (o :: rest) a w :=
  wpList_plain hg fun K hK' => by
    unfold Oper.wp execOp
    simp only [ho, hp, Sem.run_bind, h, Result.andThen_ok]
    exact hK' _ _ hK
/-- A world under a name. -/
theorem under_calls {P : Program} {f : FuncId} {args : Array Value} {w : World} {Q : Ending → World → Prop} (h : ∀ u, u = w → Calls P f args u Q) : Calls P f args w Q := h w rfl
theorem under_list {P : Program} {ops : Array Oper} {Q : Exit → Act → World → Prop} {rest : List Oper} {a : Act} {w : World} (h : ∀ u, u = w → wpList P ops Q rest a u) : wpList P ops Q rest a w := h w rfl
theorem built_sel (n : Int) (w : World) : (Instr.build 24 #[(0, .int .i64 n)]).run Tryd.prog w = .ok (.agg (rowG n (fun _ => 0))) w := run_build w 24 _ _ (by kernel_rfl)
theorem built_both (n : Int) (f : Nat → Int) (w : World) : (Instr.build 24 #[(0, .int .i64 n), (1, .agg ((listG f).map (Value.int .i64)).toArray)]).run Tryd.prog w = .ok (.agg (rowG n f)) w := run_build w 24 _ _ (by kernel_rfl)
end Go.Proofs.YtbgbedkmggefpaaDoor
