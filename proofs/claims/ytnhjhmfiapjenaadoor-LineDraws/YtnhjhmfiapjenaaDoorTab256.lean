/- Arrays of 256 numbers: a variable of zeros, and their size. No word of the program is in it but a type's number. -/
import Derived.Test.YtnhjhmfiapjenaaDoorWords13
namespace Go.Proofs.YtnhjhmfiapjenaaDoor
open Go.RowKit
set_option linter.unusedVariables false
/-- A variable of zeros, as one step of the walk: ahead of what the walk knows of zero values by itself. -/
theorem wpList_alloced {P : Program} {ops : Array Oper} {rest : List Oper} {o : Oper} {a : Act} {w : World} {Q : Exit → Act → World → Prop} (hg : o.guard = none) (t : TypeId) (ho : o.op = .alloc t) (R : Array Value) (h : ∀ w, (zeroValue t).run P w = .ok (.agg R) w)
    (hK : wpList P ops Q rest (a.put o.dst (.pointer (some ⟨w.heap.size, 0, none⟩))) (w.alloc (.cells R t))) : wpList P ops Q (o :: rest) a w :=
  wpList_plain hg fun K hK' => by
    have e : (Instr.alloc t true (.tuple #[])).run P w = .ok (.pointer (some ⟨w.heap.size, 0, none⟩)) (w.alloc (.cells R t)) := by
      unfold Instr.alloc
      simp only [Sem.run_bind, h, Result.andThen_ok]
      rfl
    unfold Oper.wp execOp
    simp only [ho, Sem.run_bind, e, Result.andThen_ok]
    exact hK' _ _ hK
theorem zero_tab (w : World) : (zeroValue 30).run Tryd.prog w = .ok (.agg (zerosL 256).toArray) w := by kernel_rfl
theorem info_tab (l : List Value) (h : l.length = 256) : (Tryd.prog.info? 30).map (·.size) = some l.toArray.size := by
  rw [List.size_toArray, h]
  kernel_rfl
end Go.Proofs.YtnhjhmfiapjenaaDoor
