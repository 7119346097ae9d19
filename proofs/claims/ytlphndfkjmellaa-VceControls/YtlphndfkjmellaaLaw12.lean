/- What the laws of layer 12 lean on besides: a part of a row that is loaded under a guard, '!=' of tables, bits of Control. -/
import Derived.Test.YtlphndfkjmellaaVceR
import Derived.Test.YtlphndfkjmellaaPlainAlu
import Derived.Deep.MidRow
namespace Go.Proofs.Ytlphndfkjmellaa
open Go.RowKit
set_option linter.unusedVariables false

theorem wpList_mid_want {P : Program} {ops : Array Oper} {rest : List Oper} {op : Oper} {a : Act} {w : World} {Q : Exit → Act → World → Prop} (hw : Region.wanted op (yielded ops a.tmps) = true) (ty : TypeId) (x : Operand) (ho : op.op = .load ty x)
    (b o : Nat) (hx : a.eval x = .pointer (some ⟨b, o, none⟩)) (cs : List Value) (d : TypeDesc) (hc : w.rangeAt b o cs)
    (hu : P.underlying ty = some d) (hd : d.isRow = true) (hi : (P.info? ty).map (·.size) = some cs.length)
    (h : wpList P ops Q rest (a.put op.dst (.agg cs.toArray)) w) : wpList P ops Q (op :: rest) a w :=
  BigFrame.wpList_want hw fun _ hK => wp_load_mid ty x ho b o hx cs d hc hu hd hi (hK _ _ h)
theorem HasV.range {T : TypeId} {w : World} {b : Nat} {c a : Int} {f : Nat → Int} (h : HasV T w b c a f) : w.rangeAt b 2 ((listV f).map (Value.int .i64)) := by
  intro j v hv
  obtain ⟨hj, he⟩ := List.getElem?_eq_some_iff.1 hv
  have h5 : j < 512 := by simpa [listV_length] using hj
  rw [h.at j h5, ← he]
  simp [listV]
theorem info_T (f : Nat → Int) : (Try.prog.info? 23).map (·.size) = some ((listV f).map (Value.int .i64)).length := by
  rw [List.length_map, listV_length]
  kernel_rfl
theorem neq_tab (f : Nat → Int) (w : World) : (binOp .neq 23 (.agg ((listV f).map (Value.int .i64)).toArray) (.agg ((listV f).map (Value.int .i64)).toArray)).run Try.prog w = .ok (.bool false) w := by
  rw [run_neq_struct, same_tab f 9998 w]
  rfl
theorem bit_2 (n : Int) : bitOf n 2 = n / 4 % 2 := by
  rw [bitOf_in n 2 (by decide) (by decide)]
  show n % 65536 / 4 % 2 = n / 4 % 2
  omega
theorem bit_7 (n : Int) : bitOf n 7 = n / 128 % 2 := by
  rw [bitOf_in n 7 (by decide) (by decide)]
  show n % 65536 / 128 % 2 = n / 128 % 2
  omega
end Go.Proofs.Ytlphndfkjmellaa
