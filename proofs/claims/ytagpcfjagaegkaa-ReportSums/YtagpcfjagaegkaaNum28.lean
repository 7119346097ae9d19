/- A number's bytes laid behind a row of bytes of one's own. -/
import Derived.Test.YtagpcfjagaegkaaRows
import Derived.Test.YtagpcfjagaegkaaPlain
import Derived.Test.YtagpcfjagaegkaaRowkit
import Derived.Laws.AppendOwn
import Derived.OwnWalk
import Derived.Below
namespace Go.Proofs.Ytagpcfjagaegkaa
open Go.RowKit
set_option linter.unusedVariables false
theorem info_byte : ∃ i, Try.prog.info? 5 = some i ∧ i.zero = some (.int .u8 0) ∧ i.size = 1 ∧ i.bytes = 1 := info_parts (by kernel_rfl)
/-- Some bytes are laid behind a row of bytes of one's own. -/
theorem wpList_append_bytes {w : World} {ops : Array Oper} {rest : List Oper} {o : Oper} {a : Act} {Q : Exit → Act → World → Prop} (hg : o.guard = none) (s x : Operand)
    (ho : o.op = .call { callee := .builtin .append, args := #[s, x], argTypes := #[30, 30] }) (B g0 n m : Nat) (v : Value) (xs : List Value) (ts : List Int) (hs : a.eval s = v)
    (hx : a.eval x = .slice (some ⟨g0, 0, none⟩) m m) (hm : ts.length = m) (own : w.ownsRow B 5 1 v n xs) (h0 : w.heap[g0]? = some (.cells (ts.map (Value.int .u8)).toArray 5 (0, 0))) (hB : B ≤ w.heap.size) (hn : n + m ≤ 1000000)
    (h : ∀ v' w', w'.ownsRow B 5 1 v' (n + m) (xs ++ ts.map (Value.int .u8)) → Below B w w' → wpList Try.prog ops Q rest (a.put o.dst v') w') : wpList Try.prog ops Q (o :: rest) a w := by
  obtain ⟨i0, hi, hz0, hz1, hz2⟩ := info_byte
  refine wpList_append_own _ hg s x 30 ho B 5 i0 (.int .u8 0) 1 1 Try.underlying30 hi hz0 hz1 hz2 rfl (by decide) v n xs hs own ⟨g0, 0, none⟩ m m (ts.map (Value.int .u8)) hx (by simp [hm]) ?_ ?_ (by simp [maxLen]; omega) (by omega) hB ?_
  · intro j u hj
    rw [Addr.add_lit, cell_of_row w g0 _ _ _ _ h0, Nat.zero_add, List.getElem?_toArray]
    exact hj
  · intro u hu
    simp at hu
    obtain ⟨_, _, rfl⟩ := hu
    rfl
  · intro v' w' o6 g6 _
    refine h v' w' o6 ((Below.refl B w).grown g6 hB ?_)
    intro k hk
    obtain ⟨_, ⟨rfl, _⟩ | ⟨g, cap, cur, rfl, hBg, _⟩⟩ := own
    · cases hk
    · cases hk; exact hBg
/-- A byte of a number, the lowest first; its first ones. -/
def byteAt (z : Int) (k : Nat) : Int := z / 2 ^ (8 * k) % 256
def numBytes (z : Int) (m : Nat) : List Int := (List.range m).map (byteAt z)
theorem appnum (B n : Nat) (v : Value) (xs : List Value) (z : Int) (hz : (Lit.int .i64 z).wf = true) (m : Nat) (hm : m ≤ 4) (w : World) (own : w.ownsRow B 5 1 v n xs) (hB : B ≤ w.heap.size) (hn : n + 4 ≤ 1000000) :
    Calls Try.prog 6 #[v, .int .i64 z, .int .i64 (m : Int)] w fun e w' => ∃ v', e = .returned v' ∧ w'.ownsRow B 5 1 v' (n + m) (xs ++ (numBytes z m).map (Value.int .u8)) ∧ Below B w w' := by
  go_enter Try.func6, Try.ntmps6
  go_wp2_with fail
  go_loopw [0, 9] (fun sv si wr => ∃ j : Nat, j ≤ m ∧ si = .int .i64 (j : Int) ∧ wr.ownsRow B 5 1 sv (n + j) (xs ++ (numBytes z j).map (Value.int .u8)) ∧ Below B w wr) (fun _ si _ => m - (intOf si).toNat)
  case atStart => exact ⟨0, Nat.zero_le _, rfl, by simpa [numBytes] using own, Below.refl _ _⟩
  case round =>
    obtain ⟨j, hj, rfl, o1, b1⟩ := hrel
    by_cases hlt : j < m
    · have HN := hide (show (wr.alloc (.cells #[.int .u8 (byteAt z j)] 5)).heap[wr.heap.size]? = some (.cells ([byteAt z j].map (Value.int .u8)).toArray 5 (0, 0)) from heap_alloc_new _ _)
      have HO := hide (o1.alloc (.cells #[.int .u8 (byteAt z j)] 5))
      have BA := hide (b1.alloc (Nat.le_trans hB b1.size) (.cells #[.int .u8 (byteAt z j)] 5))
      have LB := hide (show B ≤ (wr.alloc (.cells #[.int .u8 (byteAt z j)] 5)).heap.size by have := b1.size; simp; omega)
      clear o1 b1
      go_wp2_with (first
        | (at_builtin; refine wpList_append_bytes rfl (.tmp 12) (.tmp 18) rfl B wr.heap.size (n + j) 1 _ _ [byteAt z j] rfl rfl rfl HO.out HN.out LB.out (by omega) ?_; intro v6 w6 o6 b6))
      have O6 := hide o6
      have B6 := hide (BA.out.trans b6)
      clear o6 b6
      go_roundw
      case rel =>
        refine ⟨j + 1, by omega, by go_num, ?_, B6.out⟩
        have := O6.out
        rw [List.append_assoc, ← List.map_append] at this
        rw [show numBytes z (j + 1) = numBytes z j ++ [byteAt z j] by simp [numBytes, List.range_succ]]
        exact this
      case measure => simp [intOf]; omega
    · obtain rfl : j = m := by omega
      go_wp2_with fail
      go_ret
      exact ⟨_, rfl, o1, b1⟩
end Go.Proofs.Ytagpcfjagaegkaa
