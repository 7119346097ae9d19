/- append of one integer to a row of integers of one's own. No word of the program is in it but two types' numbers. -/
import Derived.Test.YtnhjhmfiapjenaaDoorIntRows
import Derived.Laws.AppendOwn
import Derived.OwnWalk
namespace Go.Proofs.YtnhjhmfiapjenaaDoor
open Go.RowKit
set_option linter.unusedVariables false

theorem info_int : ∃ i, Tryd.prog.info? 3 = some i ∧ i.zero = some (.int .i64 0) ∧ i.size = 1 ∧ i.bytes = 8 := by
  have h0 : (Tryd.prog.info? 3).map (·.zero) = some (some (.int .i64 0)) := by kernel_rfl
  have h1 : (Tryd.prog.info? 3).map (·.size) = some 1 := by kernel_rfl
  have h2 : (Tryd.prog.info? 3).map (·.bytes) = some 8 := by kernel_rfl
  cases h : Tryd.prog.info? 3 with
  | none => rw [h] at h1; cases h1
  | some i =>
    rw [h] at h0 h1 h2
    exact ⟨i, rfl, Option.some.inj h0, Option.some.inj h1, Option.some.inj h2⟩
/-- An integer is laid behind a row of integers of one's own. -/
theorem wpList_append_int {w : World} {ops : Array Oper} {rest : List Oper} {o : Oper} {a : Act} {Q : Exit → Act → World → Prop} (hg : o.guard = none) (s x : Operand)
    (ho : o.op = .call { callee := .builtin .append, args := #[s, x], argTypes := #[23, 23] }) (B g0 n : Nat) (v : Value) (xs : List Value) (t : Int) (hs : a.eval s = v)
    (hx : a.eval x = .slice (some ⟨g0, 0, none⟩) 1 1) (own : w.ownsRow B 3 1 v n xs) (h0 : w.cell? ⟨g0, 0, none⟩ = some (.int .i64 t)) (hB : B ≤ w.heap.size) (hn : n ≤ 65536)
    (h : ∀ v' w', w'.ownsRow B 3 1 v' (n + 1) (xs ++ [.int .i64 t]) → Below B w w' → wpList Tryd.prog ops Q rest (a.put o.dst v') w') : wpList Tryd.prog ops Q (o :: rest) a w := by
  obtain ⟨i0, hi, hz0, hz1, hz2⟩ := info_int
  refine wpList_append_own _ hg s x 23 ho B 3 i0 (.int .i64 0) 1 8 Tryd.underlying23 hi hz0 hz1 hz2 rfl (by decide) v n xs hs own ⟨g0, 0, none⟩ 1 1 [.int .i64 t] hx rfl ?_ ?_ (by simp [maxLen]; omega) (by omega) hB ?_
  · intro j u hj
    rcases j with _ | j
    · cases hj; exact h0
    · simp at hj
  · intro u hu
    simp at hu
    subst hu
    rfl
  · intro v' w' o6 g6 _
    refine h v' w' o6 ((Below.refl B w).grown g6 hB ?_)
    intro k hk
    obtain ⟨_, ⟨rfl, _⟩ | ⟨g, cap, cur, rfl, hBg, _⟩⟩ := own
    · cases hk
    · cases hk; exact hBg
theorem rowN_next (M : Nat → Int) (k : Nat) : rowN M k ++ [.int .i64 (M k)] = rowN M (k + 1) := by
  unfold rowN
  rw [List.range_succ, List.map_append]
  rfl
/-- A row of one's own, as a slice whose first numbers are these. -/
theorem owns_ints {w : World} {B N : Nat} {v : Value} {M : Nat → Int} (h : w.ownsRow B 3 1 v N (rowN M N)) : ∃ a cap, v = .slice a N cap ∧ N ≤ cap ∧ cap ≤ maxLen ∧ IntsAt w a N M := by
  obtain ⟨_, ⟨rfl, rfl⟩ | ⟨g, cap, cur, rfl, hBg, hg, h1, h2, h3, h4⟩⟩ := h
  · exact ⟨none, 0, rfl, Nat.le_refl _, Nat.zero_le _, intsAt_none _ _ _⟩
  · refine ⟨_, cap, rfl, h1, h2, fun j hj => ⟨g, 0, rfl, lt_of_block hg, ?_⟩⟩
    rw [Nat.zero_add, cell_of_row w g j _ _ _ hg, ← Array.getElem?_toList]
    have e := rowN_at M N j hj
    rw [← h4, List.getElem?_take] at e
    split at e
    · exact e
    · cases e
end Go.Proofs.YtnhjhmfiapjenaaDoor
