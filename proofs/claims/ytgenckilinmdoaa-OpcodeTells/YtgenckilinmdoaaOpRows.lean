/- Text of any row of bytes, and a byte laid ahead of a row. -/
import Derived.Test.YtgenckilinmdoaaOpText
import Derived.Test.YtgenckilinmdoaaRowkit
import Derived.Laws.AppendOwn
import Derived.Laws.AppendOwnNone
import Derived.OwnWalk
namespace Go.Proofs.Ytgenckilinmdoaa
open Go.RowKit
set_option linter.unusedVariables false
set_option maxRecDepth 20000

/-- A slice of bytes: of none, or a row whose cells hold f. -/
def RowB (w : World) (a : Option Addr) (len cap : Nat) (f : Nat → Int) : Prop :=
  (len = 0 ∧ (a = none → cap = 0)) ∨ ∃ bb off, 0 < len ∧ a = some ⟨bb, off, none⟩ ∧ bb < w.heap.size ∧ len ≤ cap ∧ cap ≤ maxLen ∧ ∀ i, i < len → w.cell? ⟨bb, off + i, none⟩ = some (.int .u8 (f i)) ∧ 0 ≤ f i ∧ f i ≤ 255
theorem IsRow.rowB {w : World} {a : Option Addr} {len cap : Nat} {zs : List Int} (h : IsRow .u8 w a len cap zs) : RowB w a len cap (fun i => zs.getD i 0) := by
  rcases Nat.eq_zero_or_pos len with h0 | h0
  · rcases h with ⟨rfl, rfl, rfl, rfl⟩ | ⟨x, rfl, _⟩
    · exact .inl ⟨rfl, fun _ => rfl⟩
    · exact .inl ⟨h0, fun k => by cases k⟩
  · obtain ⟨bb, off, ha, hb, h1, h2, hc⟩ := h.cells h0
    refine .inr ⟨bb, off, h0, ha, hb, h1, h2, fun i hi => ?_⟩
    obtain ⟨c1, c2⟩ := hc i hi
    have := u8_range c2
    exact ⟨c1, by show 0 ≤ zs.getD i 0; omega, by show zs.getD i 0 ≤ 255; omega⟩
theorem RowB.next {w w' : World} {a : Option Addr} {len cap : Nat} {f : Nat → Int} (h : RowB w a len cap f) (b : Below w.heap.size w w') : RowB w' a len cap f := by
  rcases h with h | ⟨bb, off, h0, ha, hb, h1, h2, hc⟩
  · exact .inl h
  · exact .inr ⟨bb, off, h0, ha, Nat.lt_of_lt_of_le hb b.size, h1, h2, fun i hi => ⟨(b.cell (p := ⟨bb, off + i, none⟩) hb).trans (hc i hi).1, (hc i hi).2⟩⟩

def txtS (len : Nat) (f : Nat → Int) : ByteArray := if len = 0 ∨ (len : Int) < lenOf (f 0).toNat then ⟨#[]⟩ else textB (nameOf (f 0).toNat) f ((lenOf (f 0).toNat).toNat - 1)
def txtN (len : Nat) (f : Nat → Int) : Int := if len = 0 ∨ (len : Int) < lenOf (f 0).toNat then 0 else lenOf (f 0).toNat

theorem text_any (a : Option Addr) (len cap : Nat) (f : Nat → Int) (w : World) (h : RowB w a len cap f) :
    Calls Try.prog 8 #[.slice a len cap] w fun e w' => e = .returned (.tuple #[.string (txtS len f), .int .i64 (txtN len f)]) ∧ Below w.heap.size w w' := by
  rcases h with ⟨rfl, _⟩ | ⟨bb, off, h0, rfl, hb, h1, h2, hc⟩
  · exact text_none a cap w
  · obtain ⟨c0, r0, r1⟩ := hc 0 h0
    obtain ⟨b, hbb⟩ : ∃ b : Nat, b = (f 0).toNat := ⟨_, rfl⟩
    have lt : b < 256 := by omega
    have ef : f 0 = (b : Int) := by omega
    obtain ⟨l1, l7⟩ := len_in b lt
    obtain ⟨n3, n4⟩ := name_in b lt
    obtain ⟨l, hl⟩ : ∃ l : Nat, l = (lenOf b).toNat := ⟨_, rfl⟩
    have el : lenOf b = (l : Int) := by omega
    have k : ∀ w, Calls Try.prog 10 #[.int .i64 (f 0)] w fun e w' => e = .returned (.agg #[.string (nameOf b), .int .i64 (modeOf b), .int .i64 (l : Int), .int .i64 (cycOf b)]) ∧ Below w.heap.size w w' := by
      intro w
      rw [ef, ← el]
      exact of_byte b lt w
    unfold txtS txtN
    rw [← hbb, el, Int.toNat_natCast]
    by_cases hs : len < l
    · rw [if_pos (by omega), if_pos (by omega)]
      exact text_short bb off len cap l f (nameOf b) (modeOf b) (cycOf b) w h0 (by omega) hs r0 r1 (by simpa using c0) k
    · rw [if_neg (by omega), if_neg (by omega)]
      by_cases hl2 : 2 ≤ l
      · exact text_more bb off len cap l f (nameOf b) (modeOf b) (cycOf b) w n4 hb hl2 (by omega) (by omega) h1 h2 hc k
      · exact text_one bb off len cap f (nameOf b) (modeOf b) (cycOf b) l w hb (by omega) (by omega) (by omega) h1 h2 hc k

/-- A byte ahead of a row. -/
def consF (v : Int) (f : Nat → Int) (j : Nat) : Int := if j = 0 then v else f (j - 1)
theorem info_u8 : ∃ i, Try.prog.info? 5 = some i ∧ i.zero = some (.int .u8 0) ∧ i.size = 1 ∧ i.bytes = 1 := by
  have h0 : (Try.prog.info? 5).map (·.zero) = some (some (.int .u8 0)) := by kernel_rfl
  have h1 : (Try.prog.info? 5).map (·.size) = some 1 := by kernel_rfl
  have h2 : (Try.prog.info? 5).map (·.bytes) = some 1 := by kernel_rfl
  cases h : Try.prog.info? 5 with
  | none => rw [h] at h1; cases h1
  | some i =>
    rw [h] at h0 h1 h2
    exact ⟨i, rfl, Option.some.inj h0, Option.some.inj h1, Option.some.inj h2⟩

theorem owned_row {B n : Nat} {w : World} {v : Value} {xs : List Value} (h : w.ownsRow B 5 1 v n xs) (hn : 0 < n) :
    ∃ g cap, v = .slice (some ⟨g, 0, none⟩) n cap ∧ B ≤ g ∧ g < w.heap.size ∧ n ≤ cap ∧ cap ≤ maxLen ∧ ∀ j u, xs[j]? = some u → w.cell? ⟨g, 0 + j, none⟩ = some u := by
  obtain ⟨hl, ⟨_, h0⟩ | ⟨g, cap, cur, rfl, hB, hg, hc, hm, hs, ht⟩⟩ := h
  · omega
  · refine ⟨g, cap, rfl, hB, lt_of_block hg, hc, hm, fun j u hj => ?_⟩
    rw [Nat.zero_add, cell_of_row w g j cur 5 (0, 0) hg, ← hj, ← ht, List.getElem?_take]
    have : j < xs.length := by
      rcases Nat.lt_or_ge j xs.length with k | k
      · exact k
      · rw [List.getElem?_eq_none k] at hj; cases hj
    rw [if_pos (by omega)]
    simp

theorem wpList_append_more {w : World} {ops : Array Oper} {rest : List Oper} {o : Oper} {a : Act} {Q : Exit → Act → World → Prop} (hg : o.guard = none) (s x : Operand)
    (ho : o.op = .call { callee := .builtin .append, args := #[s, x], argTypes := #[22, 22] }) (B g0 : Nat) (iv : Int) (hs : a.eval s = .slice (some ⟨g0, 0, none⟩) 1 1)
    (h0 : w.heap[g0]? = some (.cells #[.int .u8 iv] 5 (0, 0))) (hB : B ≤ g0) (ma : Option Addr) (ml mc : Nat) (f : Nat → Int) (hx : a.eval x = .slice ma ml mc) (hrow : RowB w ma ml mc f) (hml : ml ≤ 1000)
    (h : ∀ gg cap w', B ≤ gg → gg < w'.heap.size → Below B w w' → 1 + ml ≤ cap → cap ≤ maxLen → (∀ j, j < 1 + ml → w'.cell? ⟨gg, 0 + j, none⟩ = some (.int .u8 (consF iv f j))) → wpList Try.prog ops Q rest (a.put o.dst (.slice (some ⟨gg, 0, none⟩) (1 + ml) cap)) w') :
    wpList Try.prog ops Q (o :: rest) a w := by
  obtain ⟨i0, hi, hz0, hz1, hz2⟩ := info_u8
  have hlt := lt_of_block h0
  have own : w.ownsRow B 5 1 (.slice (some ⟨g0, 0, none⟩) 1 1) 1 [.int .u8 iv] := ⟨rfl, .inr ⟨g0, 1, #[.int .u8 iv], rfl, hB, h0, Nat.le_refl _, by decide, rfl, rfl⟩⟩
  have key : ∀ (ad : Addr), a.eval x = .slice (some ad) ml mc → (∀ j, j < ml → w.cell? (ad.add j) = some (.int .u8 (f j))) → wpList Try.prog ops Q (o :: rest) a w := by
    intro ad hx hc
    refine wpList_append_own _ hg s x 22 ho B 5 i0 (.int .u8 0) 1 1 Try.underlying22 hi hz0 hz1 hz2 rfl (by decide) _ 1 _ hs own ad ml mc ((List.range ml).map fun j => .int .u8 (f j)) hx (by simp) ?_ ?_ (by simp [maxLen]; omega) (by omega) (by omega) ?_
    · intro j u hj
      have hj' : j < ml := by
        rcases Nat.lt_or_ge j ml with k | k
        · exact k
        · rw [List.getElem?_eq_none (by simpa using k)] at hj; cases hj
      rw [hc j hj']
      simpa [hj'] using hj
    · intro u hu
      obtain ⟨j, _, rfl⟩ := List.mem_map.1 hu
      rfl
    · intro v' w' o6 g6 _
      obtain ⟨gg, cap, rfl, hB6, hgg, hcc, hcm, hcell⟩ := owned_row o6 (by omega)
      refine h gg cap w' hB6 hgg ((Below.refl B w).grown g6 (by omega) (by intro k hk; cases hk; exact hB)) hcc hcm fun j hj => hcell j _ ?_
      unfold consF
      rcases j with _ | j
      · rfl
      · rw [if_neg (by omega)]
        show ((List.range ml).map fun j => Value.int .u8 (f j))[j]? = _
        simp [show j < ml by omega]
  rcases hrow with ⟨hml0, hcap⟩ | ⟨bb, off, hl0, rfl, hb, h1, h2, hc⟩
  · subst hml0
    rcases ma with _ | ad
    · have hc0 := hcap rfl
      subst hc0
      refine wpList_append_own_none hg s x 22 ho B 5 i0 1 Try.underlying22 hi _ 1 _ hs own hx ?_
      refine h g0 1 w hB hlt (Below.refl _ _) (by omega) (by decide) fun j hj => ?_
      have : j = 0 := by omega
      subst this
      rw [cell_of_row w g0 _ _ 5 (0, 0) h0]
      rfl
    · exact key ad hx (fun j hj => by omega)
  · refine key ⟨bb, off, none⟩ hx fun j hj => ?_
    have e : (⟨bb, off, none⟩ : Addr).add j = ⟨bb, off + j, none⟩ := by unfold Addr.add; split <;> simp_all
    rw [e]
    exact (hc j hj).1
end Go.Proofs.Ytgenckilinmdoaa
