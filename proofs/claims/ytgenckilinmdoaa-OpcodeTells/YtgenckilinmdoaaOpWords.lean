/- The document's words of a text, and its modes. -/
import Derived.Test.YtgenckilinmdoaaOpRef
import Derived.Laws.AppendOwn
import Derived.OwnWalk
import Derived.RegionTactic
import Derived.Laws.DeepStrings4
namespace Go.Proofs.Ytgenckilinmdoaa
open Go.RowKit
set_option linter.unusedVariables false
set_option maxRecDepth 20000

theorem low_far (r : Int) (w : World) (h : 16 ≤ r) : Calls Try.prog 17 #[.int .i64 r] w fun e w' => e = .returned (.slice (some ⟨w.heap.size, 0, none⟩) 8 8) ∧ w' = w.alloc (.cells (rowC 15) 9) := by
  go_enter Try.func17, Try.ntmps17
  go_wp2
  go_ret
  exact ⟨rfl, congrArg (fun c => w.alloc (.cells c 9)) (by kernel_rfl)⟩
theorem low_any (r : Nat) (h : r < 16) (w : World) : Calls Try.prog 17 #[.int .i64 (r : Int)] w fun e w' => e = .returned (.slice (some ⟨w.heap.size, 0, none⟩) 8 8) ∧ w' = w.alloc (.cells (rowC r) 9) := by
  have hr : r = 0 ∨ r = 1 ∨ r = 2 ∨ r = 3 ∨ r = 4 ∨ r = 5 ∨ r = 6 ∨ r = 7 ∨ r = 8 ∨ r = 9 ∨ r = 10 ∨ r = 11 ∨ r = 12 ∨ r = 13 ∨ r = 14 ∨ r = 15 := by omega
  rcases hr with rfl | rfl | rfl | rfl | rfl | rfl | rfl | rfl | rfl | rfl | rfl | rfl | rfl | rfl | rfl | rfl
  · exact low_0 w
  · exact low_1 w
  · exact low_2 w
  · exact low_3 w
  · exact low_4 w
  · exact low_5 w
  · exact low_6 w
  · exact low_7 w
  · exact low_8 w
  · exact low_9 w
  · exact low_10 w
  · exact low_11 w
  · exact low_12 w
  · exact low_13 w
  · exact low_14 w
  · exact low_15 w
theorem high_any (r : Nat) (h0 : 16 ≤ r) (h : r < 32) (w : World) : Calls Try.prog 18 #[.int .i64 (r : Int)] w fun e w' => e = .returned (.slice (some ⟨w.heap.size, 0, none⟩) 8 8) ∧ w' = w.alloc (.cells (rowC r) 9) := by
  have hr : r = 16 ∨ r = 17 ∨ r = 18 ∨ r = 19 ∨ r = 20 ∨ r = 21 ∨ r = 22 ∨ r = 23 ∨ r = 24 ∨ r = 25 ∨ r = 26 ∨ r = 27 ∨ r = 28 ∨ r = 29 ∨ r = 30 ∨ r = 31 := by omega
  rcases hr with rfl | rfl | rfl | rfl | rfl | rfl | rfl | rfl | rfl | rfl | rfl | rfl | rfl | rfl | rfl | rfl
  · exact high_16 w
  · exact high_17 w
  · exact high_18 w
  · exact high_19 w
  · exact high_20 w
  · exact high_21 w
  · exact high_22 w
  · exact high_23 w
  · exact high_24 w
  · exact high_25 w
  · exact high_26 w
  · exact high_27 w
  · exact high_28 w
  · exact high_29 w
  · exact high_30 w
  · exact high_31 w

/-- The words of the first k bytes of a text, and the one that is begun. -/
def wst (s : ByteArray) : Nat → List ByteArray × ByteArray
  | 0 => ([], ⟨#[]⟩)
  | k + 1 => if s[k]?.getD 0 = 32 then ((wst s k).1 ++ [(wst s k).2], ⟨#[]⟩) else ((wst s k).1, (wst s k).2 ++ s.extract k (k + 1))
theorem wst_len (s : ByteArray) : ∀ k, (wst s k).1.length ≤ k ∧ (wst s k).2.size ≤ k
  | 0 => ⟨Nat.le_refl _, Nat.le_refl _⟩
  | k + 1 => by
    have := wst_len s k
    have z : (ByteArray.mk #[]).size = 0 := rfl
    rw [wst]
    split
    · rw [z]; simp; omega
    · simp only [ByteArray.size_append, ByteArray.size_extract]
      omega
theorem info_str : ∃ i, Try.prog.info? 9 = some i ∧ i.zero = some (.string ⟨#[]⟩) ∧ i.size = 1 ∧ i.bytes = 16 := by
  have h0 : (Try.prog.info? 9).map (·.zero) = some (some (.string ⟨#[]⟩)) := by kernel_rfl
  have h1 : (Try.prog.info? 9).map (·.size) = some 1 := by kernel_rfl
  have h2 : (Try.prog.info? 9).map (·.bytes) = some 16 := by kernel_rfl
  cases h : Try.prog.info? 9 with
  | none => rw [h] at h1; cases h1
  | some i =>
    rw [h] at h0 h1 h2
    exact ⟨i, rfl, Option.some.inj h0, Option.some.inj h1, Option.some.inj h2⟩

/-- A text is laid behind a row of texts of one's own. -/
theorem wpList_append_text {w : World} {ops : Array Oper} {rest : List Oper} {o : Oper} {a : Act} {Q : Exit → Act → World → Prop} (hg : o.guard = none) (s x : Operand)
    (ho : o.op = .call { callee := .builtin .append, args := #[s, x], argTypes := #[40, 40] }) (B g0 n : Nat) (v : Value) (xs : List Value) (t : ByteArray) (hs : a.eval s = v)
    (hx : a.eval x = .slice (some ⟨g0, 0, none⟩) 1 1) (own : w.ownsRow B 9 1 v n xs) (h0 : w.cell? ⟨g0, 0, none⟩ = some (.string t)) (hB : B ≤ w.heap.size) (hn : n ≤ 1000)
    (h : ∀ v' w', w'.ownsRow B 9 1 v' (n + 1) (xs ++ [.string t]) → Below B w w' → wpList Try.prog ops Q rest (a.put o.dst v') w') : wpList Try.prog ops Q (o :: rest) a w := by
  obtain ⟨i0, hi, hz0, hz1, hz2⟩ := info_str
  refine wpList_append_own _ hg s x 40 ho B 9 i0 (.string ⟨#[]⟩) 1 16 Try.underlying40 hi hz0 hz1 hz2 rfl (by decide) v n xs hs own ⟨g0, 0, none⟩ 1 1 [.string t] hx rfl ?_ ?_ (by simp [maxLen]; omega) (by omega) hB ?_
  · intro j u hj
    rcases j with _ | j
    · cases hj; exact h0
    · simp at hj
  · intro u hu
    simp at hu
    subst hu
    rfl
  · intro v' w' o6 g6 _
    refine h v' w' o6 ((Below.refl B w).grown g6 hB ?_)
    intro k hk
    obtain ⟨_, ⟨rfl, _⟩ | ⟨g, cap, cur, rfl, hBg, _⟩⟩ := own
    · cases hk
    · cases hk; exact hBg

theorem words_any (s : ByteArray) (w : World) (hs : s.size ≤ 100) : Calls Try.prog 19 #[.string s] w fun e w' => ∃ v, e = .returned v ∧ w'.ownsRow w.heap.size 9 1 v ((wst s s.size).1.length + 1) (((wst s s.size).1 ++ [(wst s s.size).2]).map Value.string) ∧ Below w.heap.size w w' := by
  go_enter Try.func19, Try.ntmps19
  go_wp2_with fail
  go_loopw [3, 4, 5] (fun sv so si wr => ∃ k : Nat, k ≤ s.size ∧ si = .int .i64 (k : Int) ∧ so = .string (wst s k).2 ∧ wr.ownsRow w.heap.size 9 1 sv (wst s k).1.length ((wst s k).1.map Value.string) ∧ Below w.heap.size w wr) (fun _ _ si _ => s.size - (intOf si).toNat)
  case atStart => exact ⟨0, by omega, rfl, rfl, ⟨rfl, .inl ⟨rfl, rfl⟩⟩, Below.refl _ _⟩
  case round =>
    obtain ⟨k, hk, rfl, rfl, own, bel⟩ := hrel
    obtain ⟨hl1, hl2⟩ := wst_len s k
    by_cases hlt : k < s.size
    · obtain ⟨x, hx⟩ : ∃ x : UInt8, s[k] = x := ⟨_, rfl⟩
      have hx2 : s[k]?.getD 0 = x := by rw [ByteArray.getElem?_lt' s k hlt, hx]; rfl
      have t3 : (s.extract k (k + 1)).size = 1 := by rw [ByteArray.size_extract]; omega
      by_cases hsp : x = 32
      · have hw : wst s (k + 1) = ((wst s k).1 ++ [(wst s k).2], ⟨#[]⟩) := by rw [wst, if_pos (by rw [hx2]; exact hsp)]
        have WS := hide hw
        subst hsp
        have hq : (((32 : UInt8).toNat : Int) == 32) = true := by decide
        clear hw hx2
        obtain ⟨ws, hws⟩ : ∃ ws, ws = (wst s k).1 := ⟨_, rfl⟩
        obtain ⟨c, hc⟩ : ∃ c, c = (wst s k).2 := ⟨_, rfl⟩
        rw [← hws] at own hl1
        rw [← hc] at hl2 ⊢
        rw [← hws, ← hc] at WS
        clear hws hc
        have OW := hide own
        have BL := hide bel
        have HN := hide (show (wr.alloc (.cells #[.string c] 9)).cell? ⟨wr.heap.size, 0, none⟩ = some (.string c) by simp)
        have HO := hide (own.alloc (.cells #[.string c] 9))
        have BA := hide (bel.alloc bel.size (.cells #[.string c] 9))
        have LB := hide (show w.heap.size ≤ (wr.alloc (.cells #[.string c] 9)).heap.size by have := bel.size; simp; omega)
        clear own bel
        go_wp2_with (first
          | (at_builtin; refine wpList_append_text rfl (.tmp 16) (.tmp 18) rfl w.heap.size wr.heap.size ws.length u3 _ c rfl rfl HO.out HN.out LB.out (by omega) ?_; intro v6 w6 o6 b6))
        have O6 := hide o6
        have B6 := hide (BA.out.trans b6)
        clear o6 b6
        go_roundw
        case rel =>
          refine ⟨k + 1, by omega, by go_num, by rw [WS.out], ?_, B6.out⟩
          rw [WS.out]
          simpa using O6.out
        case measure => simp [intOf]; omega
      · have hw : wst s (k + 1) = ((wst s k).1, (wst s k).2 ++ s.extract k (k + 1)) := by rw [wst, if_neg (by rw [hx2]; exact hsp)]
        have WS := hide hw
        have hq : ((x.toNat : Int) == 32) = false := by
          rw [beq_eq_false_iff_ne]
          intro e
          apply hsp
          apply UInt8.toNat_inj.1
          show x.toNat = 32
          omega
        clear hw hx2
        obtain ⟨ws, hws⟩ : ∃ ws, ws = (wst s k).1 := ⟨_, rfl⟩
        obtain ⟨c, hc⟩ : ∃ c, c = (wst s k).2 := ⟨_, rfl⟩
        rw [← hws] at own hl1
        rw [← hc] at hl2 ⊢
        rw [← hws, ← hc] at WS
        clear hws hc
        have OW := hide own
        have BL := hide bel
        have HN := hide (show (wr.alloc (.cells #[.string c] 9)).cell? ⟨wr.heap.size, 0, none⟩ = some (.string c) by simp)
        have HO := hide (own.alloc (.cells #[.string c] 9))
        have BA := hide (bel.alloc bel.size (.cells #[.string c] 9))
        have LB := hide (show w.heap.size ≤ (wr.alloc (.cells #[.string c] 9)).heap.size by have := bel.size; simp; omega)
        clear own bel
        go_wp2_with fail
        go_roundw
        case rel =>
          refine ⟨k + 1, by omega, by go_num, by rw [WS.out], ?_, BL.out⟩
          rw [WS.out]
          exact OW.out
        case measure => simp [intOf]; omega
    · have ek : k = s.size := by omega
      subst ek
      obtain ⟨ws, hws⟩ : ∃ ws, ws = (wst s s.size).1 := ⟨_, rfl⟩
      obtain ⟨c, hc⟩ : ∃ c, c = (wst s s.size).2 := ⟨_, rfl⟩
      rw [← hws] at own hl1
      rw [← hc] at hl2 ⊢
      have HWS := hide (And.intro hws hc)
      clear hws hc
      have OW := hide own
      have BL := hide bel
      have HN := hide (show (wr.alloc (.cells #[.string c] 9)).cell? ⟨wr.heap.size, 0, none⟩ = some (.string c) by simp)
      have HO := hide (own.alloc (.cells #[.string c] 9))
      have BA := hide (bel.alloc bel.size (.cells #[.string c] 9))
      have LB := hide (show w.heap.size ≤ (wr.alloc (.cells #[.string c] 9)).heap.size by have := bel.size; simp; omega)
      clear own bel
      go_wp2_with (first
        | (at_builtin; refine wpList_append_text rfl (.tmp 27) (.tmp 29) rfl w.heap.size wr.heap.size ws.length u3 _ c rfl rfl HO.out HN.out LB.out (by omega) ?_; intro v6 w6 o6 b6))
      go_ret
      refine ⟨v6, rfl, ?_, BA.out.trans b6⟩
      rw [← HWS.out.1, ← HWS.out.2]
      simpa using o6
end Go.Proofs.Ytgenckilinmdoaa
