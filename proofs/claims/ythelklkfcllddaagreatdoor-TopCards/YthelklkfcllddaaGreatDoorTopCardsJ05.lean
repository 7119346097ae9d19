/- card.Load: the header goes; what is wrong with an image; else a card whose bytes are the image's. -/
import Derived.Test.YthelklkfcllddaaGreatDoorTopCardsJ03
import Derived.Test.YthelklkfcllddaaGreatDoorTopCardsJ01
import Derived.Test.YthelklkfcllddaaGreatDoorTopCardsJ04
import Derived.Laws.CopyOwn
namespace Go.Proofs.YthelklkfcllddaaGreatDoor.C3
set_option maxRecDepth 20000
open Go.RowKit
set_option linter.unusedVariables false
def HasErr (w : World) : Prop := w.cell? ⟨0, 0, none⟩ = some (.iface 141 (.agg #[.pointer (some ⟨4, 76, none⟩)]))
theorem HasErr.next {w w' : World} (h : HasErr w) (b : Below w.heap.size w w') : HasErr w' := (b.cell (cell_lt h)).trans h
def fromOf (n : Nat) : Nat := if n % 8192 = 512 then 512 else 0
def errOf (m : Nat) : Int := if m = 0 then 10 else if m % 8192 ≠ 0 then 11 else if 320 < m / 8192 then 12 else if known ((m / 8192 : Nat) : Int) = true then 0 else 13
theorem from_le (n : Nat) : fromOf n ≤ n := by
  unfold fromOf; split <;> omega
theorem wh_any (g off n cap : Nat) (w : World) (hn : n < 4611686018427387904) (hc : n ≤ cap) (hm : cap ≤ 9223372036854775807) :
    Calls Tryz.prog 13 #[.slice (some ⟨g, off, none⟩) n cap] w fun e w' => e = .returned (.slice (some ⟨g, if cap = 512 ∧ n = 512 then off else off + fromOf n, none⟩) (n - fromOf n) (cap - fromOf n)) ∧ w' = w := by
  by_cases h : n % 8192 = 512
  · have e : fromOf n = 512 := by unfold fromOf; rw [if_pos h]
    rw [e]
    have h2 : (n : Int) % 8192 = 512 := by omega
    have h3 : 512 ≤ n := by omega
    clear h e
    by_cases hcc : cap = 512
    · have hn5 : n = 512 := by omega
      subst hcc
      subst hn5
      rw [if_pos ⟨rfl, rfl⟩]
      go_enter Tryz.func13, Tryz.ntmps13
      go_wp2
      go_ret
      exact ⟨rfl, rfl⟩
    · rw [if_neg (by omega)]
      go_enter Tryz.func13, Tryz.ntmps13
      go_wp2
      go_ret
      exact ⟨rfl, rfl⟩
  · have e : fromOf n = 0 := by unfold fromOf; rw [if_neg h]
    rw [e, if_neg (by omega)]
    have h2 : ¬ (n : Int) % 8192 = 512 := by omega
    clear h e
    go_enter Tryz.func13, Tryz.ntmps13
    go_wp2
    go_ret
    exact ⟨rfl, rfl⟩
theorem refuse_any (c m : Int) (p : Addr) (w : World) (hp : w.cell? p = some (.int .i64 m)) :
    Calls Tryz.prog 50 #[.int .i64 c, .pointer (some p)] w fun e w' => e = .returned (.iface 114 (.pointer (some ⟨w.heap.size, 0, none⟩))) ∧ w' = w.alloc (.cells #[.int .i64 m, .iface 29 (.int .i64 c)] 116) := by
  go_enter Tryz.func50, Tryz.ntmps50
  go_wp2
  go_ret
  exact ⟨rfl, rfl⟩
theorem err_1 {m : Nat} (h : m = 0) : errOf m = 10 := by unfold errOf; rw [if_pos h]
theorem err_2 {m : Nat} (h : ¬ m = 0) (h2 : m % 8192 ≠ 0) : errOf m = 11 := by unfold errOf; rw [if_neg h, if_pos h2]
theorem err_3 {m : Nat} (h : ¬ m = 0) (h2 : ¬ m % 8192 ≠ 0) (h3 : 320 < m / 8192) : errOf m = 12 := by unfold errOf; rw [if_neg h, if_neg h2, if_pos h3]
theorem err_4 {m : Nat} (h : ¬ m = 0) (h2 : ¬ m % 8192 ≠ 0) (h3 : ¬ 320 < m / 8192) (h4 : known ((m / 8192 : Nat) : Int) = true) : errOf m = 0 := by unfold errOf; rw [if_neg h, if_neg h2, if_neg h3, if_pos h4]
theorem err_5 {m : Nat} (h : ¬ m = 0) (h2 : ¬ m % 8192 ≠ 0) (h3 : ¬ 320 < m / 8192) (h4 : ¬ known ((m / 8192 : Nat) : Int) = true) : errOf m = 13 := by unfold errOf; rw [if_neg h, if_neg h2, if_neg h3, if_neg h4]
theorem check_any (m : Nat) (w : World) (hm : m < 4611686018427387904) (hT : HasTab w) :
    Calls Tryz.prog 15 #[.int .i64 (m : Int)] w fun e w' => ((errOf m = 0 ∧ e = .returned .nilIface) ∨ (errOf m ≠ 0 ∧ ∃ b, e = .returned (.iface 114 (.pointer (some ⟨b, 0, none⟩))) ∧ w'.cell? ⟨b, 1, none⟩ = some (.iface 29 (.int .i64 (errOf m))))) ∧ Below w.heap.size w w' := by
  have b0 : Below w.heap.size w (w.alloc (.cells #[.int .i64 (m : Int)] 3)) := (Below.refl _ w).alloc (Nat.le_refl _) _
  have cc := class_any (((m / 8192 : Nat) : Int)) (w.alloc (.cells #[.int .i64 (m : Int)] 3)) (hT.next b0)
  obtain ⟨k, hk⟩ : ∃ k : Int, k = ((m / 8192 : Nat) : Int) := ⟨_, rfl⟩
  have hd : (m : Int) / 8192 = k := by omega
  rw [← hk] at cc
  obtain ⟨q, hq⟩ : ∃ q, q = known k := ⟨_, rfl⟩
  rw [← hq] at cc
  have CC := hide cc
  have B0 := hide b0
  have HK := hide hk
  have HQ := hide hq
  have hc0 : (w.alloc (.cells #[.int .i64 (m : Int)] 3)).cell? ⟨w.heap.size, 0, none⟩ = some (.int .i64 (m : Int)) := by simp
  have hz0 : w.heap.size < (w.alloc (.cells #[.int .i64 (m : Int)] 3)).heap.size := by simp
  clear b0 hT cc hk hq
  go_enter Tryz.func15, Tryz.ntmps15
  go_wp2_with fail
  refine CC.out.mono ?_
  rintro e w1 ⟨rfl, b1⟩
  have hc : w1.cell? ⟨w.heap.size, 0, none⟩ = some (.int .i64 (m : Int)) := (b1.cell hz0).trans hc0
  have BB := hide (B0.out.trans (b1.mono (by simp)))
  have SZ := hide (Nat.le_trans (Nat.le_of_lt hz0) b1.size)
  clear hc0 hz0 b1
  by_cases h1 : m = 0
  · have e1 := hide (err_1 h1)
    have h1' : (m : Int) = 0 := by omega
    clear h1
    go_wp2_with (first | (go_at_call 50; refine (refuse_any _ _ _ _ hc).mono ?_; rintro e w' ⟨rfl, rfl⟩))
    go_ret
    refine ⟨.inr ⟨by rw [e1.out]; decide, _, rfl, by rw [e1.out]; simp⟩, BB.out.alloc (by have := SZ.out; omega) _⟩
  · by_cases h2 : m % 8192 ≠ 0
    · have e1 := hide (err_2 h1 h2)
      have h1' : ¬ (m : Int) = 0 := by omega
      have h2' : ¬ (m : Int) % 8192 = 0 := by omega
      clear h1 h2
      go_wp2_with (first | (go_at_call 50; refine (refuse_any _ _ _ _ hc).mono ?_; rintro e w' ⟨rfl, rfl⟩))
      go_ret
      refine ⟨.inr ⟨by rw [e1.out]; decide, _, rfl, by rw [e1.out]; simp⟩, BB.out.alloc (by have := SZ.out; omega) _⟩
    · have h1' : ¬ (m : Int) = 0 := by omega
      have h2' : (m : Int) % 8192 = 0 := by omega
      by_cases h3 : 320 < m / 8192
      · have e1 := hide (err_3 h1 h2 h3)
        have h3' : 320 < k := by rw [HK.out]; omega
        clear h1 h2 h3
        go_wp2_with (first | (go_at_call 50; refine (refuse_any _ _ _ _ hc).mono ?_; rintro e w' ⟨rfl, rfl⟩))
        go_ret
        refine ⟨.inr ⟨by rw [e1.out]; decide, _, rfl, by rw [e1.out]; simp⟩, BB.out.alloc (by have := SZ.out; omega) _⟩
      · have h3' : ¬ 320 < k := by rw [HK.out]; omega
        by_cases h4 : known ((m / 8192 : Nat) : Int) = true
        · have e1 := hide (err_4 h1 h2 h3 h4)
          have h4' : q = true := by rw [HQ.out, HK.out]; exact h4
          subst h4'
          clear h1 h2 h3 h4
          go_wp2_with (first | (go_at_call 50; refine (refuse_any _ _ _ _ hc).mono ?_; rintro e w' ⟨rfl, rfl⟩))
          go_ret
          exact ⟨.inl ⟨e1.out, rfl⟩, BB.out⟩
        · have e1 := hide (err_5 h1 h2 h3 h4)
          have h4' : q = false := by rw [HQ.out, HK.out]; simpa using h4
          subst h4'
          clear h1 h2 h3 h4
          go_wp2_with (first | (go_at_call 50; refine (refuse_any _ _ _ _ hc).mono ?_; rintro e w' ⟨rfl, rfl⟩))
          go_ret
          refine ⟨.inr ⟨by rw [e1.out]; decide, _, rfl, by rw [e1.out]; simp⟩, BB.out.alloc (by have := SZ.out; omega) _⟩
def IsCard (B : Nat) (w : World) (c : Nat) (bs : List Int) : Prop := ∃ d, B ≤ c ∧ B ≤ d ∧ w.cell? ⟨c, 0, none⟩ = some (.slice (some ⟨d, 0, none⟩) bs.length bs.length) ∧ Bytes 5 w d bs
theorem IsCard.next {B : Nat} {w w' : World} {c : Nat} {bs : List Int} (h : IsCard B w c bs) (b : Below w.heap.size w w') : IsCard B w' c bs := by
  obtain ⟨d, k1, k2, h1, h2⟩ := h
  exact ⟨d, k1, k2, (b.cell (cell_lt h1)).trans h1, h2.next b⟩
theorem IsCard.put {B : Nat} {w : World} {c : Nat} {bs : List Int} (h : IsCard B w c bs) (g i : Nat) (hg : g < B) (v : Value) : IsCard B (w.setCell ⟨g, i, none⟩ v) c bs := by
  obtain ⟨d, k1, k2, h1, h2⟩ := h
  exact ⟨d, k1, k2, (World.cell?_setCell_other _ _ _ _ (by intro e; injection e; omega)).trans h1, h2.other _ (by show d ≠ g; omega) _⟩
theorem splice_all (m : Nat) (cs : List Value) (z : Value) (h : cs.length = m) : splice (List.replicate m z) 0 cs = cs := by
  subst h
  simp [splice]
set_option maxHeartbeats 1600000 in
theorem load_body (g off n cap o : Nat) (cs : List Int) (w : World) (ho : 0 < n - fromOf n → o = off + fromOf n) (hl : cs.length = n - fromOf n)
    (hR : ∀ i, i < cs.length → w.cell? ⟨g, o + i, none⟩ = some (.int .u8 (cs.getD i 0))) (hB : ∀ z ∈ cs, 0 ≤ z ∧ z < 256)
    (hn : n ≤ 10000000) (hg : g < w.heap.size) (hT : HasTab w) (hE : HasErr w)
    (hw : Calls Tryz.prog 13 #[.slice (some ⟨g, off, none⟩) n cap] w fun e w' => e = .returned (.slice (some ⟨g, o, none⟩) (n - fromOf n) (cap - fromOf n)) ∧ w' = w) :
    Calls Tryz.prog 4 #[.slice (some ⟨g, off, none⟩) n cap] w fun e w' => ((errOf (n - fromOf n) ≠ 0 ∧ e = .returned (.tuple #[.pointer none, .int .i64 (errOf (n - fromOf n))])) ∨
      (errOf (n - fromOf n) = 0 ∧ ∃ c, e = .returned (.tuple #[.pointer (some ⟨c, 0, none⟩), .int .i64 0]) ∧ IsCard w.heap.size w' c cs)) ∧ Below w.heap.size w w' := by
  obtain ⟨m, hm⟩ : ∃ m, m = n - fromOf n := ⟨_, rfl⟩
  rw [← hm] at hw hl ⊢
  have b0 : Below w.heap.size w (w.alloc (.cells #[.int .i64 0] 29)) := (Below.refl _ w).alloc (Nat.le_refl _) _
  have CW := hide hw
  have CK := hide (check_any m (w.alloc (.cells #[.int .i64 0] 29)) (by omega) (hT.next b0))
  have hE1 := hide (hE.next b0)
  have hc0 := hide (show (w.alloc (.cells #[.int .i64 0] 29)).cell? ⟨w.heap.size, 0, none⟩ = some (.int .i64 0) by simp)
  have hf0 := hide (show (w.alloc (.cells #[.int .i64 0] 29)).frozen? ⟨w.heap.size, 0, none⟩ = false by simp)
  have hz0 := hide (show w.heap.size < (w.alloc (.cells #[.int .i64 0] 29)).heap.size by simp)
  have B0 := hide b0
  have HR := hide hR
  have HB := hide hB
  have HM := hide hm
  have HG := hide hg
  clear hw b0 hT hE hR hB ho hm hg
  go_enter Tryz.func4, Tryz.ntmps4
  go_wp2_with fail
  refine CW.out.mono ?_
  rintro e w1 ⟨rfl, hw1⟩
  subst w1
  go_wp2_with fail
  refine CK.out.mono ?_
  rintro e w2 ⟨⟨he, rfl⟩ | ⟨he, b, rfl, hcell⟩, b2⟩
  · have BB := hide (B0.out.trans (b2.mono (Nat.le_of_lt hz0.out)))
    have hmk := mk_bytes m (by have := HM.out; omega) w2
    obtain ⟨w4, hw4⟩ : ∃ w4, w4 = (w2.alloc (.cells ((List.replicate m (0 : Int)).map (Value.int .u8)).toArray 5)) := ⟨_, rfl⟩
    rw [← hw4] at hmk
    have SZ := hide (Nat.le_trans (Nat.le_of_lt hz0.out) b2.size)
    have B4 : Hid (Below w.heap.size w w4) := by rw [hw4]; exact BB.out.alloc SZ.out _
    have R4 : Hid (w4.heap[w2.heap.size]? = some (.cells (List.replicate m (Value.int .u8 0)).toArray 5 (0, 0))) := by
      refine hide ?_
      rw [hw4, heap_alloc_new]; simp
    have HR4 : Hid (∀ j v, (cs.map (Value.int .u8))[j]? = some v → w4.cell? ((⟨g, o, none⟩ : Addr).add j) = some v) := by
      intro j v hj
      have hj' : j < cs.length := by
        rcases Nat.lt_or_ge j cs.length with h | h
        · exact h
        · rw [List.getElem?_eq_none (by simpa using h)] at hj; cases hj
      have e1 : (⟨g, o, none⟩ : Addr).add j = ⟨g, o + j, none⟩ := by unfold Addr.add; split <;> simp_all
      rw [e1, B4.out.cell (p := ⟨g, o + j, none⟩) HG.out, HR.out j hj']
      simpa [hj'] using hj
    have HE := hide he
    have HL := hide hl
    clear he b2 hw4 hl
    have hmb : m ≤ 10000000 := by have := HM.out; omega
    go_wp2_with fail
    refine (as_nil _ _).mono ?_
    rintro e w6 ⟨rfl, hw6⟩
    subst w6
    go_wp2_with (first | (refine wpList_copy_splice rfl (.tmp 18) (.tmp 19) 22 22 rfl 5 Tryz.underlying22 (by kernel_rfl) (some ⟨w2.heap.size, 0, none⟩) (some ⟨g, o, none⟩) m m m _ rfl rfl w2.heap.size 0 (List.replicate m (Value.int .u8 0)) 5 R4.out (cs.map (Value.int .u8)) (by simp [HL.out]) (fun _ => ⟨rfl, _, rfl, HR4.out⟩) (by simp [HL.out]) (by intro v hv; simp at hv; obtain ⟨z, _, rfl⟩ := hv; rfl) w.heap.size w B4.out SZ.out ?_; intro w5 h5 b5))
    go_ret2
    have e5 : splice (List.replicate m (Value.int .u8 0)) 0 (cs.map (Value.int .u8)) = cs.map (Value.int .u8) := splice_all _ _ _ (by simpa using HL.out)
    have h6 := h5.out
    rw [e5] at h6
    have s5 := b5.size
    have hd5 : w2.heap.size < w5.heap.size := by
      rcases Nat.lt_or_ge w2.heap.size w5.heap.size with h | h
      · exact h
      · rw [Array.getElem?_eq_none h] at h6; cases h6
    refine ⟨.inr ⟨HE.out, _, rfl, w2.heap.size, s5, SZ.out, ?_, ?_⟩, b5.alloc s5 _⟩
    · rw [HL.out]; simp
    · exact ⟨(Below.heap_alloc w5 _ _ hd5).trans h6, HB.out⟩
  · have HE := hide he
    have BB := hide (B0.out.trans (b2.mono (Nat.le_of_lt hz0.out)))
    have hA := hide (as_errno b (errOf m) ⟨w.heap.size, 0, none⟩ (.int .i64 0) w2 (hE1.out.next b2) hcell ((b2.cell hz0.out).trans hc0.out) ((b2.frozen hz0.out).trans hf0.out))
    have hc2 := hide ((b2.cell (p := ⟨w.heap.size, 0, none⟩) hz0.out).trans hc0.out)
    clear he b2 hcell
    go_wp2_with fail
    refine hA.out.mono ?_
    rintro e w3 ⟨rfl, hw3⟩
    have hc3 : w3.cell? ⟨w.heap.size, 0, none⟩ = some (.int .i64 (errOf m)) := by
      rw [hw3]
      refine World.cell?_setCell_same _ _ _ (u := .int .i64 0) ?_
      have hlt : w.heap.size < w2.heap.size := cell_lt hc2.out
      rw [World.cell?_alloc_lt _ _ _ (by simp; omega), World.cell?_alloc_lt _ _ _ (by simp; omega), World.cell?_alloc_lt _ _ _ (by simp; omega), World.cell?_alloc_lt _ _ _ (by simpa using hlt)]
      exact hc2.out
    have B3 : Hid (Below w.heap.size w w3) := by
      rw [hw3]
      have := BB.out.size
      exact ((((BB.out.alloc (by omega) _).alloc (by simp; omega) _).alloc (by simp; omega) _).alloc (by simp; omega) _).setCell (Nat.le_refl _) _
    clear hw3
    go_wp2_with fail
    go_region
    all_goals (try go_wp2)
    go_ret2
    exact ⟨.inl ⟨HE.out, rfl⟩, B3.out.drew⟩
theorem load_any (g off cap : Nat) (bs : List Int) (w : World)
    (hR : ∀ i, i < bs.length → w.cell? ⟨g, off + i, none⟩ = some (.int .u8 (bs.getD i 0))) (hB : ∀ z ∈ bs, 0 ≤ z ∧ z < 256)
    (hn : bs.length ≤ 10000000) (hc : bs.length ≤ cap) (hm : cap ≤ 9223372036854775807) (hg : g < w.heap.size) (hT : HasTab w) (hE : HasErr w) :
    Calls Tryz.prog 4 #[.slice (some ⟨g, off, none⟩) bs.length cap] w fun e w' => ((errOf (bs.length - fromOf bs.length) ≠ 0 ∧ e = .returned (.tuple #[.pointer none, .int .i64 (errOf (bs.length - fromOf bs.length))])) ∨
      (errOf (bs.length - fromOf bs.length) = 0 ∧ ∃ c, e = .returned (.tuple #[.pointer (some ⟨c, 0, none⟩), .int .i64 0]) ∧ IsCard w.heap.size w' c (bs.drop (fromOf bs.length)))) ∧ Below w.heap.size w w' := by
  have hw := wh_any g off bs.length cap w (by omega) hc hm
  have hl : (bs.drop (fromOf bs.length)).length = bs.length - fromOf bs.length := by simp
  have go : ∀ o, (0 < bs.length - fromOf bs.length → o = off + fromOf bs.length) → (∀ i, i < (bs.drop (fromOf bs.length)).length → w.cell? ⟨g, o + i, none⟩ = some (.int .u8 ((bs.drop (fromOf bs.length)).getD i 0))) := by
    intro o ho i hi
    rw [hl] at hi
    rw [ho (by omega), show off + fromOf bs.length + i = off + (fromOf bs.length + i) by omega, hR _ (by omega)]
    simp [List.getD_eq_getElem?_getD]
  refine load_body g off bs.length cap _ _ w ?_ hl (go _ ?_) (fun z hz => hB z (List.mem_of_mem_drop hz)) hn hg hT hE hw <;>
  · intro k
    rw [if_neg]
    rintro ⟨h1, h2⟩
    have h3 : fromOf 512 = 512 := by decide
    rw [h2, h3] at k
    omega
end Go.Proofs.YthelklkfcllddaaGreatDoor.C3
