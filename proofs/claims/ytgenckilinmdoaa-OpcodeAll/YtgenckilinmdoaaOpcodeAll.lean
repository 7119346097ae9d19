/- Each byte has an instruction of 1 to 7 bytes, and at least two cycles; just 23 bytes are a NOP; its text has three letters for each byte behind the first. -/
import Derived.Test.YtgenckilinmdoaaOpRows
import Derived.Test.YtgenckilinmdoaaArrays
import Derived.OpenShut
import Derived.ShutString
import Derived.ChangeOld
import Derived.Below
namespace Go.Proofs.Ytgenckilinmdoaa
open Go.ChangeShapes Go.WideShapes Go.ChangeAt Go.RowKit
open Go.ChangeMaps (open_string shut_string)
set_option linter.unusedVariables false
set_option maxRecDepth 20000
theorem own : ownKnob Try.prog.godebug = none := by kernel_rfl

def isNop (i : Nat) : Bool := nameL i == [78, 79, 80]
def nopsTo : Nat → Int
  | 0 => 0
  | i + 1 => if isNop i then nopsTo i + 1 else nopsTo i
theorem nops_all : nopsTo 256 = 23 := by kernel_rfl
theorem nops_in : ∀ i, 0 ≤ nopsTo i ∧ nopsTo i ≤ i
  | 0 => by simp [nopsTo]
  | i + 1 => by
    have := nops_in i
    rw [nopsTo]
    split <;> omega
theorem nop_is (i : Nat) : ((nameOf i).toList == [78, 79, 80]) = isNop i := by
  show ((ByteArray.mk (nameL i).toArray).toList == _) = _
  rw [ByteArray.toList_mk]
  rfl


set_option maxHeartbeats 2000000 in
theorem all_short (ma : Option Addr) (ml mc : Nat) (f : Nat → Int) (w : World) (hml : ml ≤ 20) (hrow : RowB w ma ml mc f) : Calls Try.prog 4 #[.slice ma ml mc] w fun e w' => e = .returned (.bool true) ∧ Below w.heap.size w w' := by
  have hd : decide ((20 : Int) < (ml : Int)) = false := by rw [decide_eq_false_iff_not]; omega
  go_enter Try.func4, Try.ntmps4
  go_wp2_with fail
  have HR := hide hrow
  clear hrow
  try simp only [hd]
  go_loopw [3, 4] (fun sn si wr => ∃ i : Nat, i ≤ 256 ∧ si = .int .i64 (i : Int) ∧ sn = .int .i64 (nopsTo i) ∧ Below w.heap.size w wr) (fun _ si _ => 256 - (intOf si).toNat)
  case atStart => exact ⟨0, by omega, rfl, rfl, Below.refl _ _⟩
  case round =>
    obtain ⟨i, hi, rfl, rfl, bel⟩ := hrel
    by_cases hlt : i < 256
    · obtain ⟨l1, l7⟩ := len_in i hlt
      obtain ⟨c1, c2⟩ := cyc_in i hlt
      obtain ⟨n1, n2⟩ := name_in i hlt
      have hq := nop_is i
      obtain ⟨s, hs⟩ : ∃ s, s = nameOf i := ⟨_, rfl⟩
      obtain ⟨m, hm⟩ : ∃ m, m = modeOf i := ⟨_, rfl⟩
      obtain ⟨c, hc⟩ : ∃ c, c = cycOf i := ⟨_, rfl⟩
      obtain ⟨l, hl⟩ : ∃ l : Nat, (l : Int) = lenOf i := ⟨(lenOf i).toNat, by omega⟩
      have KO : Hid (∀ w, Calls Try.prog 10 #[.int .i64 (i : Int)] w fun e w' => e = .returned (.agg #[.string s, .int .i64 m, .int .i64 (l : Int), .int .i64 c]) ∧ Below w.heap.size w w') := by
        rw [hs, hm, hc, hl]
        exact of_byte i hlt
      have e0 : consF (i : Int) f 0 = (i : Int) := rfl
      have FI : Hid (∀ j, j < 1 + ml → 0 ≤ consF (i : Int) f j ∧ consF (i : Int) f j ≤ 255) := by
        intro j hj
        unfold consF
        rcases j with _ | j
        · rw [if_pos rfl]; omega
        · rw [if_neg (by omega)]
          rcases HR.out with ⟨h0, _⟩ | ⟨_, _, _, _, _, _, _, hcc⟩
          · omega
          · exact (hcc j (by omega)).2
      have hrw := hide (HR.out.next bel)
      have BL := hide bel
      have ht : ∀ gg cap w, RowB w (some ⟨gg, 0, none⟩) (1 + ml) cap (consF (i : Int) f) → Calls Try.prog 8 #[.slice (some ⟨gg, 0, none⟩) (1 + ml) cap] w fun e w' => e = .returned (.tuple #[.string (txtS (1 + ml) (consF (i : Int) f)), .int .i64 (txtN (1 + ml) (consF (i : Int) f))]) ∧ Below w.heap.size w w' :=
        fun gg cap w h => text_any _ _ _ _ w h
      rw [← hs] at n1 n2 hq
      rw [← hc] at c1 c2
      rw [← hl] at l1 l7
      have hnx : nopsTo (i + 1) = if isNop i then nopsTo i + 1 else nopsTo i := rfl
      have hni := nops_in i
      by_cases hsh : 1 + ml < l
      · have e1 : txtS (1 + ml) (consF (i : Int) f) = ⟨#[]⟩ := by
          unfold txtS
          rw [if_pos (by rw [e0, Int.toNat_natCast, ← hl]; omega)]
        have e2 : txtN (1 + ml) (consF (i : Int) f) = 0 := by
          unfold txtN
          rw [if_pos (by rw [e0, Int.toNat_natCast, ← hl]; omega)]
        rw [e1, e2] at ht
        have KT := hide ht
        clear ht e1 e2 bel hs hm hc hl e0
        by_cases hnop : isNop i = true
        · rw [hnop] at hq hnx
          rw [if_pos rfl] at hnx
          go_wp2_with fail
          refine (KO.out _).mono ?_
          rintro e w1 ⟨rfl, b1⟩
          have ha : ((w1.alloc (.cells #[.string s, .int .i64 m, .int .i64 (l : Int), .int .i64 c] 27)).alloc (.cells #[.int .u8 (i : Int)] 5)).heap[w1.heap.size]? = some (.cells #[.string s, .int .i64 m, .int .i64 (l : Int), .int .i64 c] 27 (0, 0)) := heap_alloc2_old _ _ _
          have hn : ((w1.alloc (.cells #[.string s, .int .i64 m, .int .i64 (l : Int), .int .i64 c] 27)).alloc (.cells #[.int .u8 (i : Int)] 5)).heap[w1.heap.size + 1]? = some (.cells #[.int .u8 (i : Int)] 5 (0, 0)) := heap_alloc2_new _ _ _
          have bb : Below w1.heap.size w1 ((w1.alloc (.cells #[.string s, .int .i64 m, .int .i64 (l : Int), .int .i64 c] 27)).alloc (.cells #[.int .u8 (i : Int)] 5)) := ((Below.refl _ w1).alloc (Nat.le_refl _) _).alloc (by simp) _
          have HA := hide ha
          have HN := hide hn
          have BB := hide (bnext (bnext BL.out b1) bb)
          have HW := hide ((hrw.out.next b1).next bb)
          have s1 := hide b1.size
          clear ha hn bb b1
          go_wp2_with (first | (at_builtin; refine wpList_append_more rfl (.tmp 57) (.tmp 58) rfl (w1.heap.size + 1) (w1.heap.size + 1) (i : Int) rfl HN.out (Nat.le_refl _) ma ml mc f rfl HW.out (by omega) ?_; intro gg cap6 w6 hgB hg6 b6 hc6 hm6 hrow6))
          have r6 : RowB w6 (some ⟨gg, 0, none⟩) (1 + ml) cap6 (consF (i : Int) f) := .inr ⟨gg, 0, by omega, rfl, hg6, hc6, hm6, fun j hj => ⟨hrow6 j hj, FI.out j hj⟩⟩
          have K2 := hide (KT.out gg cap6 w6 r6)
          have a6 := (b6.block w1.heap.size (by omega)).trans HA.out
          have B6 := hide (BB.out.trans (b6.mono (by have := BL.out.size; have := s1.out; omega)))
          have lt6 := lt_of_block a6
          clear b6 hrow6 r6 HA HN HW BB s1
          refine K2.out.mono ?_
          rintro e w7 ⟨rfl, b7⟩
          have a7 := (b7.block w1.heap.size lt6).trans a6
          have x0 : w7.cell? ⟨w1.heap.size, 0, none⟩ = some (.string s) := by simp [World.cell?, a7]
          have x2 : w7.cell? ⟨w1.heap.size, 2, none⟩ = some (.int .i64 (l : Int)) := by simp [World.cell?, a7]
          have B7 := hide (bnext B6.out b7)
          clear a6 a7 b7 lt6 K2 KO KT
          go_wp2_with fail
          go_roundw
          case rel => exact ⟨i + 1, by omega, by go_num, by rw [hnx], B7.out⟩
          case measure => simp [intOf]; omega
        · have hf : isNop i = false := by simpa using hnop
          rw [hf] at hq hnx
          rw [if_neg (by decide)] at hnx
          go_wp2_with fail
          refine (KO.out _).mono ?_
          rintro e w1 ⟨rfl, b1⟩
          have ha : ((w1.alloc (.cells #[.string s, .int .i64 m, .int .i64 (l : Int), .int .i64 c] 27)).alloc (.cells #[.int .u8 (i : Int)] 5)).heap[w1.heap.size]? = some (.cells #[.string s, .int .i64 m, .int .i64 (l : Int), .int .i64 c] 27 (0, 0)) := heap_alloc2_old _ _ _
          have hn : ((w1.alloc (.cells #[.string s, .int .i64 m, .int .i64 (l : Int), .int .i64 c] 27)).alloc (.cells #[.int .u8 (i : Int)] 5)).heap[w1.heap.size + 1]? = some (.cells #[.int .u8 (i : Int)] 5 (0, 0)) := heap_alloc2_new _ _ _
          have bb : Below w1.heap.size w1 ((w1.alloc (.cells #[.string s, .int .i64 m, .int .i64 (l : Int), .int .i64 c] 27)).alloc (.cells #[.int .u8 (i : Int)] 5)) := ((Below.refl _ w1).alloc (Nat.le_refl _) _).alloc (by simp) _
          have HA := hide ha
          have HN := hide hn
          have BB := hide (bnext (bnext BL.out b1) bb)
          have HW := hide ((hrw.out.next b1).next bb)
          have s1 := hide b1.size
          clear ha hn bb b1
          go_wp2_with (first | (at_builtin; refine wpList_append_more rfl (.tmp 57) (.tmp 58) rfl (w1.heap.size + 1) (w1.heap.size + 1) (i : Int) rfl HN.out (Nat.le_refl _) ma ml mc f rfl HW.out (by omega) ?_; intro gg cap6 w6 hgB hg6 b6 hc6 hm6 hrow6))
          have r6 : RowB w6 (some ⟨gg, 0, none⟩) (1 + ml) cap6 (consF (i : Int) f) := .inr ⟨gg, 0, by omega, rfl, hg6, hc6, hm6, fun j hj => ⟨hrow6 j hj, FI.out j hj⟩⟩
          have K2 := hide (KT.out gg cap6 w6 r6)
          have a6 := (b6.block w1.heap.size (by omega)).trans HA.out
          have B6 := hide (BB.out.trans (b6.mono (by have := BL.out.size; have := s1.out; omega)))
          have lt6 := lt_of_block a6
          clear b6 hrow6 r6 HA HN HW BB s1
          refine K2.out.mono ?_
          rintro e w7 ⟨rfl, b7⟩
          have a7 := (b7.block w1.heap.size lt6).trans a6
          have x0 : w7.cell? ⟨w1.heap.size, 0, none⟩ = some (.string s) := by simp [World.cell?, a7]
          have x2 : w7.cell? ⟨w1.heap.size, 2, none⟩ = some (.int .i64 (l : Int)) := by simp [World.cell?, a7]
          have B7 := hide (bnext B6.out b7)
          clear a6 a7 b7 lt6 K2 KO KT
          go_wp2_with fail
          go_roundw
          case rel => exact ⟨i + 1, by omega, by go_num, by rw [hnx], B7.out⟩
          case measure => simp [intOf]; omega
      · have e1 : txtS (1 + ml) (consF (i : Int) f) = textB s (consF (i : Int) f) (l - 1) := by
          unfold txtS
          rw [if_neg (by rw [e0, Int.toNat_natCast, ← hl]; omega), e0, Int.toNat_natCast, ← hl, Int.toNat_natCast, ← hs]
        have e2 : txtN (1 + ml) (consF (i : Int) f) = (l : Int) := by
          unfold txtN
          rw [if_neg (by rw [e0, Int.toNat_natCast, ← hl]; omega), e0, Int.toNat_natCast, ← hl]
        rw [e1, e2] at ht
        have hts := textB_size s (consF (i : Int) f) (l - 1)
        have KT := hide ht
        clear ht e1 e2 bel hs hm hc hl e0
        obtain ⟨ts, hts2⟩ : ∃ ts, ts = textB s (consF (i : Int) f) (l - 1) := ⟨_, rfl⟩
        rw [← hts2] at KT hts
        clear hts2
        have hl0 : ¬ (l : Int) = 0 := by omega
        have hsz : (ts.size : Int) = (s.size : Int) + 3 * ((l : Int) - 1) := by omega
        clear hts
        by_cases hnop : isNop i = true
        · rw [hnop] at hq hnx
          rw [if_pos rfl] at hnx
          go_wp2_with fail
          refine (KO.out _).mono ?_
          rintro e w1 ⟨rfl, b1⟩
          have ha : ((w1.alloc (.cells #[.string s, .int .i64 m, .int .i64 (l : Int), .int .i64 c] 27)).alloc (.cells #[.int .u8 (i : Int)] 5)).heap[w1.heap.size]? = some (.cells #[.string s, .int .i64 m, .int .i64 (l : Int), .int .i64 c] 27 (0, 0)) := heap_alloc2_old _ _ _
          have hn : ((w1.alloc (.cells #[.string s, .int .i64 m, .int .i64 (l : Int), .int .i64 c] 27)).alloc (.cells #[.int .u8 (i : Int)] 5)).heap[w1.heap.size + 1]? = some (.cells #[.int .u8 (i : Int)] 5 (0, 0)) := heap_alloc2_new _ _ _
          have bb : Below w1.heap.size w1 ((w1.alloc (.cells #[.string s, .int .i64 m, .int .i64 (l : Int), .int .i64 c] 27)).alloc (.cells #[.int .u8 (i : Int)] 5)) := ((Below.refl _ w1).alloc (Nat.le_refl _) _).alloc (by simp) _
          have HA := hide ha
          have HN := hide hn
          have BB := hide (bnext (bnext BL.out b1) bb)
          have HW := hide ((hrw.out.next b1).next bb)
          have s1 := hide b1.size
          clear ha hn bb b1
          go_wp2_with (first | (at_builtin; refine wpList_append_more rfl (.tmp 57) (.tmp 58) rfl (w1.heap.size + 1) (w1.heap.size + 1) (i : Int) rfl HN.out (Nat.le_refl _) ma ml mc f rfl HW.out (by omega) ?_; intro gg cap6 w6 hgB hg6 b6 hc6 hm6 hrow6))
          have r6 : RowB w6 (some ⟨gg, 0, none⟩) (1 + ml) cap6 (consF (i : Int) f) := .inr ⟨gg, 0, by omega, rfl, hg6, hc6, hm6, fun j hj => ⟨hrow6 j hj, FI.out j hj⟩⟩
          have K2 := hide (KT.out gg cap6 w6 r6)
          have a6 := (b6.block w1.heap.size (by omega)).trans HA.out
          have B6 := hide (BB.out.trans (b6.mono (by have := BL.out.size; have := s1.out; omega)))
          have lt6 := lt_of_block a6
          clear b6 hrow6 r6 HA HN HW BB s1
          refine K2.out.mono ?_
          rintro e w7 ⟨rfl, b7⟩
          have a7 := (b7.block w1.heap.size lt6).trans a6
          have x0 : w7.cell? ⟨w1.heap.size, 0, none⟩ = some (.string s) := by simp [World.cell?, a7]
          have x2 : w7.cell? ⟨w1.heap.size, 2, none⟩ = some (.int .i64 (l : Int)) := by simp [World.cell?, a7]
          have B7 := hide (bnext B6.out b7)
          clear a6 a7 b7 lt6 K2 KO KT
          go_wp2_with fail
          go_roundw
          case rel => exact ⟨i + 1, by omega, by go_num, by rw [hnx], B7.out⟩
          case measure => simp [intOf]; omega
        · have hf : isNop i = false := by simpa using hnop
          rw [hf] at hq hnx
          rw [if_neg (by decide)] at hnx
          go_wp2_with fail
          refine (KO.out _).mono ?_
          rintro e w1 ⟨rfl, b1⟩
          have ha : ((w1.alloc (.cells #[.string s, .int .i64 m, .int .i64 (l : Int), .int .i64 c] 27)).alloc (.cells #[.int .u8 (i : Int)] 5)).heap[w1.heap.size]? = some (.cells #[.string s, .int .i64 m, .int .i64 (l : Int), .int .i64 c] 27 (0, 0)) := heap_alloc2_old _ _ _
          have hn : ((w1.alloc (.cells #[.string s, .int .i64 m, .int .i64 (l : Int), .int .i64 c] 27)).alloc (.cells #[.int .u8 (i : Int)] 5)).heap[w1.heap.size + 1]? = some (.cells #[.int .u8 (i : Int)] 5 (0, 0)) := heap_alloc2_new _ _ _
          have bb : Below w1.heap.size w1 ((w1.alloc (.cells #[.string s, .int .i64 m, .int .i64 (l : Int), .int .i64 c] 27)).alloc (.cells #[.int .u8 (i : Int)] 5)) := ((Below.refl _ w1).alloc (Nat.le_refl _) _).alloc (by simp) _
          have HA := hide ha
          have HN := hide hn
          have BB := hide (bnext (bnext BL.out b1) bb)
          have HW := hide ((hrw.out.next b1).next bb)
          have s1 := hide b1.size
          clear ha hn bb b1
          go_wp2_with (first | (at_builtin; refine wpList_append_more rfl (.tmp 57) (.tmp 58) rfl (w1.heap.size + 1) (w1.heap.size + 1) (i : Int) rfl HN.out (Nat.le_refl _) ma ml mc f rfl HW.out (by omega) ?_; intro gg cap6 w6 hgB hg6 b6 hc6 hm6 hrow6))
          have r6 : RowB w6 (some ⟨gg, 0, none⟩) (1 + ml) cap6 (consF (i : Int) f) := .inr ⟨gg, 0, by omega, rfl, hg6, hc6, hm6, fun j hj => ⟨hrow6 j hj, FI.out j hj⟩⟩
          have K2 := hide (KT.out gg cap6 w6 r6)
          have a6 := (b6.block w1.heap.size (by omega)).trans HA.out
          have B6 := hide (BB.out.trans (b6.mono (by have := BL.out.size; have := s1.out; omega)))
          have lt6 := lt_of_block a6
          clear b6 hrow6 r6 HA HN HW BB s1
          refine K2.out.mono ?_
          rintro e w7 ⟨rfl, b7⟩
          have a7 := (b7.block w1.heap.size lt6).trans a6
          have x0 : w7.cell? ⟨w1.heap.size, 0, none⟩ = some (.string s) := by simp [World.cell?, a7]
          have x2 : w7.cell? ⟨w1.heap.size, 2, none⟩ = some (.int .i64 (l : Int)) := by simp [World.cell?, a7]
          have B7 := hide (bnext B6.out b7)
          clear a6 a7 b7 lt6 K2 KO KT
          go_wp2_with fail
          go_roundw
          case rel => exact ⟨i + 1, by omega, by go_num, by rw [hnx], B7.out⟩
          case measure => simp [intOf]; omega
    · have hi' : i = 256 := by omega
      subst hi'
      have hn := nops_all
      have BL := hide bel
      clear bel
      go_wp2
      go_ret
      exact ⟨rfl, BL.out⟩
set_option maxHeartbeats 2000000 in
theorem all_long (ma : Option Addr) (n ml mc bb off : Nat) (f : Nat → Int) (w : World) (hn : 20 < n) (hnc : n ≤ mc) (hmx : mc ≤ maxLen) (hml : ml ≤ 20) (hmm : 20 ≤ ml) (ema : ma = some ⟨bb, off, none⟩) (hrow : RowB w ma ml mc f) :
    Calls Try.prog 4 #[.slice ma n mc] w fun e w' => e = .returned (.bool true) ∧ Below w.heap.size w w' := by
  have hd : decide ((20 : Int) < (n : Int)) = true := by rw [decide_eq_true_eq]; omega
  have hm2 : mc < 9223372036854775808 := by simp [maxLen] at hmx; omega
  clear hmx
  have eml : ml = 20 := by omega
  subst ema
  go_enter Try.func4, Try.ntmps4
  go_wp2_with fail
  rw [show (Value.slice (some ⟨bb, off, none⟩) 20 mc) = .slice (some ⟨bb, off, none⟩) ml mc by rw [eml]]
  clear eml hmm
  have HR := hide hrow
  clear hrow
  try simp only [hd]
  go_loopw [3, 4] (fun sn si wr => ∃ i : Nat, i ≤ 256 ∧ si = .int .i64 (i : Int) ∧ sn = .int .i64 (nopsTo i) ∧ Below w.heap.size w wr) (fun _ si _ => 256 - (intOf si).toNat)
  case atStart => exact ⟨0, by omega, rfl, rfl, Below.refl _ _⟩
  case round =>
    obtain ⟨i, hi, rfl, rfl, bel⟩ := hrel
    by_cases hlt : i < 256
    · obtain ⟨l1, l7⟩ := len_in i hlt
      obtain ⟨c1, c2⟩ := cyc_in i hlt
      obtain ⟨n1, n2⟩ := name_in i hlt
      have hq := nop_is i
      obtain ⟨s, hs⟩ : ∃ s, s = nameOf i := ⟨_, rfl⟩
      obtain ⟨m, hm⟩ : ∃ m, m = modeOf i := ⟨_, rfl⟩
      obtain ⟨c, hc⟩ : ∃ c, c = cycOf i := ⟨_, rfl⟩
      obtain ⟨l, hl⟩ : ∃ l : Nat, (l : Int) = lenOf i := ⟨(lenOf i).toNat, by omega⟩
      have KO : Hid (∀ w, Calls Try.prog 10 #[.int .i64 (i : Int)] w fun e w' => e = .returned (.agg #[.string s, .int .i64 m, .int .i64 (l : Int), .int .i64 c]) ∧ Below w.heap.size w w') := by
        rw [hs, hm, hc, hl]
        exact of_byte i hlt
      have e0 : consF (i : Int) f 0 = (i : Int) := rfl
      have FI : Hid (∀ j, j < 1 + ml → 0 ≤ consF (i : Int) f j ∧ consF (i : Int) f j ≤ 255) := by
        intro j hj
        unfold consF
        rcases j with _ | j
        · rw [if_pos rfl]; omega
        · rw [if_neg (by omega)]
          rcases HR.out with ⟨h0, _⟩ | ⟨_, _, _, _, _, _, _, hcc⟩
          · omega
          · exact (hcc j (by omega)).2
      have hrw := hide (HR.out.next bel)
      have BL := hide bel
      have ht : ∀ gg cap w, RowB w (some ⟨gg, 0, none⟩) (1 + ml) cap (consF (i : Int) f) → Calls Try.prog 8 #[.slice (some ⟨gg, 0, none⟩) (1 + ml) cap] w fun e w' => e = .returned (.tuple #[.string (txtS (1 + ml) (consF (i : Int) f)), .int .i64 (txtN (1 + ml) (consF (i : Int) f))]) ∧ Below w.heap.size w w' :=
        fun gg cap w h => text_any _ _ _ _ w h
      rw [← hs] at n1 n2 hq
      rw [← hc] at c1 c2
      rw [← hl] at l1 l7
      have hnx : nopsTo (i + 1) = if isNop i then nopsTo i + 1 else nopsTo i := rfl
      have hni := nops_in i
      by_cases hsh : 1 + ml < l
      · have e1 : txtS (1 + ml) (consF (i : Int) f) = ⟨#[]⟩ := by
          unfold txtS
          rw [if_pos (by rw [e0, Int.toNat_natCast, ← hl]; omega)]
        have e2 : txtN (1 + ml) (consF (i : Int) f) = 0 := by
          unfold txtN
          rw [if_pos (by rw [e0, Int.toNat_natCast, ← hl]; omega)]
        rw [e1, e2] at ht
        have KT := hide ht
        clear ht e1 e2 bel hs hm hc hl e0
        by_cases hnop : isNop i = true
        · rw [hnop] at hq hnx
          rw [if_pos rfl] at hnx
          go_wp2_with fail
          refine (KO.out _).mono ?_
          rintro e w1 ⟨rfl, b1⟩
          have ha : ((w1.alloc (.cells #[.string s, .int .i64 m, .int .i64 (l : Int), .int .i64 c] 27)).alloc (.cells #[.int .u8 (i : Int)] 5)).heap[w1.heap.size]? = some (.cells #[.string s, .int .i64 m, .int .i64 (l : Int), .int .i64 c] 27 (0, 0)) := heap_alloc2_old _ _ _
          have hn : ((w1.alloc (.cells #[.string s, .int .i64 m, .int .i64 (l : Int), .int .i64 c] 27)).alloc (.cells #[.int .u8 (i : Int)] 5)).heap[w1.heap.size + 1]? = some (.cells #[.int .u8 (i : Int)] 5 (0, 0)) := heap_alloc2_new _ _ _
          have bb : Below w1.heap.size w1 ((w1.alloc (.cells #[.string s, .int .i64 m, .int .i64 (l : Int), .int .i64 c] 27)).alloc (.cells #[.int .u8 (i : Int)] 5)) := ((Below.refl _ w1).alloc (Nat.le_refl _) _).alloc (by simp) _
          have HA := hide ha
          have HN := hide hn
          have BB := hide (bnext (bnext BL.out b1) bb)
          have HW := hide ((hrw.out.next b1).next bb)
          have s1 := hide b1.size
          clear ha hn bb b1
          go_wp2_with (first | (at_builtin; refine wpList_append_more rfl (.tmp 57) (.tmp 58) rfl (w1.heap.size + 1) (w1.heap.size + 1) (i : Int) rfl HN.out (Nat.le_refl _) (some ⟨bb, off, none⟩) ml mc f rfl HW.out (by omega) ?_; intro gg cap6 w6 hgB hg6 b6 hc6 hm6 hrow6))
          have r6 : RowB w6 (some ⟨gg, 0, none⟩) (1 + ml) cap6 (consF (i : Int) f) := .inr ⟨gg, 0, by omega, rfl, hg6, hc6, hm6, fun j hj => ⟨hrow6 j hj, FI.out j hj⟩⟩
          have K2 := hide (KT.out gg cap6 w6 r6)
          have a6 := (b6.block w1.heap.size (by omega)).trans HA.out
          have B6 := hide (BB.out.trans (b6.mono (by have := BL.out.size; have := s1.out; omega)))
          have lt6 := lt_of_block a6
          clear b6 hrow6 r6 HA HN HW BB s1
          refine K2.out.mono ?_
          rintro e w7 ⟨rfl, b7⟩
          have a7 := (b7.block w1.heap.size lt6).trans a6
          have x0 : w7.cell? ⟨w1.heap.size, 0, none⟩ = some (.string s) := by simp [World.cell?, a7]
          have x2 : w7.cell? ⟨w1.heap.size, 2, none⟩ = some (.int .i64 (l : Int)) := by simp [World.cell?, a7]
          have B7 := hide (bnext B6.out b7)
          clear a6 a7 b7 lt6 K2 KO KT
          go_wp2_with fail
          go_roundw
          case rel => exact ⟨i + 1, by omega, by go_num, by rw [hnx], B7.out⟩
          case measure => simp [intOf]; omega
        · have hf : isNop i = false := by simpa using hnop
          rw [hf] at hq hnx
          rw [if_neg (by decide)] at hnx
          go_wp2_with fail
          refine (KO.out _).mono ?_
          rintro e w1 ⟨rfl, b1⟩
          have ha : ((w1.alloc (.cells #[.string s, .int .i64 m, .int .i64 (l : Int), .int .i64 c] 27)).alloc (.cells #[.int .u8 (i : Int)] 5)).heap[w1.heap.size]? = some (.cells #[.string s, .int .i64 m, .int .i64 (l : Int), .int .i64 c] 27 (0, 0)) := heap_alloc2_old _ _ _
          have hn : ((w1.alloc (.cells #[.string s, .int .i64 m, .int .i64 (l : Int), .int .i64 c] 27)).alloc (.cells #[.int .u8 (i : Int)] 5)).heap[w1.heap.size + 1]? = some (.cells #[.int .u8 (i : Int)] 5 (0, 0)) := heap_alloc2_new _ _ _
          have bb : Below w1.heap.size w1 ((w1.alloc (.cells #[.string s, .int .i64 m, .int .i64 (l : Int), .int .i64 c] 27)).alloc (.cells #[.int .u8 (i : Int)] 5)) := ((Below.refl _ w1).alloc (Nat.le_refl _) _).alloc (by simp) _
          have HA := hide ha
          have HN := hide hn
          have BB := hide (bnext (bnext BL.out b1) bb)
          have HW := hide ((hrw.out.next b1).next bb)
          have s1 := hide b1.size
          clear ha hn bb b1
          go_wp2_with (first | (at_builtin; refine wpList_append_more rfl (.tmp 57) (.tmp 58) rfl (w1.heap.size + 1) (w1.heap.size + 1) (i : Int) rfl HN.out (Nat.le_refl _) (some ⟨bb, off, none⟩) ml mc f rfl HW.out (by omega) ?_; intro gg cap6 w6 hgB hg6 b6 hc6 hm6 hrow6))
          have r6 : RowB w6 (some ⟨gg, 0, none⟩) (1 + ml) cap6 (consF (i : Int) f) := .inr ⟨gg, 0, by omega, rfl, hg6, hc6, hm6, fun j hj => ⟨hrow6 j hj, FI.out j hj⟩⟩
          have K2 := hide (KT.out gg cap6 w6 r6)
          have a6 := (b6.block w1.heap.size (by omega)).trans HA.out
          have B6 := hide (BB.out.trans (b6.mono (by have := BL.out.size; have := s1.out; omega)))
          have lt6 := lt_of_block a6
          clear b6 hrow6 r6 HA HN HW BB s1
          refine K2.out.mono ?_
          rintro e w7 ⟨rfl, b7⟩
          have a7 := (b7.block w1.heap.size lt6).trans a6
          have x0 : w7.cell? ⟨w1.heap.size, 0, none⟩ = some (.string s) := by simp [World.cell?, a7]
          have x2 : w7.cell? ⟨w1.heap.size, 2, none⟩ = some (.int .i64 (l : Int)) := by simp [World.cell?, a7]
          have B7 := hide (bnext B6.out b7)
          clear a6 a7 b7 lt6 K2 KO KT
          go_wp2_with fail
          go_roundw
          case rel => exact ⟨i + 1, by omega, by go_num, by rw [hnx], B7.out⟩
          case measure => simp [intOf]; omega
      · have e1 : txtS (1 + ml) (consF (i : Int) f) = textB s (consF (i : Int) f) (l - 1) := by
          unfold txtS
          rw [if_neg (by rw [e0, Int.toNat_natCast, ← hl]; omega), e0, Int.toNat_natCast, ← hl, Int.toNat_natCast, ← hs]
        have e2 : txtN (1 + ml) (consF (i : Int) f) = (l : Int) := by
          unfold txtN
          rw [if_neg (by rw [e0, Int.toNat_natCast, ← hl]; omega), e0, Int.toNat_natCast, ← hl]
        rw [e1, e2] at ht
        have hts := textB_size s (consF (i : Int) f) (l - 1)
        have KT := hide ht
        clear ht e1 e2 bel hs hm hc hl e0
        obtain ⟨ts, hts2⟩ : ∃ ts, ts = textB s (consF (i : Int) f) (l - 1) := ⟨_, rfl⟩
        rw [← hts2] at KT hts
        clear hts2
        have hl0 : ¬ (l : Int) = 0 := by omega
        have hsz : (ts.size : Int) = (s.size : Int) + 3 * ((l : Int) - 1) := by omega
        clear hts
        by_cases hnop : isNop i = true
        · rw [hnop] at hq hnx
          rw [if_pos rfl] at hnx
          go_wp2_with fail
          refine (KO.out _).mono ?_
          rintro e w1 ⟨rfl, b1⟩
          have ha : ((w1.alloc (.cells #[.string s, .int .i64 m, .int .i64 (l : Int), .int .i64 c] 27)).alloc (.cells #[.int .u8 (i : Int)] 5)).heap[w1.heap.size]? = some (.cells #[.string s, .int .i64 m, .int .i64 (l : Int), .int .i64 c] 27 (0, 0)) := heap_alloc2_old _ _ _
          have hn : ((w1.alloc (.cells #[.string s, .int .i64 m, .int .i64 (l : Int), .int .i64 c] 27)).alloc (.cells #[.int .u8 (i : Int)] 5)).heap[w1.heap.size + 1]? = some (.cells #[.int .u8 (i : Int)] 5 (0, 0)) := heap_alloc2_new _ _ _
          have bb : Below w1.heap.size w1 ((w1.alloc (.cells #[.string s, .int .i64 m, .int .i64 (l : Int), .int .i64 c] 27)).alloc (.cells #[.int .u8 (i : Int)] 5)) := ((Below.refl _ w1).alloc (Nat.le_refl _) _).alloc (by simp) _
          have HA := hide ha
          have HN := hide hn
          have BB := hide (bnext (bnext BL.out b1) bb)
          have HW := hide ((hrw.out.next b1).next bb)
          have s1 := hide b1.size
          clear ha hn bb b1
          go_wp2_with (first | (at_builtin; refine wpList_append_more rfl (.tmp 57) (.tmp 58) rfl (w1.heap.size + 1) (w1.heap.size + 1) (i : Int) rfl HN.out (Nat.le_refl _) (some ⟨bb, off, none⟩) ml mc f rfl HW.out (by omega) ?_; intro gg cap6 w6 hgB hg6 b6 hc6 hm6 hrow6))
          have r6 : RowB w6 (some ⟨gg, 0, none⟩) (1 + ml) cap6 (consF (i : Int) f) := .inr ⟨gg, 0, by omega, rfl, hg6, hc6, hm6, fun j hj => ⟨hrow6 j hj, FI.out j hj⟩⟩
          have K2 := hide (KT.out gg cap6 w6 r6)
          have a6 := (b6.block w1.heap.size (by omega)).trans HA.out
          have B6 := hide (BB.out.trans (b6.mono (by have := BL.out.size; have := s1.out; omega)))
          have lt6 := lt_of_block a6
          clear b6 hrow6 r6 HA HN HW BB s1
          refine K2.out.mono ?_
          rintro e w7 ⟨rfl, b7⟩
          have a7 := (b7.block w1.heap.size lt6).trans a6
          have x0 : w7.cell? ⟨w1.heap.size, 0, none⟩ = some (.string s) := by simp [World.cell?, a7]
          have x2 : w7.cell? ⟨w1.heap.size, 2, none⟩ = some (.int .i64 (l : Int)) := by simp [World.cell?, a7]
          have B7 := hide (bnext B6.out b7)
          clear a6 a7 b7 lt6 K2 KO KT
          go_wp2_with fail
          go_roundw
          case rel => exact ⟨i + 1, by omega, by go_num, by rw [hnx], B7.out⟩
          case measure => simp [intOf]; omega
        · have hf : isNop i = false := by simpa using hnop
          rw [hf] at hq hnx
          rw [if_neg (by decide)] at hnx
          go_wp2_with fail
          refine (KO.out _).mono ?_
          rintro e w1 ⟨rfl, b1⟩
          have ha : ((w1.alloc (.cells #[.string s, .int .i64 m, .int .i64 (l : Int), .int .i64 c] 27)).alloc (.cells #[.int .u8 (i : Int)] 5)).heap[w1.heap.size]? = some (.cells #[.string s, .int .i64 m, .int .i64 (l : Int), .int .i64 c] 27 (0, 0)) := heap_alloc2_old _ _ _
          have hn : ((w1.alloc (.cells #[.string s, .int .i64 m, .int .i64 (l : Int), .int .i64 c] 27)).alloc (.cells #[.int .u8 (i : Int)] 5)).heap[w1.heap.size + 1]? = some (.cells #[.int .u8 (i : Int)] 5 (0, 0)) := heap_alloc2_new _ _ _
          have bb : Below w1.heap.size w1 ((w1.alloc (.cells #[.string s, .int .i64 m, .int .i64 (l : Int), .int .i64 c] 27)).alloc (.cells #[.int .u8 (i : Int)] 5)) := ((Below.refl _ w1).alloc (Nat.le_refl _) _).alloc (by simp) _
          have HA := hide ha
          have HN := hide hn
          have BB := hide (bnext (bnext BL.out b1) bb)
          have HW := hide ((hrw.out.next b1).next bb)
          have s1 := hide b1.size
          clear ha hn bb b1
          go_wp2_with (first | (at_builtin; refine wpList_append_more rfl (.tmp 57) (.tmp 58) rfl (w1.heap.size + 1) (w1.heap.size + 1) (i : Int) rfl HN.out (Nat.le_refl _) (some ⟨bb, off, none⟩) ml mc f rfl HW.out (by omega) ?_; intro gg cap6 w6 hgB hg6 b6 hc6 hm6 hrow6))
          have r6 : RowB w6 (some ⟨gg, 0, none⟩) (1 + ml) cap6 (consF (i : Int) f) := .inr ⟨gg, 0, by omega, rfl, hg6, hc6, hm6, fun j hj => ⟨hrow6 j hj, FI.out j hj⟩⟩
          have K2 := hide (KT.out gg cap6 w6 r6)
          have a6 := (b6.block w1.heap.size (by omega)).trans HA.out
          have B6 := hide (BB.out.trans (b6.mono (by have := BL.out.size; have := s1.out; omega)))
          have lt6 := lt_of_block a6
          clear b6 hrow6 r6 HA HN HW BB s1
          refine K2.out.mono ?_
          rintro e w7 ⟨rfl, b7⟩
          have a7 := (b7.block w1.heap.size lt6).trans a6
          have x0 : w7.cell? ⟨w1.heap.size, 0, none⟩ = some (.string s) := by simp [World.cell?, a7]
          have x2 : w7.cell? ⟨w1.heap.size, 2, none⟩ = some (.int .i64 (l : Int)) := by simp [World.cell?, a7]
          have B7 := hide (bnext B6.out b7)
          clear a6 a7 b7 lt6 K2 KO KT
          go_wp2_with fail
          go_roundw
          case rel => exact ⟨i + 1, by omega, by go_num, by rw [hnx], B7.out⟩
          case measure => simp [intOf]; omega
    · have hi' : i = 256 := by omega
      subst hi'
      have hn := nops_all
      have BL := hide bel
      clear bel
      go_wp2
      go_ret
      exact ⟨rfl, BL.out⟩

theorem opcodeAll_walk (a0 : Option Addr) (len0 cap0 : Nat) (z0 : List Int) (w : World) (w0 : IsRow .u8 w a0 len0 cap0 z0) :
    Calls Try.prog 4 #[.slice a0 len0 cap0] w fun e w' => e = .returned (.bool true) ∧ Below w.heap.size w w' := by
  by_cases h : len0 ≤ 20
  · exact all_short a0 len0 cap0 _ w h w0.rowB
  · obtain ⟨bb, off, ha, _, h1, h2, _⟩ := w0.cells (by omega)
    exact all_long a0 len0 20 cap0 bb off _ w (by omega) h1 h2 (by omega) (by omega) ha (w0.cut (by omega)).rowB

set_option maxRecDepth 100000 in
theorem opcodeAll_lifted (os : Os) (started : os.Started) (H : Type) (enc : TypeId × Value → H) :
    ReturnsInHanded {} Try.checked os 4 .any (Rows.opcodeAllSpec.pre6 enc Try.prog Try.f4 Rows.opcodeAllRow.domain false) (Rows.opcodeAllSpec.post enc Try.prog Try.f4 false true false false) := by
  refine returnsInHanded_of_change (C := Try.checked) own started (by kernel_rfl) Try.func4
    (ChangeSpec.witness6 (enc := enc) (C := Try.checked) false ⟨#[], #[.slice none 0 0], []⟩ 8 (by kernel_rfl) (by kernel_rfl) (by kernel_rfl) (by kernel_rfl)) ?_
  intro W base args ds gs before hval0 hW hcnd _
  have hval : ∀ (j : Nat) t v, Try.f4.params[j]? = some t → args[j]? = some v → Value.okWide Try.prog W .any base t v := hval0
  have hW' := hW
  obtain ⟨p, q, hA0, hV, rfl, hfz, hnd⟩ := hW
  have hA : DataW.TrodAll enc Try.prog W 0 (fun _ => true) true Try.f4.params.toList args.toList ds p := hA0
  rw [Try.params4] at hA hval
  obtain ⟨v0, vs0, d0, ds0, p0, q0, hargs, rfl, rfl, h0, r0⟩ := trodAll_cons hA
  obtain ⟨rfl, rfl, rfl⟩ := trodAll_nil r0
  obtain rfl : args = #[v0] := by cases args; simp_all
  obtain ⟨rfl, rfl⟩ := trodVars_none hV
  obtain ⟨a0, len0, cap0, rfl⟩ := okWide_slice Try.underlying22 (hval 0 22 v0 rfl rfl)
  have k0 := h0
  have lt0 : ∀ x ∈ p0, x.block < W.heap.size := by obtain ⟨m, hm⟩ := k0; exact DataW.trod_lt m _ _ _ hm
  obtain ⟨z0, w0⟩ : ∃ zs, IsRow .u8 W a0 len0 cap0 zs := by
    obtain ⟨fuel, hf⟩ := h0
    rcases open_ints Try.underlying22 Try.underlying5 (by kernel_rfl) hf with ⟨hcs, _⟩ | ⟨x, l, c, zs, hcs, _, hl, hm, hz, _, hcell, hwz⟩
    · simp [Value.cells] at hcs
      obtain ⟨rfl, rfl, rfl⟩ := hcs
      exact ⟨[], .inl ⟨rfl, rfl, rfl, rfl⟩⟩
    · simp [Value.cells] at hcs
      obtain ⟨rfl, rfl, rfl⟩ := hcs
      exact ⟨zs, .inr ⟨_, rfl, hl, hm, by simpa using hz, hcell, hwz⟩⟩
  clear hA0 hval0
  refine (opcodeAll_walk a0 len0 cap0 z0 W w0).mono fun e W' ⟨he, bel⟩ => ?_
  subst he
  exact ⟨_, rfl, _, _, _, [], _, [], hW', trodAll_mk1 (shut_bool Try.underlying4 _), (trodAll_cons_mk (Below.trod laidOut (by kernel_rfl) (of_decide_eq_true (by kernel_rfl)) k0 bel lt0) trodAll_mk0), rfl, bel.frame _, fun h => by cases h⟩

theorem opcodeAll_over : Rows.opcodeAllRow.holds Try.pinned (OpenSpec.ofChange Rows.opcodeAllSpec) :=
  OpenClaim.holds_of_wide 4 Try.f4 rfl rfl rfl rfl rfl rfl rfl ⟨rfl, rfl, rfl, rfl, rfl⟩ rfl rfl rfl rfl rfl (by kernel_rfl) Try.func4 (by kernel_rfl)
    (of_decide_eq_true (by kernel_rfl)) (by unfold Func.isWrapper; first | (rw [if_pos (by decide +kernel)]; kernel_rfl) | (rw [if_neg (by decide +kernel)]; exact ⟨rfl, rfl⟩))
    (fun os started H enc _ => opcodeAll_lifted os started H enc)

theorem opcodeAll_holds : Rows.OpcodeAllSaid := opcodeAll_over
#print axioms opcodeAll_holds
end Go.Proofs.Ytgenckilinmdoaa
