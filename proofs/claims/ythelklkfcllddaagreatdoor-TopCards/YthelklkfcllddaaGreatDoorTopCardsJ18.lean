/- Contracts of package banks: which page of a card stands at a page of the bus, and the latch behind a write. -/
import Derived.Test.YthelklkfcllddaaGreatDoorProg
import Derived.Test.YthelklkfcllddaaGreatDoorTopCardsJ01
import Derived.Test.YthelklkfcllddaaGreatDoorTopCardsJ02
import Derived.WalkMore
import Derived.WalkKit
import Derived.Below
import Derived.OneCell
import Derived.Handy
namespace Go.Proofs.YthelklkfcllddaaGreatDoor.B4
set_option maxRecDepth 20000
open C3
open Go.RowKit
set_option linter.unusedVariables false
def lowSize (k n : Int) : Int := if k = 1 then n / 3 * 2 else if k = 2 then 64 else n
def upFirst (k n l : Int) : Int := if k = 1 then n / 3 * 2 else if k = 2 then 64 + 64 * (l % 4) else 0
def upSize (k n : Int) : Int := if k = 1 then n / 3 else if k = 2 then 64 else n
def pageOf (n l p : Int) : Int :=
  if known n = true ∧ 0 ≤ p then
    if p < 64 then p % lowSize (kindOf n) n else if p < 128 then upFirst (kindOf n) n l + p % upSize (kindOf n) n else -1
  else -1
def latchOf (n l a : Int) : Int := if n = 320 ∧ 8176 ≤ a ∧ a < 8180 then a - 8176 else l
theorem known_le {n : Int} (h : known n = true) : 1 ≤ n ∧ n ≤ 320 := by
  unfold known at h; rw [decide_eq_true_eq] at h; omega
theorem kind_cases {n : Int} (h : known n = true) : (kindOf n = 0 ∧ n ≤ 128) ∨ (kindOf n = 1 ∧ (n = 48 ∨ n = 96)) ∨ (kindOf n = 2 ∧ n = 320) := by
  unfold known at h; rw [decide_eq_true_eq] at h; unfold kindOf
  rcases h with h | h | h | h | h | h | h | h | h | h | h <;> subst h <;> decide
theorem lower_any (k n : Int) (w : World) (n0 : 0 ≤ n) (n1 : n ≤ 320) : Calls Tryz.prog 26 #[.int .i64 k, .int .i64 n] w fun e w' => e = .returned (.agg #[.int .i64 64, .int .i64 0, .int .i64 (lowSize k n)]) ∧ Below w.heap.size w w' := by
  unfold lowSize
  by_cases h1 : k = 1
  · subst h1
    rw [if_pos rfl]
    go_enter Tryz.func26, Tryz.ntmps26
    go_wp2
    go_returns
    exact ⟨rfl, (Below.refl _ w).alloc (Nat.le_refl _) _⟩
  · rw [if_neg h1]
    by_cases h2 : k = 2
    · subst h2
      rw [if_pos rfl]
      go_enter Tryz.func26, Tryz.ntmps26
      go_wp2
      go_returns
      exact ⟨rfl, (Below.refl _ w).alloc (Nat.le_refl _) _⟩
    · rw [if_neg h2]
      go_enter Tryz.func26, Tryz.ntmps26
      go_wp2
      go_returns
      exact ⟨rfl, (Below.refl _ w).alloc (Nat.le_refl _) _⟩
theorem bank_any (l : Int) (w : World) : Calls Tryz.prog 51 #[.int .i64 l] w fun e w' => e = .returned (.int .i64 (l % 4)) ∧ w' = w := by
  go_enter Tryz.func51, Tryz.ntmps51
  go_wp2
  go_ret
  exact ⟨ret_int (and_3 l), rfl⟩
theorem upper_any (k n l : Int) (w : World) (n0 : 0 ≤ n) (n1 : n ≤ 320) : Calls Tryz.prog 27 #[.int .i64 k, .int .i64 n, .int .i64 l] w fun e w' => e = .returned (.agg #[.int .i64 128, .int .i64 (upFirst k n l), .int .i64 (upSize k n)]) ∧ Below w.heap.size w w' := by
  unfold upFirst upSize
  by_cases h1 : k = 1
  · subst h1
    rw [if_pos rfl, if_pos rfl]
    go_enter Tryz.func27, Tryz.ntmps27
    go_wp2
    go_returns
    exact ⟨rfl, (Below.refl _ w).alloc (Nat.le_refl _) _⟩
  · rw [if_neg h1, if_neg h1]
    by_cases h2 : k = 2
    · subst h2
      rw [if_pos rfl, if_pos rfl]
      have c := hide (bank_any l)
      go_enter Tryz.func27, Tryz.ntmps27
      go_wp2_with fail
      refine (c.out _).mono ?_
      rintro e w1 ⟨rfl, hw⟩
      subst w1
      go_wp2_with fail
      go_returns
      exact ⟨rfl, (Below.refl _ w).alloc (Nat.le_refl _) _⟩
    · rw [if_neg h2, if_neg h2]
      go_enter Tryz.func27, Tryz.ntmps27
      go_wp2
      go_returns
      exact ⟨rfl, (Below.refl _ w).alloc (Nat.le_refl _) _⟩
theorem latch_any (n l a : Int) (w : World) (hT : HasTab w) : Calls Tryz.prog 12 #[.int .i64 n, .int .i64 l, .int .i64 a] w fun e w' => e = .returned (.int .i64 (latchOf n l a)) ∧ Below w.heap.size w w' := by
  have c := hide (class_any n w hT)
  have kn : known n = true ∧ kindOf n = 2 ↔ n = 320 := by
    constructor
    · rintro ⟨h1, h2⟩
      have := kind_cases h1
      omega
    · rintro rfl; decide
  obtain ⟨q, hq⟩ : ∃ q, q = latchOf n l a := ⟨_, rfl⟩
  rw [← hq]
  unfold latchOf at hq
  generalize hk : known n = kw at *
  generalize hd : kindOf n = kd at *
  go_enter Tryz.func12, Tryz.ntmps12
  go_wp2_with fail
  refine c.out.mono ?_
  rintro e w1 ⟨rfl, b1⟩
  cases kw with
  | false =>
    rw [if_neg (by intro h; exact Bool.noConfusion (kn.2 h.1).1)] at hq
    go_wp2_with fail
    go_ret
    exact ⟨ret_int (by first | rfl | exact hq.symm), b1⟩
  | true =>
    by_cases h2 : kd = 2
    · have hn := kn.1 ⟨rfl, h2⟩
      by_cases h3 : 8176 ≤ a
      · by_cases h4 : a < 8180
        · rw [if_pos ⟨hn, h3, h4⟩] at hq
          go_wp2_with fail
          go_ret
          exact ⟨ret_int (by first | rfl | exact hq.symm), b1⟩
        · rw [if_neg (by omega)] at hq
          go_wp2_with fail
          go_ret
          exact ⟨ret_int (by first | rfl | exact hq.symm), b1⟩
      · rw [if_neg (by omega)] at hq
        go_wp2_with fail
        go_ret
        exact ⟨ret_int (by first | rfl | exact hq.symm), b1⟩
    · rw [if_neg (by intro h; exact h2 (kn.2 h.1).2)] at hq
      go_wp2_with fail
      go_ret
      exact ⟨ret_int (by first | rfl | exact hq.symm), b1⟩
def tellEnd (i : Nat) : Int := if i = 0 then 64 else if i = 1 then 128 else 0
def tellFirst (k n l : Int) (i : Nat) : Int := if i = 0 then 0 else if i = 1 then upFirst k n l else 0
def tellSize (k n : Int) (i : Nat) : Int := if i = 0 then lowSize k n else if i = 1 then upSize k n else 0
theorem tell_any (k n l : Int) (a b c : Nat) (i : Nat) (w : World) (n0 : 0 ≤ n) (n1 : n ≤ 320) (hi : i ≤ 2) (hk : Box 3 w a k) (hn : Box 3 w b n) (hl : Box 3 w c l) :
    Calls Tryz.prog 25 #[.int .i64 (i : Int), .pointer (some ⟨a, 0, none⟩), .pointer (some ⟨b, 0, none⟩), .pointer (some ⟨c, 0, none⟩)] w fun e w' =>
      e = .returned (.tuple #[.agg #[.int .i64 (tellEnd i), .int .i64 (tellFirst k n l i), .int .i64 (tellSize k n i)], .bool (decide (i < 2))]) ∧ Below w.heap.size w w' := by
  have kc := hk.cell
  have nc := hn.cell
  have lc := hl.cell
  have ka := hk.lt
  have na := hn.lt
  have la := hl.lt
  clear hk hn hl
  rcases i with _ | _ | _ | i
  · have C := hide (fun w => lower_any k n w n0 n1)
    go_enter Tryz.func25, Tryz.ntmps25
    go_wp2_with fail
    refine (C.out _).mono ?_
    rintro e w1 ⟨rfl, b1⟩
    have r0 := b1.block w.heap.size (by simp)
    rw [heap_alloc_new] at r0
    have B1 := hide (((Below.refl w.heap.size w).alloc (Nat.le_refl _) _).trans (b1.mono (by simp)))
    have R0 := hide r0
    clear r0 b1
    go_wp2_with (first | (refine wpList_store_row rfl 89 (.tmp 5) (.tmp 12) rfl w.heap.size _ rfl rfl 89 _ R0.out (by kernel_rfl) rfl (by kernel_rfl) ?_))
    (try simp only [Exit.inBlock, Exit.then])
    refine bodyPost_ret (results_agg_tmp rfl _ _ w.heap.size 89 _ (0, 0) _ rfl (setRow_heap _ _ _ _ _ _ R0.out) Tryz.underlying89 rfl (by kernel_rfl)) rfl ?_
    exact ⟨rfl, below_setRow B1.out (Nat.le_refl _) _⟩
  · have C := hide (fun w => upper_any k n l w n0 n1)
    go_enter Tryz.func25, Tryz.ntmps25
    go_wp2_with fail
    refine (C.out _).mono ?_
    rintro e w1 ⟨rfl, b1⟩
    have r0 := b1.block w.heap.size (by simp)
    rw [heap_alloc_new] at r0
    have B1 := hide (((Below.refl w.heap.size w).alloc (Nat.le_refl _) _).trans (b1.mono (by simp)))
    have R0 := hide r0
    clear r0 b1
    go_wp2_with (first | (refine wpList_store_row rfl 89 (.tmp 5) (.tmp 18) rfl w.heap.size _ rfl rfl 89 _ R0.out (by kernel_rfl) rfl (by kernel_rfl) ?_))
    (try simp only [Exit.inBlock, Exit.then])
    refine bodyPost_ret (results_agg_tmp rfl _ _ w.heap.size 89 _ (0, 0) _ rfl (setRow_heap _ _ _ _ _ _ R0.out) Tryz.underlying89 rfl (by kernel_rfl)) rfl ?_
    exact ⟨rfl, below_setRow B1.out (Nat.le_refl _) _⟩
  · go_enter Tryz.func25, Tryz.ntmps25
    go_wp2_with fail
    (try simp only [Exit.inBlock, Exit.then])
    refine bodyPost_ret (results_agg_tmp rfl _ _ w.heap.size 89 _ (0, 0) _ rfl (heap_alloc_new _ _) Tryz.underlying89 rfl (by kernel_rfl)) rfl ?_
    exact ⟨rfl, (Below.refl _ w).alloc (Nat.le_refl _) _⟩
  · omega
theorem page_any (n l p : Int) (w : World) (hT : HasTab w) : Calls Tryz.prog 9 #[.int .i64 n, .int .i64 l, .int .i64 p] w fun e w' => e = .returned (.int .i64 (pageOf n l p)) ∧ Below w.heap.size w w' := by
  obtain ⟨q, hq⟩ : ∃ q, q = pageOf n l p := ⟨_, rfl⟩
  rw [← hq]
  have HQ := hide hq
  have HT := hide hT
  clear hq hT
  go_enter Tryz.func9, Tryz.ntmps9
  go_wp2_with fail
  go_step3
  go_wp2_with fail
  have wi := w.alloc (.cells #[.int .i64 n] 3)
  obtain ⟨wa, hwa⟩ : ∃ wa, wa = (w.alloc (.cells #[.int .i64 n] 3)).alloc (.cells #[.int .i64 l] 3) := ⟨_, rfl⟩
  rw [← hwa]
  have ba : Below w.heap.size w wa := by rw [hwa]; exact ((Below.refl _ w).alloc (Nat.le_refl _) _).alloc (by simp) _
  have xn : Box 3 wa w.heap.size n := by rw [hwa]; exact heap_alloc2_old _ _ _
  have xl : Box 3 wa (w.heap.size + 1) l := by rw [hwa]; exact heap_alloc2_new _ _ _
  refine (class_any n wa (HT.out.next ba)).mono ?_
  rintro e w1 ⟨rfl, b1⟩
  have BA := hide (bnext ba b1)
  have XN := hide (xn.next b1)
  have XL := hide (xl.next b1)
  clear ba xn xl b1 hwa
  obtain ⟨kw, hkw⟩ : ∃ kw, kw = known n := ⟨_, rfl⟩
  obtain ⟨kd, hkd⟩ : ∃ kd, kd = kindOf n := ⟨_, rfl⟩
  rw [← hkw, ← hkd]
  have HKD := hide hkd
  clear hkd
  cases kw with
  | false =>
    have hq : q = -1 := by rw [HQ.out]; unfold pageOf; rw [← hkw]; simp
    have HQ2 := hide hq
    clear hq hkw
    go_wp2_with fail
    try rw [Exit.noGoto_ret]
    go_ret
    exact ⟨ret_int HQ2.out.symm, BA.out.alloc BA.out.size _⟩
  | true =>
    by_cases hp : p < 0
    · have hq : q = -1 := by rw [HQ.out]; unfold pageOf; rw [if_neg (by omega)]
      have HQ2 := hide hq
      clear hq hkw
      go_wp2_with fail
      try rw [Exit.noGoto_ret]
      go_ret
      exact ⟨ret_int HQ2.out.symm, BA.out.alloc BA.out.size _⟩
    · have hq : q = if p < 64 then p % lowSize kd n else if p < 128 then upFirst kd n l + p % upSize kd n else -1 := by
        rw [HQ.out]; unfold pageOf; rw [if_pos ⟨hkw.symm, by omega⟩, ← HKD.out]
      have hn := known_le hkw.symm
      have HQ2 := hide hq
      have HN := hide hn
      have HKC := hide (by have := kind_cases hkw.symm; rw [← HKD.out] at this; exact this : (kd = 0 ∧ n ≤ 128) ∨ (kd = 1 ∧ (n = 48 ∨ n = 96)) ∨ (kd = 2 ∧ n = 320))
      clear hq hkw
      go_wp2_with fail
      go_step3
      go_wp2_with fail
      obtain ⟨wb, hwb⟩ : ∃ wb, wb = w1.alloc (.cells #[.int .i64 kd] 3) := ⟨_, rfl⟩
      rw [← hwb]
      have xb : Box 3 wb w1.heap.size kd := by rw [hwb]; exact heap_alloc_new _ _
      have bb : Below w1.heap.size w1 wb := by rw [hwb]; exact (Below.refl _ w1).alloc (Nat.le_refl _) _
      have xn := XN.out.next bb
      have xl := XL.out.next bb
      have BB := hide (bnext BA.out bb)
      have le1 := BA.out.size
      clear bb hwb XN XL BA
      generalize w1.heap.size = g1 at *
      go_loopw [10] (fun si wr => ∃ j : Nat, j ≤ 2 ∧ si = .int .i64 (j : Int) ∧ (0 < j → 64 ≤ p) ∧ (1 < j → 128 ≤ p) ∧ Box 3 wr g1 kd ∧ Box 3 wr w.heap.size n ∧ Box 3 wr (w.heap.size + 1) l ∧ Below w.heap.size w wr) (fun si _ => 2 - (intOf si).toNat)
      case atStart => exact ⟨0, by omega, rfl, fun h => absurd h (by omega), fun h => absurd h (by omega), xb, xn, xl, BB.out⟩
      case round =>
        obtain ⟨j, hj, rfl, h0, h1, xb, xn, xl, bl⟩ := hrel
        have BL := hide bl
        have C := hide (tell_any kd n l _ _ _ j _ (by omega) (by omega) hj xb xn xl)
        have XB := hide xb
        have XN := hide xn
        have XL := hide xl
        clear xb xn xl bl
        go_wp2_with fail
        refine C.out.mono ?_
        rintro e w2 ⟨rfl, b2⟩
        have BL2 := hide (bnext BL.out b2)
        have XB2 := hide (XB.out.next b2)
        have XN2 := hide (XN.out.next b2)
        have XL2 := hide (XL.out.next b2)
        clear b2 XB XN XL BL C
        rcases j with _ | _ | _ | j
        · obtain ⟨sz, hsz⟩ : ∃ sz, sz = lowSize kd n := ⟨_, rfl⟩
          have es : tellSize kd n 0 = sz := hsz.symm
          have s0 : 0 < sz ∧ sz ≤ 320 := by rw [hsz]; unfold lowSize; have := HKC.out; split; omega; split <;> omega
          rw [es, show tellEnd 0 = 64 from rfl, show tellFirst kd n l 0 = 0 from rfl, show decide (0 < 2) = true from rfl]
          have m0 := Int.emod_nonneg p (show sz ≠ 0 by omega)
          have m1 := Int.emod_lt_of_pos p s0.1
          have et : Int.tmod p sz = p % sz := Int.tmod_eq_emod_of_nonneg (by omega)
          have HZ := hide hsz
          clear es hsz h0 h1
          by_cases hp2 : p < 64
          · go_wp2_with fail
            go_region
            all_goals (try go_wp2)
            try rw [Exit.noGoto_ret]
            go_ret
            exact ⟨ret_int (by rw [HQ2.out, if_pos hp2, HZ.out]), (BL2.out.alloc BL2.out.size _).drew⟩
          · go_wp2_with fail
            go_roundw
            case rel => exact ⟨0 + 1, by omega, by go_num, fun _ => by omega, fun _ => by omega, XB2.out.next ((Below.refl _ _).alloc (Nat.le_refl _) _), XN2.out.next ((Below.refl _ _).alloc (Nat.le_refl _) _), XL2.out.next ((Below.refl _ _).alloc (Nat.le_refl _) _), BL2.out.alloc BL2.out.size _⟩
            case measure => simp [intOf]
        · obtain ⟨sz, hsz⟩ : ∃ sz, sz = upSize kd n := ⟨_, rfl⟩
          obtain ⟨fs, hfs⟩ : ∃ fs, fs = upFirst kd n l := ⟨_, rfl⟩
          have es : tellSize kd n 1 = sz := hsz.symm
          have ef : tellFirst kd n l 1 = fs := hfs.symm
          have s0 : 0 < sz ∧ sz ≤ 320 := by rw [hsz]; unfold upSize; have := HKC.out; split; omega; split <;> omega
          have f0 : 0 ≤ fs ∧ fs ≤ 320 := by rw [hfs]; unfold upFirst; have := HKC.out; split; omega; split <;> omega
          rw [es, ef, show tellEnd 1 = 128 from rfl, show decide (1 < 2) = true from rfl]
          have m0 := Int.emod_nonneg p (show sz ≠ 0 by omega)
          have m1 := Int.emod_lt_of_pos p s0.1
          have et : Int.tmod p sz = p % sz := Int.tmod_eq_emod_of_nonneg (by omega)
          have HZ := hide hsz
          have HF := hide hfs
          have hp1 := h0 (by omega)
          clear es ef hsz hfs h0 h1
          by_cases hp2 : p < 128
          · go_wp2_with fail
            go_region
            all_goals (try go_wp2)
            try rw [Exit.noGoto_ret]
            go_ret
            exact ⟨ret_int (by rw [HQ2.out, if_neg (by omega), if_pos hp2, HZ.out, HF.out]), (BL2.out.alloc BL2.out.size _).drew⟩
          · go_wp2_with fail
            go_roundw
            case rel => exact ⟨1 + 1, by omega, by go_num, fun _ => by omega, fun _ => by omega, XB2.out.next ((Below.refl _ _).alloc (Nat.le_refl _) _), XN2.out.next ((Below.refl _ _).alloc (Nat.le_refl _) _), XL2.out.next ((Below.refl _ _).alloc (Nat.le_refl _) _), BL2.out.alloc BL2.out.size _⟩
            case measure => simp [intOf]
        · have hp1 := h1 (by omega)
          clear h0 h1
          rw [show decide (2 < 2) = false from rfl]
          go_wp2_with fail
          try rw [Exit.noGoto_ret]
          go_ret
          exact ⟨ret_int (by rw [HQ2.out, if_neg (by omega), if_neg (by omega)]), BL2.out.alloc BL2.out.size _⟩
        · omega
end Go.Proofs.YthelklkfcllddaaGreatDoor.B4
