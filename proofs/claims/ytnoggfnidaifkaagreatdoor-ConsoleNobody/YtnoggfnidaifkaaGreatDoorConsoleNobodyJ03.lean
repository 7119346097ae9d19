/- Texts put together. -/
import Derived.Test.YtnoggfnidaifkaaGreatDoorRows
import Derived.Test.YtnoggfnidaifkaaGreatDoorConsoleNobodyJ01
import Derived.WalkKit
import Derived.ProofKit
import Derived.Deep.QuietTactic
import Derived.BigQuiet
import Derived.Test.YtnoggfnidaifkaaGreatDoorProg
import Derived.RegionTactic
import Derived.Below
import Derived.LaidEql
import Derived.Stop.Asserts
import Derived.RowKitTokens
import Derived.OneCell
import Derived.Handy
namespace Go.Proofs.YtnoggfnidaifkaaGreatDoor
set_option maxRecDepth 20000
open Go.RowKit
theorem byte_any (n : Int) (w : World) :
    Calls Tryz.prog 60 #[.int .i64 n] w fun e w' => e = .returned (.int .i64 (n % 256)) ∧ w' = w := by
  go_enter Tryz.func60, Tryz.ntmps60
  go_wp2
  go_ret
  exact ⟨ret_int (and_255 n), rfl⟩
theorem word_any (n : Int) (w : World) :
    Calls Tryz.prog 24 #[.int .i64 n] w fun e w' => e = .returned (.int .i64 (n % 65536)) ∧ w' = w := by
  go_enter Tryz.func24, Tryz.ntmps24
  go_wp2
  go_ret
  exact ⟨ret_int (and_65535 n), rfl⟩
theorem split_any (n : Int) (w : World) :
    Calls Tryz.prog 111 #[.int .i64 n] w fun e w' => e = .returned (.tuple #[.int .i64 (n % 256), .int .i64 (n / 256 % 256)]) ∧ w' = w := by
  go_enter Tryz.func111, Tryz.ntmps111
  go_wp2_with (go_at_call 60; refine (byte_any _ _).mono ?_; rintro e w' ⟨rfl, rfl⟩)
  go_ret2
  exact ⟨rfl, rfl⟩
theorem together_any (b off len cap : Nat) (zs : List Int) (w : World) (hz : zs.length = len) (hbig : len ≤ 1000) (hc : ∀ j, j < zs.length → w.cell? ⟨b, off + j, none⟩ = some (.int .i64 (zs[j]?.getD 0))) :
    Calls Tryz.prog 154 #[.slice (some ⟨b, off, none⟩) len cap] w fun e w' => e = .returned (.int .i64 (orAll zs)) ∧ w' = w := by
  go_enter Tryz.func154, Tryz.ntmps154
  go_wp2
  go_loop [3, 8] (fun t i => ∃ k : Nat, k ≤ len ∧ i = .int .i64 k ∧ t = .int .i64 (orAll (zs.take k))) (fun _ i => len - (intOf i).toNat)
  case atStart => exact ⟨0, Nat.zero_le _, rfl, rfl⟩
  case round =>
    obtain ⟨k, hk, rfl, rfl⟩ := hrel
    by_cases hlt : k < len
    · have hcell : w.cell? ⟨b, off + k, none⟩ = some (.int .i64 (zs[k]?.getD 0)) := hc k (by omega)
      have HS : Hid (orAll (zs.take (k + 1)) = bits .or .i64 (orAll (zs.take k)) (zs[k]?.getD 0)) := orAll_step zs k (by omega)
      clear hc
      generalize zs[k]?.getD 0 = z at *
      go_wp2
      go_round
      case rel => exact ⟨k + 1, by omega, by go_num, by rw [HS.out]⟩
      case measure => simp [intOf]; omega
    · go_wp2
      go_ret
      exact ⟨ret_int (by rw [List.take_of_length_le (by omega)]), rfl⟩
theorem join_any (a b : Int) (w : World) :
    Calls Tryz.prog 107 #[.int .i64 a, .int .i64 b] w fun e w' => e = .returned (.int .i64 (a % 256 + 256 * (b % 256))) ∧ Below w.heap.size w w' := by
  go_enter Tryz.func107, Tryz.ntmps107
  go_wp2_with (first
    | (go_at_call 60; refine (byte_any _ _).mono ?_; rintro e w' ⟨rfl, rfl⟩))
  refine (together_any _ 0 2 2 [a % 256, b % 256 * 256] _ rfl (by decide) ?_).mono ?_
  · exact alloc_row _ [a % 256, b % 256 * 256] _ _ rfl
  rintro e w1 ⟨rfl, rfl⟩
  go_wp2
  go_ret
  exact ⟨ret_int (orAll_join a b), (Below.refl _ _).alloc (Nat.le_refl _) _⟩
theorem signed_any (n : Int) (w : World) :
    Calls Tryz.prog 297 #[.int .i64 n] w fun e w' => e = .returned (.int .i64 (signOf n)) ∧ w' = w := by
  by_cases h : 128 ≤ n % 256
  all_goals
    go_enter Tryz.func297, Tryz.ntmps297
    go_wp2_with (first
      | (go_at_call 60; refine (byte_any _ _).mono ?_; rintro e w' ⟨rfl, rfl⟩))
    go_ret
    exact ⟨ret_int (by unfold signOf; split <;> omega), rfl⟩
theorem inWord_any (k : Int) (w : World) :
    Calls Tryz.prog 105 #[.int .i64 k] w fun e w' => e = .returned (.bool (inW k)) ∧ w' = w := by
  by_cases h0 : 0 ≤ k
  · by_cases h1 : k < 16
    · have HB := hide (inW_yes h0 h1)
      go_enter Tryz.func105, Tryz.ntmps105
      go_wp2
      go_ret
      exact ⟨ret_bool HB.out.symm, rfl⟩
    · have HB := hide (inW_no (k := k) (by omega))
      go_enter Tryz.func105, Tryz.ntmps105
      go_wp2
      go_ret
      exact ⟨ret_bool HB.out.symm, rfl⟩
  · have HB := hide (inW_no (k := k) (by omega))
    go_enter Tryz.func105, Tryz.ntmps105
    go_wp2
    go_ret
    exact ⟨ret_bool HB.out.symm, rfl⟩
theorem bit_any (n k : Int) (w : World) :
    Calls Tryz.prog 59 #[.int .i64 n, .int .i64 k] w fun e w' => e = .returned (.int .i64 (bitOf n k)) ∧ w' = w := by
  by_cases h : 0 ≤ k ∧ k < 16
  · have hb : bitOf n k = n % 65536 / 2 ^ k.toNat % 2 := by unfold bitOf; rw [if_pos h]
    have HB := hide hb
    clear hb
    obtain ⟨h0, h1⟩ := h
    have hd := inW_yes h0 h1
    go_enter Tryz.func59, Tryz.ntmps59
    go_wp2_with (first
      | (go_at_call 105; refine (inWord_any _ _).mono ?_; rintro e w' ⟨rfl, rfl⟩)
      | (go_at_call 24; refine (word_any _ _).mono ?_; rintro e w' ⟨rfl, rfl⟩))
    go_ret
    exact ⟨ret_int (by rw [HB.out]; exact and_1 _), rfl⟩
  · have hb : bitOf n k = 0 := by unfold bitOf; rw [if_neg h]
    have HB := hide hb
    clear hb
    have hd := inW_no h
    go_enter Tryz.func59, Tryz.ntmps59
    go_wp2_with (first
      | (go_at_call 105; refine (inWord_any _ _).mono ?_; rintro e w' ⟨rfl, rfl⟩)
      | (go_at_call 24; refine (word_any _ _).mono ?_; rintro e w' ⟨rfl, rfl⟩))
    go_ret
    exact ⟨ret_int (by rw [HB.out]), rfl⟩
theorem put_any (n k : Int) (on : Bool) (w : World) :
    Calls Tryz.prog 187 #[.int .i64 n, .int .i64 k, .bool on] w fun e w' => e = .returned (.int .i64 (putOf n k on)) ∧ Below w.heap.size w w' := by
  by_cases h : 0 ≤ k ∧ k < 16
  · obtain ⟨h0, h1⟩ := h
    have hd := inW_yes h0 h1
    have hp := pow_16 k h0 h1
    cases on
    · have HB := hide (putOf_not n k h0 h1)
      go_enter Tryz.func187, Tryz.ntmps187
      go_wp2_with (first
        | (go_at_call 105; refine (inWord_any _ _).mono ?_; rintro e w' ⟨rfl, rfl⟩))
      go_quiet ((go_at_call 24; exact Calls.quiet_of_same (word_any _ _)))
      go_wp2
      go_ret
      exact ⟨ret_int (by rw [HB.out]; exact others n k h0 h1), below_drew (Below.refl _ _) _⟩
    · have HB := hide (putOf_yes n k h0 h1)
      go_enter Tryz.func187, Tryz.ntmps187
      go_wp2_with (first
        | (go_at_call 105; refine (inWord_any _ _).mono ?_; rintro e w' ⟨rfl, rfl⟩))
      go_quiet ((go_at_call 24; exact Calls.quiet_of_same (word_any _ _)))
      go_wp2_with fail
      rw [others n k h0 h1]
      refine (together_any _ 0 2 2 [n % 65536 - bitOf n k * 2 ^ k.toNat, 2 ^ k.toNat] _ rfl (by decide) ?_).mono ?_
      · exact alloc_row _ [n % 65536 - bitOf n k * 2 ^ k.toNat, 2 ^ k.toNat] _ _ rfl
      rintro e w1 ⟨rfl, rfl⟩
      go_wp2
      go_ret
      exact ⟨ret_int (by rw [HB.out]; exact orAll_put n k h0 h1), (below_drew (Below.refl _ _) _).alloc (Nat.le_refl _) _⟩
  · have hd := inW_no h
    have HB := hide (putOf_out n k on h)
    go_enter Tryz.func187, Tryz.ntmps187
    go_wp2_with (first
      | (go_at_call 105; refine (inWord_any _ _).mono ?_; rintro e w' ⟨rfl, rfl⟩)
      | (go_at_call 24; refine (word_any _ _).mono ?_; rintro e w' ⟨rfl, rfl⟩))
    go_ret
    exact ⟨ret_int HB.out.symm, Below.refl _ _⟩
theorem mod_any (n m : Int) (w : World) (hm : 0 < m) (hm2 : m ≤ 65536) :
    Calls Tryz.prog 119 #[.int .i64 n, .int .i64 m] w fun e w' => e = .returned (.int .i64 (n % m)) ∧ w' = w := by
  have ht : n.tmod m = if 0 ≤ n ∨ n % m = 0 then n % m else n % m - m := by
    rw [Int.tmod_eq_emod]
    have hd : m ∣ n ↔ n % m = 0 := Int.dvd_iff_emod_eq_zero
    simp only [hd]
    split <;> omega
  have h1 := Int.emod_nonneg n (Int.ne_of_gt hm)
  have h2 := Int.emod_lt_of_pos n hm
  have HT := hide ht
  clear ht
  by_cases h : 0 ≤ n ∨ n % m = 0
  · have e : n.tmod m = n % m := by rw [HT.out, if_pos h]
    go_enter Tryz.func119, Tryz.ntmps119
    go_wp2
    go_ret
    exact ⟨rfl, rfl⟩
  · have e : n.tmod m = n % m - m := by rw [HT.out, if_neg h]
    go_enter Tryz.func119, Tryz.ntmps119
    go_wp2
    go_ret
    exact ⟨ret_int (by omega), rfl⟩
theorem rbyte_any (n : Int) (w : World) :
    Calls Tryz.prog 159 #[.int .i64 n] w fun e w' => e = .returned (.int .i64 (n % 256)) ∧ w' = w := by
  go_enter Tryz.func159, Tryz.ntmps159
  go_wp2_with (go_at_call 119; refine (mod_any _ _ _ (by decide) (by decide)).mono ?_; rintro e w' ⟨rfl, rfl⟩)
  go_ret
  exact ⟨rfl, rfl⟩
theorem rword_any (n : Int) (w : World) :
    Calls Tryz.prog 118 #[.int .i64 n] w fun e w' => e = .returned (.int .i64 (n % 65536)) ∧ w' = w := by
  go_enter Tryz.func118, Tryz.ntmps118
  go_wp2_with (go_at_call 119; refine (mod_any _ _ _ (by decide) (by decide)).mono ?_; rintro e w' ⟨rfl, rfl⟩)
  go_ret
  exact ⟨rfl, rfl⟩
theorem rjoin_any (a b : Int) (w : World) :
    Calls Tryz.prog 116 #[.int .i64 a, .int .i64 b] w fun e w' => e = .returned (.int .i64 (a % 256 + 256 * (b % 256))) ∧ w' = w := by
  go_enter Tryz.func116, Tryz.ntmps116
  go_wp2_with (go_at_call 159; refine (rbyte_any _ _).mono ?_; rintro e w' ⟨rfl, rfl⟩)
  go_ret
  exact ⟨rfl, rfl⟩
theorem power_any (k : Int) (w : World) (h0 : 0 ≤ k) (h1 : k < 16) :
    Calls Tryz.prog 160 #[.int .i64 k] w fun e w' => e = .returned (.int .i64 (2 ^ k.toNat)) ∧ w' = w := by
  obtain ⟨k, rfl⟩ := Int.eq_ofNat_of_zero_le h0
  simp only [Int.toNat_natCast]
  go_enter Tryz.func160, Tryz.ntmps160
  go_wp2
  go_loop [3, 4] (fun t i => ∃ j : Nat, j ≤ k ∧ i = .int .i64 j ∧ t = .int .i64 (2 ^ j)) (fun _ i => k - (intOf i).toNat)
  case atStart => exact ⟨0, Nat.zero_le _, rfl, rfl⟩
  case round =>
    obtain ⟨j, hj, rfl, rfl⟩ := hrel
    have hp := pow_16 (j : Int) (by omega) (by omega)
    simp only [Int.toNat_natCast] at hp
    by_cases hlt : j < k
    · have HS := hide (Int.pow_succ 2 j)
      generalize (2 : Int) ^ j = p at *
      go_wp2
      go_round
      case rel => exact ⟨j + 1, by omega, by go_num, by rw [HS.out]⟩
      case measure => simp [intOf]; omega
    · obtain rfl : j = k := by omega
      go_wp2
      go_ret
      exact ⟨rfl, rfl⟩
theorem rbit_any (n k : Int) (w : World) :
    Calls Tryz.prog 120 #[.int .i64 n, .int .i64 k] w fun e w' => e = .returned (.int .i64 (bitOf n k)) ∧ w' = w := by
  by_cases h : 0 ≤ k ∧ k < 16
  · obtain ⟨h0, h1⟩ := h
    have HB := hide (bitOf_in n k h0 h1)
    have hp := pow_16 k h0 h1
    go_enter Tryz.func120, Tryz.ntmps120
    go_wp2_with (first
      | (go_at_call 160; refine (power_any _ _ h0 h1).mono ?_; rintro e w' ⟨rfl, rfl⟩)
      | (go_at_call 118; refine (rword_any _ _).mono ?_; rintro e w' ⟨rfl, rfl⟩))
    go_ret
    exact ⟨ret_int (by rw [HB.out]; exact Int.tmod_eq_emod_of_nonneg (Int.ediv_nonneg (by omega) (by omega))), rfl⟩
  · have HB := hide (bitOf_out n k h)
    by_cases h0 : k < 0
    · go_enter Tryz.func120, Tryz.ntmps120
      go_wp2
      go_ret
      exact ⟨ret_int HB.out.symm, rfl⟩
    · have h1 : 15 < k := by omega
      clear h
      go_enter Tryz.func120, Tryz.ntmps120
      go_wp2
      go_ret
      exact ⟨ret_int HB.out.symm, rfl⟩
end Go.Proofs.YtnoggfnidaifkaaGreatDoor
namespace Go.Proofs.YtnoggfnidaifkaaGreatDoor.C3
set_option maxRecDepth 20000
open Go.RowKit
set_option linter.unusedVariables false
def tabCells : Array Value := #[.int .i64 1, .int .i64 0, .int .i64 2, .int .i64 0, .int .i64 4, .int .i64 0, .int .i64 8, .int .i64 0, .int .i64 16, .int .i64 0, .int .i64 32, .int .i64 0, .int .i64 64, .int .i64 0, .int .i64 128, .int .i64 0, .int .i64 48, .int .i64 1, .int .i64 96, .int .i64 1, .int .i64 320, .int .i64 2]
def HasTab (w : World) : Prop := ∃ t fr, w.heap[1]? = some (.cells tabCells t fr)
theorem HasTab.below {B : Nat} {w w' : World} (h : HasTab w) (b : Below B w w') (hB : 1 < B) : HasTab w' := by
  obtain ⟨t, fr, e⟩ := h
  exact ⟨t, fr, (b.block 1 hB).trans e⟩
theorem HasTab.pos {w : World} (h : HasTab w) : 1 < w.heap.size := by
  obtain ⟨t, fr, e⟩ := h
  exact lt_of_block e
theorem HasTab.next {w w' : World} (h : HasTab w) (b : Below w.heap.size w w') : HasTab w' := h.below b h.pos
def pageAt (j : Nat) : Int := [(1 : Int), 2, 4, 8, 16, 32, 64, 128, 48, 96, 320].getD j 0
def kindAt (j : Nat) : Int := [(0 : Int), 0, 0, 0, 0, 0, 0, 0, 1, 1, 2].getD j 0
theorem tab_index (j : Nat) (hj : j < 11) (w : World) : (Instr.index 230 (.agg tabCells) (.int .i64 (j : Int))).run Tryz.prog w = .ok (.agg #[.int .i64 (pageAt j), .int .i64 (kindAt j)]) w := by
  rcases j with _ | _ | _ | _ | _ | _ | _ | _ | _ | _ | _ | j
  · kernel_rfl
  · kernel_rfl
  · kernel_rfl
  · kernel_rfl
  · kernel_rfl
  · kernel_rfl
  · kernel_rfl
  · kernel_rfl
  · kernel_rfl
  · kernel_rfl
  · kernel_rfl
  · omega
theorem class_at (n : Int) (w : World) (cs : Array Value) (t : TypeId) (fr : Nat × Nat) (hT : w.heap[1]? = some (.cells cs t fr)) (hs : some 22 = some cs.size)
    (hx : ∀ (j : Nat), j < 11 → ∀ w : World, (Instr.index 230 (.agg cs) (.int .i64 (j : Int))).run Tryz.prog w = .ok (.agg #[.int .i64 (pageAt j), .int .i64 (kindAt j)]) w) :
    Calls Tryz.prog 72 #[.int .i64 n] w fun e w' => ((∃ j, j < 11 ∧ pageAt j = n ∧ e = .returned (.tuple #[.int .i64 (kindAt j), .bool true])) ∨ ((∀ i, i < 11 → pageAt i ≠ n) ∧ e = .returned (.tuple #[.int .i64 0, .bool false]))) ∧ Below w.heap.size w w' := by
  have hi : (Tryz.prog.info? 230).map (·.size) = some cs.size := Eq.trans (by kernel_rfl) hs
  have HX := hide hx
  have HT := hide hT
  have HI := hide hi
  clear hx hs hi hT
  go_enter Tryz.func72, Tryz.ntmps72
  go_wp2_with (first | (refine wpList_load_row rfl 230 (.global 1) rfl 1 rfl t cs fr _ HT.out Tryz.underlying230 rfl HI.out ?_))
  go_loopw [7] (fun si wr => ∃ j : Nat, j ≤ 11 ∧ si = .int .i64 (j : Int) ∧ (∀ i, i < j → pageAt i ≠ n) ∧ Below w.heap.size w wr) (fun si _ => 11 - (intOf si).toNat)
  case atStart => exact ⟨0, by omega, rfl, fun i hi => absurd hi (by omega), Below.refl _ _⟩
  case round =>
    obtain ⟨j, hj, rfl, hne, bel⟩ := hrel
    have HN := hide hne
    have BL := hide bel
    clear hne bel
    by_cases h : j < 11
    · have hx := HX.out j h
      obtain ⟨p, hp⟩ : ∃ p, p = pageAt j := ⟨_, rfl⟩
      obtain ⟨k, hk⟩ : ∃ k, k = kindAt j := ⟨_, rfl⟩
      rw [← hp, ← hk] at hx
      have HP := hide hp
      have HK := hide hk
      clear hp hk
      by_cases hpn : p = n
      · set_option maxRecDepth 20000 in
        go_wp2_with fail
        go_ret2
        refine ⟨.inl ⟨j, h, by rw [← HP.out]; exact hpn, ret_kb HK.out rfl⟩, BL.out.alloc BL.out.size _⟩
      · set_option maxRecDepth 20000 in
        go_wp2_with fail
        go_roundw
        case rel =>
          refine ⟨j + 1, by omega, by go_num, fun i hi => ?_, ?_⟩
          · by_cases hij : i = j
            · subst hij; rw [← HP.out]; exact hpn
            · exact HN.out i (by omega)
          · exact BL.out.alloc BL.out.size _
        case measure => simp [intOf]; omega
    · have hj : j = 11 := by omega
      subst hj
      go_wp2_with fail
      go_ret2
      exact ⟨.inr ⟨HN.out, rfl⟩, BL.out⟩
def kindOf (n : Int) : Int := if n = 48 ∨ n = 96 then 1 else if n = 320 then 2 else 0
def known (n : Int) : Bool := decide (n = 1 ∨ n = 2 ∨ n = 4 ∨ n = 8 ∨ n = 16 ∨ n = 32 ∨ n = 64 ∨ n = 128 ∨ n = 48 ∨ n = 96 ∨ n = 320)
theorem known_at (j : Nat) (hj : j < 11) : known (pageAt j) = true ∧ kindOf (pageAt j) = kindAt j := by
  revert j; decide
theorem known_none {n : Int} (h : ∀ i, i < 11 → pageAt i ≠ n) : known n = false ∧ kindOf n = 0 := by
  have h0 : (1 : Int) ≠ n := h 0 (by decide)
  have h1 : (2 : Int) ≠ n := h 1 (by decide)
  have h2 : (4 : Int) ≠ n := h 2 (by decide)
  have h3 : (8 : Int) ≠ n := h 3 (by decide)
  have h4 : (16 : Int) ≠ n := h 4 (by decide)
  have h5 : (32 : Int) ≠ n := h 5 (by decide)
  have h6 : (64 : Int) ≠ n := h 6 (by decide)
  have h7 : (128 : Int) ≠ n := h 7 (by decide)
  have h8 : (48 : Int) ≠ n := h 8 (by decide)
  have h9 : (96 : Int) ≠ n := h 9 (by decide)
  have hA : (320 : Int) ≠ n := h 10 (by decide)
  constructor
  · unfold known; rw [decide_eq_false_iff_not]; omega
  · unfold kindOf; rw [if_neg (by omega), if_neg (by omega)]
theorem class_any (n : Int) (w : World) (hT : HasTab w) :
    Calls Tryz.prog 72 #[.int .i64 n] w fun e w' => e = .returned (.tuple #[.int .i64 (kindOf n), .bool (known n)]) ∧ Below w.heap.size w w' := by
  obtain ⟨t, fr, hT⟩ := hT
  refine (class_at n w tabCells t fr hT rfl (fun j hj w => tab_index j hj w)).mono ?_
  rintro e w' ⟨⟨j, hj, rfl, rfl⟩ | ⟨h, rfl⟩, b⟩
  · rw [(known_at j hj).1, (known_at j hj).2]; exact ⟨rfl, b⟩
  · rw [(known_none h).1, (known_none h).2]; exact ⟨rfl, b⟩
theorem pages_nil (w : World) : Calls Tryz.prog 29 #[.pointer none] w fun e w' => e = .returned (.int .i64 0) ∧ w' = w := by
  go_enter Tryz.func29, Tryz.ntmps29
  go_wp2
  go_ret
  exact ⟨rfl, rfl⟩
theorem pages_of (a : Addr) (s : Option Addr) (len cap : Nat) (w : World) (hl : len < 4611686018427387904) (h : w.cell? a = some (.slice s len cap)) :
    Calls Tryz.prog 29 #[.pointer (some a)] w fun e w' => e = .returned (.int .i64 ((len / 8192 : Nat) : Int)) ∧ w' = w := by
  go_enter Tryz.func29, Tryz.ntmps29
  go_wp2
  go_ret
  exact ⟨rfl, rfl⟩
theorem byte_in (a : Addr) (b off len cap p q : Nat) (z : Int) (w : World) (hl : len < 4611686018427387904) (h : w.cell? a = some (.slice (some ⟨b, off, none⟩) len cap)) (hp : p < len / 8192) (hq : q < 8192)
    (hz : w.cell? ⟨b, off + (p * 8192 + q), none⟩ = some (.int .u8 z)) (z0 : 0 ≤ z) (z1 : z < 256) :
    Calls Tryz.prog 145 #[.pointer (some a), .int .i64 p, .int .i64 q] w fun e w' => e = .returned (.int .i64 z) ∧ w' = w := by
  have HP := hide (pages_of a (some ⟨b, off, none⟩) len cap w hl h)
  have hm : (p : Int) < ((len / 8192 : Nat) : Int) := by omega
  have h1 : (p : Int) * 8192 + q < len := by omega
  have h2 : ((p : Int) * 8192 + q).toNat = p * 8192 + q := by omega
  generalize ((len / 8192 : Nat) : Int) = m at *
  clear hp
  go_enter Tryz.func145, Tryz.ntmps145
  go_wp2_with (first | (go_at_call 29; refine HP.out.mono ?_; rintro e w' ⟨rfl, rfl⟩))
  go_ret
  exact ⟨rfl, rfl⟩
end Go.Proofs.YtnoggfnidaifkaaGreatDoor.C3
