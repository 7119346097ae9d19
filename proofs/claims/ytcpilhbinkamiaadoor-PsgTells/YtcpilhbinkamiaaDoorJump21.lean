/- Package noise: the contract of Jump. -/
import Derived.Test.YtcpilhbinkamiaaDoorLeap21
import Derived.Test.YtcpilhbinkamiaaDoorLen21

namespace Go.Proofs.YtcpilhbinkamiaaDoor
open Go.RowKit
set_option linter.unusedVariables false

/-- What each bit becomes behind m steps. -/
def colN (m : Nat) : Nat → Nat := fun i => jumpN (2 ^ i) m
theorem colN_lt (m : Nat) : ∀ i, i < 18 → colN m i < 262144 := fun i hi => jumpN_lt (pow_18 hi).2 m
theorem colN_twice (m : Nat) : ∀ i, i < 18 → fromTo (colN m) (colN m i) 18 = colN (m + m) i := fun i hi => by
  rw [from_all (f := colN m) m (fun _ _ => rfl) (colN_lt m i hi)]
  unfold colN
  rw [jumpN_add]
theorem pow_twice {k : Nat} (h : 0 < k) : 2 ^ (k - 1) + 2 ^ (k - 1) = 2 ^ k := by
  obtain ⟨j, rfl⟩ : ∃ j, k = j + 1 := ⟨k - 1, by omega⟩
  rw [Nat.add_sub_cancel, Nat.pow_succ]
  omega
theorem jump_yes {s n k : Nat} (h : n / 2 ^ k % 2 = 1) : jumpN (jumpN s (n % 2 ^ k)) (2 ^ k) = jumpN s (n % 2 ^ (k + 1)) := by
  rw [Nat.mod_pow_succ, h, Nat.mul_one, jumpN_add]
theorem jump_not {s n k : Nat} (h : ¬ n / 2 ^ k % 2 = 1) : jumpN s (n % 2 ^ k) = jumpN s (n % 2 ^ (k + 1)) := by
  rw [Nat.mod_pow_succ, show n / 2 ^ k % 2 = 0 by omega, Nat.mul_zero, Nat.add_zero]

theorem jump_none (s n : Int) (h : n < 1) (w : World) : Calls Tryd.prog 51 #[.int .i64 s, .int .i64 n] w fun e w' => e = .returned (.int .i64 ((jumpN (stOf s) n.toNat : Nat) : Int)) ∧ Below w.heap.size w w' := by
  have HN : Hid (n.toNat = 0) := hide (by omega)
  go_enter Tryd.func51, Tryd.ntmps51
  go_wp2_with (go_at_call 61; refine (stateOf_any _ _).mono ?_; rintro e w' ⟨rfl, hw⟩; subst w')
  go_ret
  exact ⟨ret_int (by rw [HN.out]; rfl), Below.refl _ _⟩

theorem jump_some (s : Int) (n : Nat) (h0 : 1 ≤ n) (h1 : n < 9223372036854775808) (w : World) : Calls Tryd.prog 51 #[.int .i64 s, .int .i64 (n : Int)] w fun e w' => e = .returned (.int .i64 ((jumpN (stOf s) n : Nat) : Int)) ∧ Below w.heap.size w w' := by
  have K := fun w => stateOf_any s w
  obtain ⟨x0, x1⟩ := stOf_in s
  obtain ⟨x, hx⟩ : ∃ x, x = stOf s := ⟨_, rfl⟩
  rw [← hx] at K x0 x1 ⊢
  have KS := hide K
  clear hx K
  go_enter Tryd.func51, Tryd.ntmps51
  go_wp2_with (go_at_call 61; refine (KS.out _).mono ?_; rintro e w' ⟨rfl, hw⟩; subst w')
  go_wp2_with (first
    | (go_at_call 62; refine (oneStep_any _).mono ?_; rintro e w1 ⟨rfl, b1⟩)
    | (refine wpList_alloced rfl 93 rfl (rowL fun _ => 0) zero_L ?_)
    | (refine wpList_store_row rfl 93 (.tmp 5) (.tmp 12) rfl w1.heap.size _ rfl rfl 93 _ (hasL_new w1 _) (info_L _) (by rw [rowL_size, rowL_size]) (rowL_one _) ?_
       refine under_list fun w2 hw2 => ?_
       have M1 : Hid (HasL w2 w1.heap.size (colN 1)) := hide (by rw [hw2]; exact setRow_heap _ _ _ _ _ _ (hasL_new w1 _))
       have MB : Hid (Below w.heap.size w w2) := hide (by rw [hw2]; exact below_setRow (b1.alloc b1.size _) b1.size _)
       have MG := hide b1.size
       clear hw2 b1)
    | (go_at_call 63; refine (len_any _ _ (by omega) (by omega)).mono ?_; rintro e w' ⟨rfl, hw⟩; subst w'))
  have L1 := bitLen_63 h1
  have LN := hide (bitLen_lt (x := n) (by omega))
  generalize Lib.bitLen n = L at *
  generalize w1.heap.size = g at *
  go_loopw [0, 16] (fun t i w' => ∃ k : Nat, k ≤ L ∧ i = .int .i64 k ∧ t = .int .i64 ((jumpN x (n % 2 ^ k) : Nat) : Int) ∧ HasL w' g (colN (2 ^ (k - 1))) ∧ Below w.heap.size w w') (fun _ i _ => L - (intOf i).toNat)
  case atStart => exact ⟨0, Nat.zero_le _, rfl, by rw [Nat.pow_zero, Nat.mod_one]; rfl, M1.out, MB.out⟩
  case round =>
    clear M1 MB
    obtain ⟨k, hk, rfl, rfl, h2, hB⟩ := hrel
    have H2 := hide h2
    have HB := hide hB
    clear h2 hB
    by_cases hlt : k < L
    · have jl := jumpN_lt x1 (n % 2 ^ k)
      have JY := hide (fun h => jump_yes (s := x) (n := n) (k := k) h)
      have JN := hide (fun h => jump_not (s := x) (n := n) (k := k) h)
      generalize jumpN x (n % 2 ^ k) = t at *
      have hsh := shr_bit n k
      have HF := hide (fun (f : Nat → Nat) (e : ∀ i, i < 18 → f i = colN (2 ^ k) i) => from_all (f := f) (2 ^ k) e jl)
      by_cases hz : k = 0
      · subst hz
        have hsh : bits .and .i64 (n : Int) 1 = ((n / 2 ^ 0 % 2 : Nat) : Int) := by
          rw [and_1, Nat.pow_zero, Nat.div_one]
          omega
        have H1 : Hid (HasL wr g (colN 1)) := H2
        by_cases hb : n / 2 ^ 0 % 2 = 1
        · rw [hb] at hsh
          have HQ := hide (JY.out hb)
          go_wp2_with (first
            | (refine wpList_load_row rfl 93 (.tmp 5) rfl g rfl _ _ _ _ H1.out Tryd.underlying93 rfl (info_L _) ?_)
            | (go_at_call 65; refine (from_any _ (colN_lt _) t jl _).mono ?_; rintro e w4 ⟨rfl, b4⟩))
          exact ⟨⟨1, by omega, rfl, by rw [HF.out _ (fun _ _ => rfl), HQ.out], H1.out.next b4, bnext HB.out b4⟩, by simp [intOf]; omega⟩
        · rw [show n / 2 ^ 0 % 2 = 0 by omega] at hsh
          have HQ := hide (JN.out hb)
          go_wp2_with fail
          exact ⟨⟨1, by omega, rfl, by rw [HQ.out], H1.out, HB.out⟩, by simp [intOf]; omega⟩
      · have TW := hide (fun i (hi : i < 18) => (colN_twice (2 ^ (k - 1)) i hi).trans (by rw [pow_twice (by omega)]))
        have HC := hide (colN_lt (2 ^ (k - 1)))
        obtain ⟨f, hf⟩ : ∃ f, f = colN (2 ^ (k - 1)) := ⟨_, rfl⟩
        rw [← hf] at TW HC H2
        clear hf
        have HE := hide (show k + 1 - 1 = k by omega)
        by_cases hb : n / 2 ^ k % 2 = 1
        · rw [hb] at hsh
          have HQ := hide (JY.out hb)
          go_wp2_with (first
            | (refine wpList_load_row rfl 93 (.tmp 5) rfl g rfl _ _ _ _ H2.out Tryd.underlying93 rfl (info_L _) ?_)
            | (go_at_call 64; refine (squared_any f HC.out _).mono ?_; rintro e w4 ⟨rfl, b4⟩; have H4 := hide (H2.out.next b4); replace HB := hide (bnext HB.out b4); clear b4 H2)
            | (refine wpList_store_row rfl 93 (.tmp 5) (.tmp 22) rfl g _ rfl rfl 93 _ H4.out (info_L _) (by rw [rowL_size, rowL_size]) (rowL_one _) ?_; refine under_list fun w5 hw5 => ?_; have H5 : Hid (HasL w5 g (colN (2 ^ k))) := hide (by rw [hw5]; exact HasL.ext (setRow_heap _ _ _ _ _ _ H4.out) TW.out); replace HB : Hid (Below w.heap.size w w5) := hide (by rw [hw5]; exact below_setRow HB.out MG.out _); clear hw5 H4)
            | (refine wpList_load_row rfl 93 (.tmp 5) rfl g rfl _ _ _ _ H5.out Tryd.underlying93 rfl (info_L _) ?_)
            | (go_at_call 65; refine (from_any _ (colN_lt _) t jl _).mono ?_; rintro e w6 ⟨rfl, b6⟩))
          exact ⟨⟨k + 1, by omega, by go_num, by rw [HF.out _ (fun _ _ => rfl), HQ.out], by rw [HE.out]; exact H5.out.next b6, bnext HB.out b6⟩, by simp [intOf]; omega⟩
        · rw [show n / 2 ^ k % 2 = 0 by omega] at hsh
          have HQ := hide (JN.out hb)
          go_wp2_with (first
            | (refine wpList_load_row rfl 93 (.tmp 5) rfl g rfl _ _ _ _ H2.out Tryd.underlying93 rfl (info_L _) ?_)
            | (go_at_call 64; refine (squared_any f HC.out _).mono ?_; rintro e w4 ⟨rfl, b4⟩; have H4 := hide (H2.out.next b4); replace HB := hide (bnext HB.out b4); clear b4 H2)
            | (refine wpList_store_row rfl 93 (.tmp 5) (.tmp 22) rfl g _ rfl rfl 93 _ H4.out (info_L _) (by rw [rowL_size, rowL_size]) (rowL_one _) ?_; refine under_list fun w5 hw5 => ?_; have H5 : Hid (HasL w5 g (colN (2 ^ k))) := hide (by rw [hw5]; exact HasL.ext (setRow_heap _ _ _ _ _ _ H4.out) TW.out); replace HB : Hid (Below w.heap.size w w5) := hide (by rw [hw5]; exact below_setRow HB.out MG.out _); clear hw5 H4))
          exact ⟨⟨k + 1, by omega, by go_num, by rw [HQ.out], by rw [HE.out]; exact H5.out, HB.out⟩, by simp [intOf]; omega⟩
    · obtain rfl : k = L := by omega
      go_wp2
      go_ret
      exact ⟨ret_int (by rw [Nat.mod_eq_of_lt LN.out]), HB.out⟩

theorem jump_any (s n : Int) (h : n < 9223372036854775808) (w : World) : Calls Tryd.prog 51 #[.int .i64 s, .int .i64 n] w fun e w' => e = .returned (.int .i64 ((jumpN (stOf s) n.toNat : Nat) : Int)) ∧ Below w.heap.size w w' := by
  by_cases h1 : n < 1
  · exact jump_none s n h1 w
  · obtain ⟨m, rfl⟩ := Int.eq_ofNat_of_zero_le (show 0 ≤ n by omega)
    exact jump_some s m (by omega) (by omega) w
end Go.Proofs.YtcpilhbinkamiaaDoor
