/- Package noise: the contracts of oneStep and of a leap's 'squared'. -/
import Derived.Test.YtcpilhbinkamiaaDoorFrom21
import Derived.Test.YtcpilhbinkamiaaDoorNamed
import Derived.Test.YtcpilhbinkamiaaDoorNamed2
namespace Go.Proofs.YtcpilhbinkamiaaDoor
open Go.RowKit
set_option linter.unusedVariables false

def toF (f : Nat → Nat) (k : Nat) : Nat → Nat := fun j => if j < k then f j else 0
theorem toF_set (f : Nat → Nat) (k : Nat) : ∀ j, j < 18 → updL (toF f k) k (f k) j = toF f (k + 1) j := by
  intro j _
  unfold updL toF
  by_cases e : j = k
  · subst e; simp
  · rw [if_neg e]
    by_cases l : j < k
    · rw [if_pos l, if_pos (by omega)]
    · rw [if_neg l, if_neg (by omega)]
theorem toF_all (f : Nat → Nat) : ∀ j, j < 18 → toF f 18 j = f j := fun j hj => if_pos hj
theorem pow_18 {k : Nat} (h : k < 18) : 0 < 2 ^ k ∧ 2 ^ k < 262144 := by
  have e : (2 : Nat) ^ k < 2 ^ 18 := Nat.pow_lt_pow_right (by decide) h
  exact ⟨Nat.two_pow_pos k, e⟩

theorem oneStep_any (w : World) : Calls Tryd.prog 62 #[] w fun e w' => e = .returned (.agg (rowL fun i => stepN (2 ^ i))) ∧ Below w.heap.size w w' := by
  go_enter Tryd.func62, Tryd.ntmps62
  go_wp2_with (refine wpList_alloced rfl 93 rfl (rowL fun _ => 0) zero_L ?_)
  refine under_name fun wa hwa => ?_
  obtain ⟨n0, n1, nz, nb⟩ := two_named hwa
  have M0 : Hid (HasL wa w.heap.size (fun _ => 0)) := n0
  have M1 : Hid (HasL wa (w.heap.size + 1) (toF (fun i => stepN (2 ^ i)) 0)) := n1
  have MB := hide nb
  clear n0 n1 nz nb hwa
  go_loopw [3] (fun i w' => ∃ k : Nat, k ≤ 18 ∧ i = .int .i64 k ∧ HasL w' w.heap.size (fun _ => 0) ∧ HasL w' (w.heap.size + 1) (toF (fun i => stepN (2 ^ i)) k) ∧ Below w.heap.size w w') (fun i _ => 18 - (intOf i).toNat)
  case atStart => exact ⟨0, Nat.zero_le _, rfl, M0.out, M1.out, MB.out⟩
  case round =>
    obtain ⟨k, hk, rfl, h0, h1, hB⟩ := hrel
    have H0 := hide h0
    have H1 := hide h1
    have HB := hide hB
    clear h0 h1 hB
    by_cases hlt : k < 18
    · have c := H1.out.at k hlt
      have fr := H1.out.frozen k
      obtain ⟨p0, p1⟩ := pow_18 hlt
      have HS : Hid (stOf (wrap64 (2 ^ k)) = 2 ^ k) := hide (by
        rw [show wrap64 ((2 : Int) ^ k) = ((2 ^ k : Nat) : Int) by
          rw [show (2 : Int) ^ k = ((2 ^ k : Nat) : Int) from (Int.natCast_pow 2 k).symm]
          unfold wrap64
          omega]
        exact stOf_same p0 p1)
      go_wp2_with (go_at_call 66; refine (step_any _ _).mono ?_; rintro e w4 ⟨rfl, hw⟩; subst w4)
      rw [HS.out]
      exact ⟨⟨k + 1, by omega, by go_num, H0.out.other _ _ (by simp), (H1.out.set k _).ext (toF_set (fun i => stepN (2 ^ i)) k), HB.out.setCell (p := ⟨w.heap.size + 1, k, none⟩) (by simp) _⟩, by simp [intOf]; omega⟩
    · obtain rfl : k = 18 := by omega
      go_wp2_with (first
        | (refine wpList_load_row rfl 93 (.tmp 1) rfl (w.heap.size + 1) rfl _ _ _ _ H1.out Tryd.underlying93 rfl (info_L _) ?_)
        | (refine wpList_store_row rfl 93 (.tmp 0) (.tmp 12) rfl (w.heap.size ) _ rfl rfl 93 _ H0.out (info_L _) (by rw [rowL_size, rowL_size]) (rowL_one _) ?_)
        | (refine bodyPost_ret (results_cell_row rfl _ _ (w.heap.size ) 93 _ (0, 0) _ rfl (setRow_heap _ _ _ _ _ _ H0.out) Tryd.underlying93 rfl (info_L _)) rfl ⟨by rw [rowL_ext (toF_all _)], below_setRow HB.out (by omega) _⟩))

theorem squared_any (f : Nat → Nat) (hf : ∀ i, i < 18 → f i < 262144) (w : World) : Calls Tryd.prog 64 #[.agg (rowL f)] w fun e w' => e = .returned (.agg (rowL fun i => fromTo f (f i) 18)) ∧ Below w.heap.size w w' := by
  have N := hide (three_named (w := w) (o0 := .cells (rowL f) 93) (o1 := .cells (rowL fun _ => 0) 93) (o2 := .cells (rowL fun _ => 0) 93) rfl).1
  have HF := hide hf
  clear hf
  go_enter Tryd.func64, Tryd.ntmps64
  go_wp2_with (first
    | (refine wpList_alloced rfl 93 rfl (rowL fun _ => 0) zero_L ?_)
    | (refine wpList_load_row rfl 93 (.tmp 1) rfl w.heap.size rfl _ _ _ _ N.out Tryd.underlying93 rfl (info_L _) ?_))
  refine under_name fun wa hwa => ?_
  obtain ⟨n0, n1, n2, nz, nb⟩ := three_named hwa
  have M0 : Hid (HasL wa w.heap.size f) := n0
  have M1 : Hid (HasL wa (w.heap.size + 1) (fun _ => 0)) := n1
  have M2 : Hid (HasL wa (w.heap.size + 1 + 1) (toF (fun i => fromTo f (f i) 18) 0)) := n2
  have MB := hide nb
  clear n0 n1 n2 nz nb hwa N
  go_loopw [7] (fun i w' => ∃ k : Nat, k ≤ 18 ∧ i = .int .i64 k ∧ HasL w' w.heap.size f ∧ HasL w' (w.heap.size + 1) (fun _ => 0) ∧ HasL w' (w.heap.size + 1 + 1) (toF (fun i => fromTo f (f i) 18) k) ∧ Below w.heap.size w w') (fun i _ => 18 - (intOf i).toNat)
  case atStart => exact ⟨0, Nat.zero_le _, rfl, M0.out, M1.out, M2.out, MB.out⟩
  case round =>
    clear M0 M1 M2 MB
    obtain ⟨k, hk, rfl, h2, h0, h1, hB⟩ := hrel
    have H0 := hide h0
    have H1 := hide h1
    have H2 := hide h2
    have HB := hide hB
    clear h0 h1 h2 hB
    by_cases hlt : k < 18
    · have hi := fun w => leap_index f k hlt w
      have hF := HF.out k hlt
      go_wp2_with (first
        | (refine wpList_load_row rfl 93 (.tmp 1) rfl w.heap.size rfl _ _ _ _ H2.out Tryd.underlying93 rfl (info_L _) ?_)
        | (go_at_call 65; refine (from_any f HF.out (f k) hF _).mono ?_; rintro e w4 ⟨rfl, b4⟩
           have c := (H1.out.next b4).at k hlt
           have fr := (H1.out.next b4).frozen k))
      exact ⟨⟨k + 1, by omega, by go_num, (H2.out.next b4).other _ _ (by simp; omega), (H0.out.next b4).other _ _ (by simp), ((H1.out.next b4).set k _).ext (toF_set (fun i => fromTo f (f i) 18) k), (bnext HB.out b4).setCell (p := ⟨w.heap.size + 1 + 1, k, none⟩) (by simp; omega) _⟩, by simp [intOf]; omega⟩
    · obtain rfl : k = 18 := by omega
      go_wp2_with (first
        | (refine wpList_load_row rfl 93 (.tmp 3) rfl (w.heap.size + 1+1) rfl _ _ _ _ H1.out Tryd.underlying93 rfl (info_L _) ?_)
        | (refine wpList_store_row rfl 93 (.tmp 2) (.tmp 17) rfl (w.heap.size +1) _ rfl rfl 93 _ H0.out (info_L _) (by rw [rowL_size, rowL_size]) (rowL_one _) ?_)
        | (refine bodyPost_ret (results_cell_row rfl _ _ (w.heap.size +1) 93 _ (0, 0) _ rfl (setRow_heap _ _ _ _ _ _ H0.out) Tryd.underlying93 rfl (info_L _)) rfl ⟨by rw [rowL_ext (toF_all _)], below_setRow HB.out (by omega) _⟩))
end Go.Proofs.YtcpilhbinkamiaaDoor
