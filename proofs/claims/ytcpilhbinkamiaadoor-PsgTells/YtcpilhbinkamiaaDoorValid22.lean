/- Package psg: what may be (Valid). -/
import Derived.Test.YtcpilhbinkamiaaDoorRows
import Derived.Test.YtcpilhbinkamiaaDoorPlain
import Derived.Test.YtcpilhbinkamiaaDoorRows22
namespace Go.Proofs.YtcpilhbinkamiaaDoor
open Go.RowKit
set_option linter.unusedVariables false

def allTo (g : Nat → Bool) : Nat → Bool
  | 0 => true
  | n + 1 => allTo g n && g n
theorem allTo_iff {g : Nat → Bool} : ∀ {n : Nat}, allTo g n = true ↔ ∀ i, i < n → g i = true
  | 0 => by simp [allTo]
  | n + 1 => by
    rw [allTo, Bool.and_eq_true, allTo_iff]
    constructor
    · rintro ⟨h1, h2⟩ i hi
      by_cases e : i = n
      · rw [e]; exact h2
      · exact h1 i (by omega)
    · intro h
      exact ⟨fun i hi => h i (by omega), h n (by omega)⟩
theorem allTo_no {g : Nat → Bool} {n i : Nat} (hi : i < n) (h : g i = false) : allTo g n = false := by
  rcases hb : allTo g n with _ | _
  · rfl
  · rw [allTo_iff.1 hb i hi] at h
    cases h
def inB (n l m : Int) : Bool := decide (l ≤ n) && decide (n ≤ m)
theorem inB_iff {n l m : Int} : inB n l m = true ↔ l ≤ n ∧ n ≤ m := by simp [inB]

theorem holds_any (n l m : Int) (w : World) : Calls Tryd.prog 26 #[.agg #[.int .i64 n, .int .i64 l, .int .i64 m]] w fun e w' => e = .returned (.bool (inB n l m)) ∧ Below w.heap.size w w' := by
  by_cases h0 : l ≤ n
  · by_cases h1 : n ≤ m
    · have HQ : Hid (inB n l m = true) := hide (by simp [inB, h0, h1])
      go_enter Tryd.func26, Tryd.ntmps26
      go_wp2
      go_ret
      exact ⟨ret_bool HQ.out.symm, (Below.refl _ _).alloc (Nat.le_refl _) _⟩
    · have HQ : Hid (inB n l m = false) := hide (by simp [inB, h1])
      go_enter Tryd.func26, Tryd.ntmps26
      go_wp2
      go_ret
      exact ⟨ret_bool HQ.out.symm, (Below.refl _ _).alloc (Nat.le_refl _) _⟩
  · have HQ : Hid (inB n l m = false) := hide (by simp [inB, h0])
    go_enter Tryd.func26, Tryd.ntmps26
    go_wp2
    go_ret
    exact ⟨ret_bool HQ.out.symm, (Below.refl _ _).alloc (Nat.le_refl _) _⟩
theorem isValue_any (n : Int) (w : World) : Calls Tryd.prog 44 #[.int .i64 n] w fun e w' => e = .returned (.bool (inB n 0 31)) ∧ w' = w := by
  by_cases h0 : 0 ≤ n
  · by_cases h1 : n ≤ 31
    · have HQ : Hid (inB n 0 31 = true) := hide (by simp [inB, h0, h1])
      go_enter Tryd.func44, Tryd.ntmps44
      go_wp2
      go_ret
      exact ⟨ret_bool HQ.out.symm, rfl⟩
    · have HQ : Hid (inB n 0 31 = false) := hide (by simp [inB, h1])
      go_enter Tryd.func44, Tryd.ntmps44
      go_wp2
      go_ret
      exact ⟨ret_bool HQ.out.symm, rfl⟩
  · have HQ : Hid (inB n 0 31 = false) := hide (by simp [inB, h0])
    go_enter Tryd.func44, Tryd.ntmps44
    go_wp2
    go_ret
    exact ⟨ret_bool HQ.out.symm, rfl⟩

theorem allInt_any (T : TypeId) (b N o n : Nat) (hn : n ≤ 32) (hN : o + n ≤ N) (z : Nat → Int) (w : World) (h : HasF T w b N (iv z)) :
    Calls Tryd.prog 43 #[.slice (some ⟨b, o, none⟩) n n, .func (.func 44) #[] #[]] w fun e w' => e = .returned (.bool (allTo (fun i => inB (z (o + i)) 0 31) n)) ∧ w' = w := by
  have HH := hide h
  have HN := hide hN
  clear h hN
  go_enter Tryd.func43, Tryd.ntmps43
  go_wp2
  go_loopw [9] (fun i w' => ∃ k : Nat, k ≤ n ∧ i = .int .i64 k ∧ (∀ j, j < k → inB (z (o + j)) 0 31 = true) ∧ w' = w) (fun i _ => n - (intOf i).toNat)
  case atStart => exact ⟨0, Nat.zero_le _, rfl, fun j hj => by omega, rfl⟩
  case round =>
    obtain ⟨k, hk, rfl, hall, hw⟩ := hrel
    subst hw
    have HA := hide hall
    clear hall
    by_cases hlt : k < n
    · have c0 := HH.out.int (o + k) (by have := HN.out; omega)
      rcases hb : inB (z (o + k)) 0 31 with _ | _
      · have HQ := hide (allTo_no (g := fun i => inB (z (o + i)) 0 31) hlt hb)
        go_wp2_with (go_at_call 44; refine (isValue_any _ _).mono ?_; rintro e w' ⟨rfl, hw⟩; subst w')
        go_ret
        exact ⟨ret_bool HQ.out.symm, rfl⟩
      · have HB := hide hb
        go_wp2_with (go_at_call 44; refine (isValue_any _ _).mono ?_; rintro e w' ⟨rfl, hw⟩; subst w')
        exact ⟨⟨k + 1, by omega, by go_num, fun j hj => by
          by_cases e : j = k
          · rw [e]; exact HB.out
          · exact HA.out j (by omega), trivial⟩, by simp [intOf]; omega⟩
    · have HQ : Hid (allTo (fun i => inB (z (o + i)) 0 31) n = true) := hide (allTo_iff.2 fun i hi => HA.out i (by omega))
      go_wp2
      go_ret
      exact ⟨ret_bool HQ.out.symm, rfl⟩

theorem allBound_any (T : TypeId) (b n : Nat) (hn : n ≤ 8) (z : Nat → Int) (w : World) (h : HasF T w b (n * 3) (iv z)) :
    Calls Tryd.prog 25 #[.slice (some ⟨b, 0, none⟩) n n, .func (.func 26) #[] #[]] w fun e w' => e = .returned (.bool (allTo (fun i => inB (z (i * 3)) (z (i * 3 + 1)) (z (i * 3 + 2))) n)) ∧ Below w.heap.size w w' := by
  have HH := hide h
  clear h
  go_enter Tryd.func25, Tryd.ntmps25
  go_wp2
  go_loopw [9] (fun i w' => ∃ k : Nat, k ≤ n ∧ i = .int .i64 k ∧ (∀ j, j < k → inB (z (j * 3)) (z (j * 3 + 1)) (z (j * 3 + 2)) = true) ∧ Below w.heap.size w w') (fun i _ => n - (intOf i).toNat)
  case atStart => exact ⟨0, Nat.zero_le _, rfl, fun j hj => by omega, Below.refl _ _⟩
  case round =>
    obtain ⟨k, hk, rfl, hall, hB⟩ := hrel
    have HA := hide hall
    have HB := hide hB
    clear hall hB
    by_cases hlt : k < n
    · have H2 := HH.out.next HB.out
      have c0 := H2.int (k * 3) (by omega)
      have c1 := H2.int (k * 3 + 1) (by omega)
      have c2 := H2.int (k * 3 + 2) (by omega)
      rcases hb : inB (z (k * 3)) (z (k * 3 + 1)) (z (k * 3 + 2)) with _ | _
      · have HQ := hide (allTo_no (g := fun i => inB (z (i * 3)) (z (i * 3 + 1)) (z (i * 3 + 2))) hlt hb)
        go_wp2_with (go_at_call 26; refine (holds_any _ _ _ _).mono ?_; rintro e w' ⟨rfl, b1⟩)
        go_ret
        exact ⟨ret_bool HQ.out.symm, bnext (HB.out.alloc HB.out.size _) b1⟩
      · have HC := hide hb
        go_wp2_with (go_at_call 26; refine (holds_any _ _ _ _).mono ?_; rintro e w' ⟨rfl, b1⟩)
        exact ⟨⟨k + 1, by omega, by go_num, fun j hj => by
          by_cases e : j = k
          · rw [e]; exact HC.out
          · exact HA.out j (by omega), bnext (HB.out.alloc HB.out.size _) b1⟩, by simp [intOf]; omega⟩
    · have HQ : Hid (allTo (fun i => inB (z (i * 3)) (z (i * 3 + 1)) (z (i * 3 + 2))) n = true) := hide (allTo_iff.2 fun i hi => HA.out i (by omega))
      go_wp2
      go_ret
      exact ⟨ret_bool HQ.out.symm, HB.out⟩

end Go.Proofs.YtcpilhbinkamiaaDoor
