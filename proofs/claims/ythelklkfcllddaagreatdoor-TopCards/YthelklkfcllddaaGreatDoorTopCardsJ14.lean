/- Texts without a word of the program, one behind the other. -/
import Derived.Test.YthelklkfcllddaaGreatDoorRows
import Derived.Test.YthelklkfcllddaaGreatDoorTopCardsJ09
namespace Go.Proofs.YthelklkfcllddaaGreatDoor.P22
set_option maxRecDepth 20000
open Go.RowKit
set_option linter.unusedVariables false
def allTo (g : Nat → Bool) : Nat → Bool
  | 0 => true
  | n + 1 => allTo g n && g n
theorem allTo_iff {g : Nat → Bool} : ∀ {n : Nat}, allTo g n = true ↔ ∀ i, i < n → g i = true
  | 0 => by simp [allTo]
  | n + 1 => by
    rw [allTo, Bool.and_eq_true, allTo_iff]
    constructor
    · rintro ⟨h1, h2⟩ i hi
      by_cases e : i = n
      · rw [e]; exact h2
      · exact h1 i (by omega)
    · intro h
      exact ⟨fun i hi => h i (by omega), h n (by omega)⟩
theorem allTo_no {g : Nat → Bool} {n i : Nat} (hi : i < n) (h : g i = false) : allTo g n = false := by
  rcases hb : allTo g n with _ | _
  · rfl
  · rw [allTo_iff.1 hb i hi] at h
    cases h
def inB (n l m : Int) : Bool := decide (l ≤ n) && decide (n ≤ m)
theorem holds_any (n l m : Int) (w : World) : Calls Tryz.prog 92 #[.agg #[.int .i64 n, .int .i64 l, .int .i64 m]] w fun e w' => e = .returned (.bool (inB n l m)) ∧ Below w.heap.size w w' := by
  by_cases h0 : l ≤ n
  · by_cases h1 : n ≤ m
    · have HQ : Hid (inB n l m = true) := hide (by simp [inB, h0, h1])
      go_enter Tryz.func92, Tryz.ntmps92
      go_wp2
      go_ret
      exact ⟨ret_bool HQ.out.symm, (Below.refl _ _).alloc (Nat.le_refl _) _⟩
    · have HQ : Hid (inB n l m = false) := hide (by simp [inB, h1])
      go_enter Tryz.func92, Tryz.ntmps92
      go_wp2
      go_ret
      exact ⟨ret_bool HQ.out.symm, (Below.refl _ _).alloc (Nat.le_refl _) _⟩
  · have HQ : Hid (inB n l m = false) := hide (by simp [inB, h0])
    go_enter Tryz.func92, Tryz.ntmps92
    go_wp2
    go_ret
    exact ⟨ret_bool HQ.out.symm, (Below.refl _ _).alloc (Nat.le_refl _) _⟩
theorem isValue_any (n : Int) (w : World) : Calls Tryz.prog 108 #[.int .i64 n] w fun e w' => e = .returned (.bool (inB n 0 31)) ∧ w' = w := by
  by_cases h0 : 0 ≤ n
  · by_cases h1 : n ≤ 31
    · have HQ : Hid (inB n 0 31 = true) := hide (by simp [inB, h0, h1])
      go_enter Tryz.func108, Tryz.ntmps108
      go_wp2
      go_ret
      exact ⟨ret_bool HQ.out.symm, rfl⟩
    · have HQ : Hid (inB n 0 31 = false) := hide (by simp [inB, h1])
      go_enter Tryz.func108, Tryz.ntmps108
      go_wp2
      go_ret
      exact ⟨ret_bool HQ.out.symm, rfl⟩
  · have HQ : Hid (inB n 0 31 = false) := hide (by simp [inB, h0])
    go_enter Tryz.func108, Tryz.ntmps108
    go_wp2
    go_ret
    exact ⟨ret_bool HQ.out.symm, rfl⟩
theorem allInt_any (T : TypeId) (b N o n : Nat) (hn : n ≤ 32) (hN : o + n ≤ N) (z : Nat → Int) (w : World) (h : HasF T w b N (iv z)) :
    Calls Tryz.prog 107 #[.slice (some ⟨b, o, none⟩) n n, .func (.func 108) #[] #[]] w fun e w' => e = .returned (.bool (allTo (fun i => inB (z (o + i)) 0 31) n)) ∧ w' = w := by
  have HH := hide h
  have HN := hide hN
  clear h hN
  go_enter Tryz.func107, Tryz.ntmps107
  go_wp2
  go_loopw [9] (fun i w' => ∃ k : Nat, k ≤ n ∧ i = .int .i64 k ∧ (∀ j, j < k → inB (z (o + j)) 0 31 = true) ∧ w' = w) (fun i _ => n - (intOf i).toNat)
  case atStart => exact ⟨0, Nat.zero_le _, rfl, fun j hj => by omega, rfl⟩
  case round =>
    obtain ⟨k, hk, rfl, hall, hw⟩ := hrel
    subst hw
    have HA := hide hall
    clear hall
    by_cases hlt : k < n
    · have c0 := HH.out.int (o + k) (by have := HN.out; omega)
      rcases hb : inB (z (o + k)) 0 31 with _ | _
      · have HQ := hide (allTo_no (g := fun i => inB (z (o + i)) 0 31) hlt hb)
        go_wp2_with (go_at_call 108; refine (isValue_any _ _).mono ?_; rintro e w' ⟨rfl, hw⟩; subst w')
        go_ret
        exact ⟨ret_bool HQ.out.symm, rfl⟩
      · have HB := hide hb
        go_wp2_with (go_at_call 108; refine (isValue_any _ _).mono ?_; rintro e w' ⟨rfl, hw⟩; subst w')
        exact ⟨⟨k + 1, by omega, by go_num, fun j hj => by
          by_cases e : j = k
          · rw [e]; exact HB.out
          · exact HA.out j (by omega), trivial⟩, by simp [intOf]; omega⟩
    · have HQ : Hid (allTo (fun i => inB (z (o + i)) 0 31) n = true) := hide (allTo_iff.2 fun i hi => HA.out i (by omega))
      go_wp2
      go_ret
      exact ⟨ret_bool HQ.out.symm, rfl⟩
theorem allBound_any (T : TypeId) (b n : Nat) (hn : n ≤ 8) (z : Nat → Int) (w : World) (h : HasF T w b (n * 3) (iv z)) :
    Calls Tryz.prog 91 #[.slice (some ⟨b, 0, none⟩) n n, .func (.func 92) #[] #[]] w fun e w' => e = .returned (.bool (allTo (fun i => inB (z (i * 3)) (z (i * 3 + 1)) (z (i * 3 + 2))) n)) ∧ Below w.heap.size w w' := by
  have HH := hide h
  clear h
  go_enter Tryz.func91, Tryz.ntmps91
  go_wp2
  go_loopw [9] (fun i w' => ∃ k : Nat, k ≤ n ∧ i = .int .i64 k ∧ (∀ j, j < k → inB (z (j * 3)) (z (j * 3 + 1)) (z (j * 3 + 2)) = true) ∧ Below w.heap.size w w') (fun i _ => n - (intOf i).toNat)
  case atStart => exact ⟨0, Nat.zero_le _, rfl, fun j hj => by omega, Below.refl _ _⟩
  case round =>
    obtain ⟨k, hk, rfl, hall, hB⟩ := hrel
    have HA := hide hall
    have HB := hide hB
    clear hall hB
    by_cases hlt : k < n
    · have H2 := HH.out.next HB.out
      have c0 := H2.int (k * 3) (by omega)
      have c1 := H2.int (k * 3 + 1) (by omega)
      have c2 := H2.int (k * 3 + 2) (by omega)
      rcases hb : inB (z (k * 3)) (z (k * 3 + 1)) (z (k * 3 + 2)) with _ | _
      · have HQ := hide (allTo_no (g := fun i => inB (z (i * 3)) (z (i * 3 + 1)) (z (i * 3 + 2))) hlt hb)
        go_wp2_with (go_at_call 92; refine (holds_any _ _ _ _).mono ?_; rintro e w' ⟨rfl, b1⟩)
        go_ret
        exact ⟨ret_bool HQ.out.symm, bnext (HB.out.alloc HB.out.size _) b1⟩
      · have HC := hide hb
        go_wp2_with (go_at_call 92; refine (holds_any _ _ _ _).mono ?_; rintro e w' ⟨rfl, b1⟩)
        exact ⟨⟨k + 1, by omega, by go_num, fun j hj => by
          by_cases e : j = k
          · rw [e]; exact HC.out
          · exact HA.out j (by omega), bnext (HB.out.alloc HB.out.size _) b1⟩, by simp [intOf]; omega⟩
    · have HQ : Hid (allTo (fun i => inB (z (i * 3)) (z (i * 3 + 1)) (z (i * 3 + 2))) n = true) := hide (allTo_iff.2 fun i hi => HA.out i (by omega))
      go_wp2
      go_ret
      exact ⟨ret_bool HQ.out.symm, HB.out⟩
end Go.Proofs.YthelklkfcllddaaGreatDoor.P22
namespace Go.Proofs.YthelklkfcllddaaGreatDoor.P22
set_option maxRecDepth 20000
open Go.RowKit
set_option linter.unusedVariables false
def cBounds (c : Nat → Int) : List Int := [c 0, 0, 4095, c 1, 0, 255, c 2, 0, 255, c 3, 0, 255, c 36, 0, 31, c 37, 0, 16777215, c 38, 1, 262143, c 39, 0, 31]
def chB (c : Nat → Int) : Bool := allTo (fun i => inB ((cBounds c).getD (i * 3) 0) ((cBounds c).getD (i * 3 + 1) 0) ((cBounds c).getD (i * 3 + 2) 0)) 8 && allTo (fun i => inB (c (4 + i)) 0 31) 32
theorem chB_is (c : Nat → Int) : chB c = (allTo (fun i => inB ((cBounds c).getD (i * 3) 0) ((cBounds c).getD (i * 3 + 1) 0) ((cBounds c).getD (i * 3 + 2) 0)) 8 && allTo (fun i => inB (c (4 + i)) 0 31) 32) := rfl
theorem info_C (c : Nat → Value) : (Tryz.prog.info? 49).map (·.size) = some (rowF c 40).size := by
  rw [rowF_size]
  kernel_rfl
theorem info_P (c : Nat → Value) : (Tryz.prog.info? 52).map (·.size) = some (rowF c 244).size := by
  rw [rowF_size]
  kernel_rfl
theorem bounds_row (L : List Int) (n : Nat) (h : L.length = n) : (L.map (Value.int .i64)).toArray = rowF (iv fun j => L.getD j 0) n := by
  subst h
  unfold rowF iv
  congr 1
  apply List.ext_getElem?
  intro j
  by_cases k : j < L.length
  · simp [k]
  · simp [k]
theorem built_8 (a0 b0 c0 a1 b1 c1 a2 b2 c2 a3 b3 c3 a4 b4 c4 a5 b5 c5 a6 b6 c6 a7 b7 c7 : Int) (w : World) : (Instr.build 182 #[(0, .agg #[.int .i64 a0, .int .i64 b0, .int .i64 c0]), (1, .agg #[.int .i64 a1, .int .i64 b1, .int .i64 c1]), (2, .agg #[.int .i64 a2, .int .i64 b2, .int .i64 c2]), (3, .agg #[.int .i64 a3, .int .i64 b3, .int .i64 c3]), (4, .agg #[.int .i64 a4, .int .i64 b4, .int .i64 c4]), (5, .agg #[.int .i64 a5, .int .i64 b5, .int .i64 c5]), (6, .agg #[.int .i64 a6, .int .i64 b6, .int .i64 c6]), (7, .agg #[.int .i64 a7, .int .i64 b7, .int .i64 c7])]).run Tryz.prog w = .ok (.agg ([a0, b0, c0, a1, b1, c1, a2, b2, c2, a3, b3, c3, a4, b4, c4, a5, b5, c5, a6, b6, c6, a7, b7, c7].map (Value.int .i64)).toArray) w := run_build w _ _ _ (by kernel_rfl)
theorem zero_8 (w : World) : (zeroValue 182).run Tryz.prog w = .ok (.agg (rowF (iv fun _ => 0) 24)) w := by kernel_rfl
theorem info_8 (L : List Int) (h : L.length = 24) : (Tryz.prog.info? 182).map (·.size) = some (L.map (Value.int .i64)).toArray.size := by
  rw [List.size_toArray, List.length_map, h]
  kernel_rfl
theorem ints_one (L : List Int) : (L.map (Value.int .i64)).toArray.all (·.oneCell') = true := by
  rw [← Array.all_toList]
  simp [Value.oneCell']
set_option maxHeartbeats 1600000 in
theorem right_any (c : Nat → Int) (w : World) : Calls Tryz.prog 94 #[.agg (rowF (iv c) 40)] w fun e w' => e = .returned (.bool (chB c)) ∧ Below w.heap.size w w' := by
  rw [chB_is]
  obtain ⟨q, hq⟩ : ∃ q, allTo (fun i => inB ((cBounds c).getD (i * 3) 0) ((cBounds c).getD (i * 3 + 1) 0) ((cBounds c).getD (i * 3 + 2) 0)) 8 = q := ⟨_, rfl⟩
  obtain ⟨r, hr⟩ : ∃ r, allTo (fun i => inB (c (4 + i)) 0 31) 32 = r := ⟨_, rfl⟩
  rw [hq, hr]
  have e0 := rowF_at (iv c) 40 0 (by decide)
  have e1 := rowF_at (iv c) 40 1 (by decide)
  have e2 := rowF_at (iv c) 40 2 (by decide)
  have e3 := rowF_at (iv c) 40 3 (by decide)
  have e36 := rowF_at (iv c) 40 36 (by decide)
  have e37 := rowF_at (iv c) 40 37 (by decide)
  have e38 := rowF_at (iv c) 40 38 (by decide)
  have e39 := rowF_at (iv c) 40 39 (by decide)
  cases q
  ·
    have K1 : Hid (∀ (u : World) (g : Nat), HasF 182 u g 24 (iv fun j => (cBounds c).getD j 0) → Calls Tryz.prog 91 #[.slice (some ⟨g, 0, none⟩) 8 8, .func (.func 92) #[] #[]] u fun e w' => e = .returned (.bool false) ∧ Below u.heap.size u w') := hide (fun u g h => (allBound_any _ g 8 (by decide) _ u h).mono fun e w' ⟨he, hb⟩ => ⟨by rw [he, hq], hb⟩)
    have K2 : Hid (∀ (u : World) (g : Nat), HasF 49 u g 40 (iv c) → Calls Tryz.prog 107 #[.slice (some ⟨g, 4, none⟩) 32 32, .func (.func 108) #[] #[]] u fun e w' => e = .returned (.bool r) ∧ w' = u) := hide (fun u g h => (allInt_any _ g 40 4 32 (by decide) (by decide) _ u h).mono fun e w' ⟨he, hb⟩ => ⟨by rw [he, hr], hb⟩)
    clear hq hr
    have HS := hide (hasF_new 49 w 40 (iv c))
    generalize rowF (iv c) 40 = R at *
    simp only [iv] at e0 e1 e2 e3 e36 e37 e38 e39
    go_enter Tryz.func94, Tryz.ntmps94
    go_wp2_with (first
      | (refine wpList_built rfl 182 _ rfl #[(0, .agg #[.int .i64 (c 0), .int .i64 0, .int .i64 4095]), (1, .agg #[.int .i64 (c 1), .int .i64 0, .int .i64 255]), (2, .agg #[.int .i64 (c 2), .int .i64 0, .int .i64 255]), (3, .agg #[.int .i64 (c 3), .int .i64 0, .int .i64 255]), (4, .agg #[.int .i64 (c 36), .int .i64 0, .int .i64 31]), (5, .agg #[.int .i64 (c 37), .int .i64 0, .int .i64 16777215]), (6, .agg #[.int .i64 (c 38), .int .i64 1, .int .i64 262143]), (7, .agg #[.int .i64 (c 39), .int .i64 0, .int .i64 31])] (by simp [Act.eval]) ((cBounds c).map (Value.int .i64)).toArray (built_8 _ _ _ _ _ _ _ _ _ _ _ _ _ _ _ _ _ _ _ _ _ _ _ _) ?_)
      | (refine wpList_alloced rfl 182 rfl (rowF (iv fun _ => 0) 24) zero_8 ?_)
      | (refine wpList_store_row rfl 182 (.tmp 3) (.tmp 28) rfl (w.heap.size + 1) _ (by simp [Act.eval, Act.put]) rfl 182 _ (hasF_new2 _ _ _ _ _) (info_8 _ rfl) (by rw [rowF_size]; rfl) (ints_one _) ?_
         refine under_list fun w2 hw2 => ?_
         have M1 : Hid (HasF 182 w2 (w.heap.size + 1) 24 (iv fun j => (cBounds c).getD j 0)) := hide (by rw [hw2, HasF, ← bounds_row (cBounds c) 24 rfl]; exact setRow_heap _ _ _ _ _ _ (hasF_new2 _ _ _ _ _))
         have M2 : Hid (HasF 49 w2 w.heap.size 40 (iv c)) := hide (by rw [hw2]; exact (HS.out.next ((Below.refl _ _).alloc (Nat.le_refl _) _)).row _ (by omega))
         have MB : Hid (Below w.heap.size w w2) := hide (by rw [hw2]; exact below_setRow (((Below.refl _ _).alloc (Nat.le_refl _) _).alloc (by simp) _) (by simp) _)
         clear hw2 HS)
      | (go_at_call 91; refine (K1.out _ _ M1.out).mono ?_; rintro e w3 ⟨rfl, b3⟩; replace M2 := hide (M2.out.next b3); replace MB := hide (bnext MB.out b3); clear b3 M1)
      | (go_at_call 107; refine (K2.out _ _ M2.out).mono ?_; rintro e w4 ⟨rfl, hw⟩; subst w4))
    go_ret
    exact ⟨rfl, MB.out⟩
  ·
    have K1 : Hid (∀ (u : World) (g : Nat), HasF 182 u g 24 (iv fun j => (cBounds c).getD j 0) → Calls Tryz.prog 91 #[.slice (some ⟨g, 0, none⟩) 8 8, .func (.func 92) #[] #[]] u fun e w' => e = .returned (.bool true) ∧ Below u.heap.size u w') := hide (fun u g h => (allBound_any _ g 8 (by decide) _ u h).mono fun e w' ⟨he, hb⟩ => ⟨by rw [he, hq], hb⟩)
    have K2 : Hid (∀ (u : World) (g : Nat), HasF 49 u g 40 (iv c) → Calls Tryz.prog 107 #[.slice (some ⟨g, 4, none⟩) 32 32, .func (.func 108) #[] #[]] u fun e w' => e = .returned (.bool r) ∧ w' = u) := hide (fun u g h => (allInt_any _ g 40 4 32 (by decide) (by decide) _ u h).mono fun e w' ⟨he, hb⟩ => ⟨by rw [he, hr], hb⟩)
    clear hq hr
    have HS := hide (hasF_new 49 w 40 (iv c))
    generalize rowF (iv c) 40 = R at *
    simp only [iv] at e0 e1 e2 e3 e36 e37 e38 e39
    go_enter Tryz.func94, Tryz.ntmps94
    go_wp2_with (first
      | (refine wpList_built rfl 182 _ rfl #[(0, .agg #[.int .i64 (c 0), .int .i64 0, .int .i64 4095]), (1, .agg #[.int .i64 (c 1), .int .i64 0, .int .i64 255]), (2, .agg #[.int .i64 (c 2), .int .i64 0, .int .i64 255]), (3, .agg #[.int .i64 (c 3), .int .i64 0, .int .i64 255]), (4, .agg #[.int .i64 (c 36), .int .i64 0, .int .i64 31]), (5, .agg #[.int .i64 (c 37), .int .i64 0, .int .i64 16777215]), (6, .agg #[.int .i64 (c 38), .int .i64 1, .int .i64 262143]), (7, .agg #[.int .i64 (c 39), .int .i64 0, .int .i64 31])] (by simp [Act.eval]) ((cBounds c).map (Value.int .i64)).toArray (built_8 _ _ _ _ _ _ _ _ _ _ _ _ _ _ _ _ _ _ _ _ _ _ _ _) ?_)
      | (refine wpList_alloced rfl 182 rfl (rowF (iv fun _ => 0) 24) zero_8 ?_)
      | (refine wpList_store_row rfl 182 (.tmp 3) (.tmp 28) rfl (w.heap.size + 1) _ (by simp [Act.eval, Act.put]) rfl 182 _ (hasF_new2 _ _ _ _ _) (info_8 _ rfl) (by rw [rowF_size]; rfl) (ints_one _) ?_
         refine under_list fun w2 hw2 => ?_
         have M1 : Hid (HasF 182 w2 (w.heap.size + 1) 24 (iv fun j => (cBounds c).getD j 0)) := hide (by rw [hw2, HasF, ← bounds_row (cBounds c) 24 rfl]; exact setRow_heap _ _ _ _ _ _ (hasF_new2 _ _ _ _ _))
         have M2 : Hid (HasF 49 w2 w.heap.size 40 (iv c)) := hide (by rw [hw2]; exact (HS.out.next ((Below.refl _ _).alloc (Nat.le_refl _) _)).row _ (by omega))
         have MB : Hid (Below w.heap.size w w2) := hide (by rw [hw2]; exact below_setRow (((Below.refl _ _).alloc (Nat.le_refl _) _).alloc (by simp) _) (by simp) _)
         clear hw2 HS)
      | (go_at_call 91; refine (K1.out _ _ M1.out).mono ?_; rintro e w3 ⟨rfl, b3⟩; replace M2 := hide (M2.out.next b3); replace MB := hide (bnext MB.out b3); clear b3 M1)
      | (go_at_call 107; refine (K2.out _ _ M2.out).mono ?_; rintro e w4 ⟨rfl, hw⟩; subst w4))
    go_ret
    exact ⟨ret_bool (Bool.true_and _).symm, MB.out⟩
end Go.Proofs.YthelklkfcllddaaGreatDoor.P22
namespace Go.Proofs.YthelklkfcllddaaGreatDoor.P22
set_option maxRecDepth 20000
open Go.RowKit
set_option linter.unusedVariables false
def ch (f : Nat → Int) (k j : Nat) : Int := f (4 + k * 40 + j)
theorem zero_C (w : World) : (zeroValue 49).run Tryz.prog w = .ok (.agg (rowF (iv fun _ => 0) 40)) w := by kernel_rfl
theorem info_40 : (Tryz.prog.info? 49).map (·.size) = some 40 := by kernel_rfl
set_option maxHeartbeats 1600000 in
theorem allChan_any (b : Nat) (f : Nat → Int) (w : World) (h : HasF 52 w b 244 (iv f)) :
    Calls Tryz.prog 93 #[.slice (some ⟨b, 4, none⟩) 6 6, .func (.func 94) #[] #[]] w fun e w' => e = .returned (.bool (allTo (fun k => chB (ch f k)) 6)) ∧ Below w.heap.size w w' := by
  have HH := hide h
  clear h
  go_enter Tryz.func93, Tryz.ntmps93
  go_wp2
  go_loopw [9] (fun i w' => ∃ k : Nat, k ≤ 6 ∧ i = .int .i64 k ∧ (∀ j, j < k → chB (ch f j) = true) ∧ Below w.heap.size w w') (fun i _ => 6 - (intOf i).toNat)
  case atStart => exact ⟨0, Nat.zero_le _, rfl, fun j hj => by omega, Below.refl _ _⟩
  case round =>
    obtain ⟨k, hk, rfl, hall, hB⟩ := hrel
    have HA := hide hall
    have HB := hide hB
    clear hall hB
    by_cases hlt : k < 6
    · have H2 := hide (HH.out.next HB.out)
      have K1 := hide (fun u => right_any (ch f k) u)
      rcases hb : chB (ch f k) with _ | _
      · have HQ := hide (allTo_no (g := fun k => chB (ch f k)) hlt hb)
        rw [hb] at K1
        clear hb
        go_wp2_with (first | (refine wpList_load_ints rfl 49 (.tmp 11) rfl b (4 + k * 40) rfl H2.out 40 (by omega) _ Tryz.underlying49 rfl info_40 ?_) | (refine wpList_alloced rfl 49 rfl (rowF (iv fun _ => 0) 40) zero_C ?_) | (refine wpList_store_row rfl 49 (.tmp 6) (.tmp 12) rfl wr.heap.size (rowF (iv (ch f k)) 40) (by simp [Act.eval, Act.put]) rfl 49 _ (hasF_new _ _ _ _) (info_C _) (by rw [rowF_size, rowF_size]) (rowF_one _ _) ?_; refine under_list fun w2 hw2 => ?_; have M1 : Hid (HasF 49 w2 wr.heap.size 40 (iv (ch f k))) := hide (by rw [hw2]; exact setRow_heap _ _ _ _ _ _ (hasF_new _ _ _ _)); have MB : Hid (Below w.heap.size w w2) := hide (by rw [hw2]; exact below_setRow (HB.out.alloc HB.out.size _) HB.out.size _); clear hw2) | (refine wpList_load_row rfl 49 (.tmp 6) rfl wr.heap.size rfl _ _ _ _ M1.out Tryz.underlying49 rfl (info_C _) ?_) | (go_at_call 94; refine (K1.out _).mono ?_; rintro e w3 ⟨rfl, b3⟩; replace MB := hide (bnext MB.out b3); clear b3))
        go_ret
        exact ⟨ret_bool HQ.out.symm, MB.out⟩
      · have HC := hide hb
        rw [hb] at K1
        clear hb
        go_wp2_with (first | (refine wpList_load_ints rfl 49 (.tmp 11) rfl b (4 + k * 40) rfl H2.out 40 (by omega) _ Tryz.underlying49 rfl info_40 ?_) | (refine wpList_alloced rfl 49 rfl (rowF (iv fun _ => 0) 40) zero_C ?_) | (refine wpList_store_row rfl 49 (.tmp 6) (.tmp 12) rfl wr.heap.size (rowF (iv (ch f k)) 40) (by simp [Act.eval, Act.put]) rfl 49 _ (hasF_new _ _ _ _) (info_C _) (by rw [rowF_size, rowF_size]) (rowF_one _ _) ?_; refine under_list fun w2 hw2 => ?_; have M1 : Hid (HasF 49 w2 wr.heap.size 40 (iv (ch f k))) := hide (by rw [hw2]; exact setRow_heap _ _ _ _ _ _ (hasF_new _ _ _ _)); have MB : Hid (Below w.heap.size w w2) := hide (by rw [hw2]; exact below_setRow (HB.out.alloc HB.out.size _) HB.out.size _); clear hw2) | (refine wpList_load_row rfl 49 (.tmp 6) rfl wr.heap.size rfl _ _ _ _ M1.out Tryz.underlying49 rfl (info_C _) ?_) | (go_at_call 94; refine (K1.out _).mono ?_; rintro e w3 ⟨rfl, b3⟩; replace MB := hide (bnext MB.out b3); clear b3))
        exact ⟨⟨k + 1, by omega, by go_num, fun j hj => by
          by_cases e : j = k
          · rw [e]; exact HC.out
          · exact HA.out j (by omega), MB.out⟩, by simp [intOf]; omega⟩
    · have HQ : Hid (allTo (fun k => chB (ch f k)) 6 = true) := hide (allTo_iff.2 fun i hi => HA.out i (by omega))
      go_wp2
      go_ret
      exact ⟨ret_bool HQ.out.symm, HB.out⟩
end Go.Proofs.YthelklkfcllddaaGreatDoor.P22
namespace Go.Proofs.YthelklkfcllddaaGreatDoor.P22
set_option maxRecDepth 20000
open Go.RowKit
set_option linter.unusedVariables false
end Go.Proofs.YthelklkfcllddaaGreatDoor.P22
namespace Go.Proofs.YthelklkfcllddaaGreatDoor.P22
set_option maxRecDepth 20000
open Go.RowKit
set_option linter.unusedVariables false
def freshTo (n : Nat) : Nat → Int := fun i => if 4 ≤ i ∧ (i - 4) / 40 < n ∧ (i - 4) % 40 = 38 then 1 else 0
def freshF : Nat → Int := freshTo 6
theorem fresh_next (k : Nat) : up (freshTo k) (4 + k * 40 + 38) 1 = freshTo (k + 1) := by
  funext i
  unfold up freshTo
  by_cases h : i = 4 + k * 40 + 38
  · rw [if_pos h, if_pos (by omega)]
  · rw [if_neg h]
    by_cases h2 : 4 ≤ i ∧ (i - 4) / 40 < k ∧ (i - 4) % 40 = 38
    · rw [if_pos h2, if_pos (by omega)]
    · rw [if_neg h2, if_neg (by omega)]
theorem fresh_0 : freshTo 0 = fun _ => 0 := by
  funext i
  unfold freshTo
  rw [if_neg (by omega)]
theorem zero_P (w : World) : (zeroValue 52).run Tryz.prog w = .ok (.agg (rowF (iv fun _ => 0) 244)) w := by kernel_rfl
set_option maxHeartbeats 1600000 in
theorem fresh_any (w : World) : Calls Tryz.prog 19 #[] w fun e w' => e = Ending.returned (.agg (rowF (iv freshF) 244)) ∧ Below w.heap.size w w' := by
  go_enter Tryz.func19, Tryz.ntmps19
  go_wp2_with (first
    | (refine wpList_alloced rfl 52 rfl (rowF (iv fun _ => 0) 244) zero_P ?_))
  refine under_name fun wa hwa => ?_
  obtain ⟨n0, n1, n2, n3⟩ := two_named hwa
  have R0 : Hid (HasF 52 wa w.heap.size 244 (iv fun _ => 0)) := hide n0
  have H0 : Hid (HasF 52 wa (w.heap.size + 1) 244 (iv (freshTo 0))) := hide (by rw [fresh_0]; exact n1)
  have B0 := hide n3
  clear n0 n1 n2 n3 hwa
  generalize hs : w.heap.size = s0 at *
  go_loopw [3] (fun i w' => ∃ k : Nat, k ≤ 6 ∧ i = .int .i64 k ∧ HasF 52 w' (s0 + 1) 244 (iv (freshTo k)) ∧ HasF 52 w' s0 244 (iv fun _ => 0) ∧ Below s0 w w') (fun i _ => 6 - (intOf i).toNat)
  case atStart => exact ⟨0, by decide, rfl, H0.out, R0.out, B0.out⟩
  case round =>
    clear H0 R0 B0
    obtain ⟨k, hk, rfl, h1, r1, b1⟩ := hrel
    have H1 := hide h1
    have R1 := hide r1
    have B1 := hide b1
    by_cases hlt : k < 6
    · have c := h1.int (4 + k * 40 + 38) (by omega)
      have z := h1.frozen (4 + k * 40 + 38)
      clear h1 r1 b1
      go_wp2_with fail
      exact ⟨⟨k + 1, by omega, by go_num, by rw [← fresh_next]; exact H1.out.up _ _, R1.out.other _ _ (by simp), Below.setCell (p := ⟨s0 + 1, 4 + k * 40 + 38, none⟩) B1.out (Nat.le_succ _) _⟩, by simp [intOf]; omega⟩
    · obtain rfl : k = 6 := by omega
      clear h1 r1 b1
      obtain ⟨F, hF⟩ : ∃ F, F = freshTo 6 := ⟨_, rfl⟩
      rw [← hF] at H1
      replace hF := hide hF
      go_wp2_with (first
        | (refine wpList_load_row rfl 52 (.tmp 1) rfl (s0 + 1) rfl _ _ _ _ H1.out Tryz.underlying52 rfl (info_P _) ?_)
        | (refine wpList_store_row rfl 52 (.tmp 0) (.tmp 11) rfl s0 _ rfl rfl 52 _ R1.out (info_P _) (by rw [rowF_size, rowF_size]) (rowF_one _ _) ?_))
      refine bodyPost_ret (results_cell_row rfl _ _ s0 52 _ (0, 0) _ rfl (setRow_heap _ _ _ _ _ _ R1.out) Tryz.underlying52 rfl (info_P _)) rfl ?_
      exact ⟨by rw [hF.out]; rfl, by rw [hs]; exact below_setRow B1.out (Nat.le_refl _) _⟩
end Go.Proofs.YthelklkfcllddaaGreatDoor.P22
namespace Go.Proofs.YthelklkfcllddaaGreatDoor.P22
set_option maxRecDepth 20000
open Go.RowKit
set_option linter.unusedVariables false
end Go.Proofs.YthelklkfcllddaaGreatDoor.P22
namespace Go.Proofs.YthelklkfcllddaaGreatDoor.P22
set_option maxRecDepth 20000
open Go.RowKit
set_option linter.unusedVariables false
end Go.Proofs.YthelklkfcllddaaGreatDoor.P22
namespace Go.Proofs.YthelklkfcllddaaGreatDoor.P22
set_option maxRecDepth 20000
open Go.RowKit
set_option linter.unusedVariables false
end Go.Proofs.YthelklkfcllddaaGreatDoor.P22
