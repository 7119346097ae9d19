/- Package psg: a channel that may be. -/
import Derived.Test.YtcpilhbinkamiaaDoorValid22
namespace Go.Proofs.YtcpilhbinkamiaaDoor
open Go.RowKit
set_option linter.unusedVariables false

/-! ### A channel -/
def okC (c : Nat → Int) : Prop := (0 ≤ c 0 ∧ c 0 ≤ 4095) ∧ (0 ≤ c 1 ∧ c 1 ≤ 255) ∧ (0 ≤ c 2 ∧ c 2 ≤ 255) ∧ (0 ≤ c 3 ∧ c 3 ≤ 255) ∧ (0 ≤ c 36 ∧ c 36 ≤ 31) ∧ (0 ≤ c 37 ∧ c 37 ≤ 16777215) ∧ (1 ≤ c 38 ∧ c 38 ≤ 262143) ∧ (0 ≤ c 39 ∧ c 39 ≤ 31) ∧ ∀ i, i < 32 → 0 ≤ c (4 + i) ∧ c (4 + i) ≤ 31
/-- The bounds of a channel's numbers, as they are told. -/
def cBounds (c : Nat → Int) : List Int := [c 0, 0, 4095, c 1, 0, 255, c 2, 0, 255, c 3, 0, 255, c 36, 0, 31, c 37, 0, 16777215, c 38, 1, 262143, c 39, 0, 31]
def chB (c : Nat → Int) : Bool := allTo (fun i => inB ((cBounds c).getD (i * 3) 0) ((cBounds c).getD (i * 3 + 1) 0) ((cBounds c).getD (i * 3 + 2) 0)) 8 && allTo (fun i => inB (c (4 + i)) 0 31) 32
theorem chB_is (c : Nat → Int) : chB c = (allTo (fun i => inB ((cBounds c).getD (i * 3) 0) ((cBounds c).getD (i * 3 + 1) 0) ((cBounds c).getD (i * 3 + 2) 0)) 8 && allTo (fun i => inB (c (4 + i)) 0 31) 32) := rfl
theorem chB_iff (c : Nat → Int) : okC c ↔ chB c = true := by
  rw [chB, Bool.and_eq_true, allTo_iff (n := 32)]
  simp only [inB_iff]
  simp only [allTo, cBounds, Bool.and_eq_true, Bool.true_and, inB_iff]
  unfold okC
  constructor
  · rintro ⟨h0, h1, h2, h3, h4, h5, h6, h7, h8⟩
    exact ⟨⟨⟨⟨⟨⟨⟨⟨h0, h1⟩, h2⟩, h3⟩, h4⟩, h5⟩, h6⟩, h7⟩, h8⟩
  · rintro ⟨⟨⟨⟨⟨⟨⟨⟨h0, h1⟩, h2⟩, h3⟩, h4⟩, h5⟩, h6⟩, h7⟩, h8⟩
    exact ⟨h0, h1, h2, h3, h4, h5, h6, h7, h8⟩
theorem info_C (c : Nat → Value) : (Tryd.prog.info? 24).map (·.size) = some (rowF c 40).size := by
  rw [rowF_size]
  kernel_rfl
theorem info_P (c : Nat → Value) : (Tryd.prog.info? 27).map (·.size) = some (rowF c 244).size := by
  rw [rowF_size]
  kernel_rfl
theorem bounds_row (L : List Int) (n : Nat) (h : L.length = n) : (L.map (Value.int .i64)).toArray = rowF (iv fun j => L.getD j 0) n := by
  subst h
  unfold rowF iv
  congr 1
  apply List.ext_getElem?
  intro j
  by_cases k : j < L.length
  · simp [k]
  · simp [k]
theorem built_8 (a0 b0 c0 a1 b1 c1 a2 b2 c2 a3 b3 c3 a4 b4 c4 a5 b5 c5 a6 b6 c6 a7 b7 c7 : Int) (w : World) : (Instr.build 82 #[(0, .agg #[.int .i64 a0, .int .i64 b0, .int .i64 c0]), (1, .agg #[.int .i64 a1, .int .i64 b1, .int .i64 c1]), (2, .agg #[.int .i64 a2, .int .i64 b2, .int .i64 c2]), (3, .agg #[.int .i64 a3, .int .i64 b3, .int .i64 c3]), (4, .agg #[.int .i64 a4, .int .i64 b4, .int .i64 c4]), (5, .agg #[.int .i64 a5, .int .i64 b5, .int .i64 c5]), (6, .agg #[.int .i64 a6, .int .i64 b6, .int .i64 c6]), (7, .agg #[.int .i64 a7, .int .i64 b7, .int .i64 c7])]).run Tryd.prog w = .ok (.agg ([a0, b0, c0, a1, b1, c1, a2, b2, c2, a3, b3, c3, a4, b4, c4, a5, b5, c5, a6, b6, c6, a7, b7, c7].map (Value.int .i64)).toArray) w := run_build w _ _ _ (by kernel_rfl)
theorem zero_8 (w : World) : (zeroValue 82).run Tryd.prog w = .ok (.agg (rowF (iv fun _ => 0) 24)) w := by kernel_rfl
theorem info_8 (L : List Int) (h : L.length = 24) : (Tryd.prog.info? 82).map (·.size) = some (L.map (Value.int .i64)).toArray.size := by
  rw [List.size_toArray, List.length_map, h]
  kernel_rfl
theorem built_4 (a0 b0 c0 a1 b1 c1 a2 b2 c2 a3 b3 c3 : Int) (w : World) : (Instr.build 65 #[(0, .agg #[.int .i64 a0, .int .i64 b0, .int .i64 c0]), (1, .agg #[.int .i64 a1, .int .i64 b1, .int .i64 c1]), (2, .agg #[.int .i64 a2, .int .i64 b2, .int .i64 c2]), (3, .agg #[.int .i64 a3, .int .i64 b3, .int .i64 c3])]).run Tryd.prog w = .ok (.agg ([a0, b0, c0, a1, b1, c1, a2, b2, c2, a3, b3, c3].map (Value.int .i64)).toArray) w := run_build w _ _ _ (by kernel_rfl)
theorem zero_4 (w : World) : (zeroValue 65).run Tryd.prog w = .ok (.agg (rowF (iv fun _ => 0) 12)) w := by kernel_rfl
theorem info_4 (L : List Int) (h : L.length = 12) : (Tryd.prog.info? 65).map (·.size) = some (L.map (Value.int .i64)).toArray.size := by
  rw [List.size_toArray, List.length_map, h]
  kernel_rfl
theorem ints_one (L : List Int) : (L.map (Value.int .i64)).toArray.all (·.oneCell') = true := by
  rw [← Array.all_toList]
  simp [Value.oneCell']
set_option maxHeartbeats 1600000 in
theorem right_any (c : Nat → Int) (w : World) : Calls Tryd.prog 28 #[.agg (rowF (iv c) 40)] w fun e w' => e = .returned (.bool (chB c)) ∧ Below w.heap.size w w' := by
  rw [chB_is]
  obtain ⟨q, hq⟩ : ∃ q, allTo (fun i => inB ((cBounds c).getD (i * 3) 0) ((cBounds c).getD (i * 3 + 1) 0) ((cBounds c).getD (i * 3 + 2) 0)) 8 = q := ⟨_, rfl⟩
  obtain ⟨r, hr⟩ : ∃ r, allTo (fun i => inB (c (4 + i)) 0 31) 32 = r := ⟨_, rfl⟩
  rw [hq, hr]
  have e0 := rowF_at (iv c) 40 0 (by decide)
  have e1 := rowF_at (iv c) 40 1 (by decide)
  have e2 := rowF_at (iv c) 40 2 (by decide)
  have e3 := rowF_at (iv c) 40 3 (by decide)
  have e36 := rowF_at (iv c) 40 36 (by decide)
  have e37 := rowF_at (iv c) 40 37 (by decide)
  have e38 := rowF_at (iv c) 40 38 (by decide)
  have e39 := rowF_at (iv c) 40 39 (by decide)
  cases q
  ·
    have K1 : Hid (∀ (u : World) (g : Nat), HasF 82 u g 24 (iv fun j => (cBounds c).getD j 0) → Calls Tryd.prog 25 #[.slice (some ⟨g, 0, none⟩) 8 8, .func (.func 26) #[] #[]] u fun e w' => e = .returned (.bool false) ∧ Below u.heap.size u w') := hide (fun u g h => (allBound_any _ g 8 (by decide) _ u h).mono fun e w' ⟨he, hb⟩ => ⟨by rw [he, hq], hb⟩)
    have K2 : Hid (∀ (u : World) (g : Nat), HasF 24 u g 40 (iv c) → Calls Tryd.prog 43 #[.slice (some ⟨g, 4, none⟩) 32 32, .func (.func 44) #[] #[]] u fun e w' => e = .returned (.bool r) ∧ w' = u) := hide (fun u g h => (allInt_any _ g 40 4 32 (by decide) (by decide) _ u h).mono fun e w' ⟨he, hb⟩ => ⟨by rw [he, hr], hb⟩)
    clear hq hr
    have HS := hide (hasF_new 24 w 40 (iv c))
    generalize rowF (iv c) 40 = R at *
    simp only [iv] at e0 e1 e2 e3 e36 e37 e38 e39
    go_enter Tryd.func28, Tryd.ntmps28
    go_wp2_with (first
      | (refine wpList_built rfl 82 _ rfl #[(0, .agg #[.int .i64 (c 0), .int .i64 0, .int .i64 4095]), (1, .agg #[.int .i64 (c 1), .int .i64 0, .int .i64 255]), (2, .agg #[.int .i64 (c 2), .int .i64 0, .int .i64 255]), (3, .agg #[.int .i64 (c 3), .int .i64 0, .int .i64 255]), (4, .agg #[.int .i64 (c 36), .int .i64 0, .int .i64 31]), (5, .agg #[.int .i64 (c 37), .int .i64 0, .int .i64 16777215]), (6, .agg #[.int .i64 (c 38), .int .i64 1, .int .i64 262143]), (7, .agg #[.int .i64 (c 39), .int .i64 0, .int .i64 31])] (by simp [Act.eval]) ((cBounds c).map (Value.int .i64)).toArray (built_8 _ _ _ _ _ _ _ _ _ _ _ _ _ _ _ _ _ _ _ _ _ _ _ _) ?_)
      | (refine wpList_alloced rfl 82 rfl (rowF (iv fun _ => 0) 24) zero_8 ?_)
      | (refine wpList_store_row rfl 82 (.tmp 3) (.tmp 28) rfl (w.heap.size + 1) _ (by simp [Act.eval, Act.put]) rfl 82 _ (hasF_new2 _ _ _ _ _) (info_8 _ rfl) (by rw [rowF_size]; rfl) (ints_one _) ?_
         refine under_list fun w2 hw2 => ?_
         have M1 : Hid (HasF 82 w2 (w.heap.size + 1) 24 (iv fun j => (cBounds c).getD j 0)) := hide (by rw [hw2, HasF, ← bounds_row (cBounds c) 24 rfl]; exact setRow_heap _ _ _ _ _ _ (hasF_new2 _ _ _ _ _))
         have M2 : Hid (HasF 24 w2 w.heap.size 40 (iv c)) := hide (by rw [hw2]; exact (HS.out.next ((Below.refl _ _).alloc (Nat.le_refl _) _)).row _ (by omega))
         have MB : Hid (Below w.heap.size w w2) := hide (by rw [hw2]; exact below_setRow (((Below.refl _ _).alloc (Nat.le_refl _) _).alloc (by simp) _) (by simp) _)
         clear hw2 HS)
      | (go_at_call 25; refine (K1.out _ _ M1.out).mono ?_; rintro e w3 ⟨rfl, b3⟩; replace M2 := hide (M2.out.next b3); replace MB := hide (bnext MB.out b3); clear b3 M1)
      | (go_at_call 43; refine (K2.out _ _ M2.out).mono ?_; rintro e w4 ⟨rfl, hw⟩; subst w4))
    go_ret
    exact ⟨rfl, MB.out⟩
  ·
    have K1 : Hid (∀ (u : World) (g : Nat), HasF 82 u g 24 (iv fun j => (cBounds c).getD j 0) → Calls Tryd.prog 25 #[.slice (some ⟨g, 0, none⟩) 8 8, .func (.func 26) #[] #[]] u fun e w' => e = .returned (.bool true) ∧ Below u.heap.size u w') := hide (fun u g h => (allBound_any _ g 8 (by decide) _ u h).mono fun e w' ⟨he, hb⟩ => ⟨by rw [he, hq], hb⟩)
    have K2 : Hid (∀ (u : World) (g : Nat), HasF 24 u g 40 (iv c) → Calls Tryd.prog 43 #[.slice (some ⟨g, 4, none⟩) 32 32, .func (.func 44) #[] #[]] u fun e w' => e = .returned (.bool r) ∧ w' = u) := hide (fun u g h => (allInt_any _ g 40 4 32 (by decide) (by decide) _ u h).mono fun e w' ⟨he, hb⟩ => ⟨by rw [he, hr], hb⟩)
    clear hq hr
    have HS := hide (hasF_new 24 w 40 (iv c))
    generalize rowF (iv c) 40 = R at *
    simp only [iv] at e0 e1 e2 e3 e36 e37 e38 e39
    go_enter Tryd.func28, Tryd.ntmps28
    go_wp2_with (first
      | (refine wpList_built rfl 82 _ rfl #[(0, .agg #[.int .i64 (c 0), .int .i64 0, .int .i64 4095]), (1, .agg #[.int .i64 (c 1), .int .i64 0, .int .i64 255]), (2, .agg #[.int .i64 (c 2), .int .i64 0, .int .i64 255]), (3, .agg #[.int .i64 (c 3), .int .i64 0, .int .i64 255]), (4, .agg #[.int .i64 (c 36), .int .i64 0, .int .i64 31]), (5, .agg #[.int .i64 (c 37), .int .i64 0, .int .i64 16777215]), (6, .agg #[.int .i64 (c 38), .int .i64 1, .int .i64 262143]), (7, .agg #[.int .i64 (c 39), .int .i64 0, .int .i64 31])] (by simp [Act.eval]) ((cBounds c).map (Value.int .i64)).toArray (built_8 _ _ _ _ _ _ _ _ _ _ _ _ _ _ _ _ _ _ _ _ _ _ _ _) ?_)
      | (refine wpList_alloced rfl 82 rfl (rowF (iv fun _ => 0) 24) zero_8 ?_)
      | (refine wpList_store_row rfl 82 (.tmp 3) (.tmp 28) rfl (w.heap.size + 1) _ (by simp [Act.eval, Act.put]) rfl 82 _ (hasF_new2 _ _ _ _ _) (info_8 _ rfl) (by rw [rowF_size]; rfl) (ints_one _) ?_
         refine under_list fun w2 hw2 => ?_
         have M1 : Hid (HasF 82 w2 (w.heap.size + 1) 24 (iv fun j => (cBounds c).getD j 0)) := hide (by rw [hw2, HasF, ← bounds_row (cBounds c) 24 rfl]; exact setRow_heap _ _ _ _ _ _ (hasF_new2 _ _ _ _ _))
         have M2 : Hid (HasF 24 w2 w.heap.size 40 (iv c)) := hide (by rw [hw2]; exact (HS.out.next ((Below.refl _ _).alloc (Nat.le_refl _) _)).row _ (by omega))
         have MB : Hid (Below w.heap.size w w2) := hide (by rw [hw2]; exact below_setRow (((Below.refl _ _).alloc (Nat.le_refl _) _).alloc (by simp) _) (by simp) _)
         clear hw2 HS)
      | (go_at_call 25; refine (K1.out _ _ M1.out).mono ?_; rintro e w3 ⟨rfl, b3⟩; replace M2 := hide (M2.out.next b3); replace MB := hide (bnext MB.out b3); clear b3 M1)
      | (go_at_call 43; refine (K2.out _ _ M2.out).mono ?_; rintro e w4 ⟨rfl, hw⟩; subst w4))
    go_ret
    exact ⟨ret_bool (Bool.true_and _).symm, MB.out⟩
end Go.Proofs.YtcpilhbinkamiaaDoor
