/- Package psg: a sound that may be. -/
import Derived.Test.YtcpilhbinkamiaaDoorRight22
namespace Go.Proofs.YtcpilhbinkamiaaDoor
open Go.RowKit
set_option linter.unusedVariables false

/-- A channel's numbers. -/
def ch (f : Nat → Int) (k j : Nat) : Int := f (4 + k * 40 + j)
def okP (f : Nat → Int) : Prop := (0 ≤ f 0 ∧ f 0 ≤ 7) ∧ (0 ≤ f 1 ∧ f 1 ≤ 255) ∧ (0 ≤ f 2 ∧ f 2 ≤ 255) ∧ (0 ≤ f 3 ∧ f 3 ≤ 255) ∧ ∀ k, k < 6 → okC (ch f k)
def pBounds (f : Nat → Int) : List Int := [f 0, 0, 7, f 1, 0, 255, f 2, 0, 255, f 3, 0, 255]
def vB (f : Nat → Int) : Bool := allTo (fun i => inB ((pBounds f).getD (i * 3) 0) ((pBounds f).getD (i * 3 + 1) 0) ((pBounds f).getD (i * 3 + 2) 0)) 4 && allTo (fun k => chB (ch f k)) 6
theorem vB_is (f : Nat → Int) : vB f = (allTo (fun i => inB ((pBounds f).getD (i * 3) 0) ((pBounds f).getD (i * 3 + 1) 0) ((pBounds f).getD (i * 3 + 2) 0)) 4 && allTo (fun k => chB (ch f k)) 6) := rfl
theorem vB_iff (f : Nat → Int) : okP f ↔ vB f = true := by
  rw [vB, Bool.and_eq_true, allTo_iff (n := 6)]
  simp only [← chB_iff]
  simp only [allTo, pBounds, Bool.and_eq_true, Bool.true_and, inB_iff]
  unfold okP
  constructor
  · rintro ⟨h0, h1, h2, h3, h4⟩
    exact ⟨⟨⟨⟨h0, h1⟩, h2⟩, h3⟩, h4⟩
  · rintro ⟨⟨⟨⟨h0, h1⟩, h2⟩, h3⟩, h4⟩
    exact ⟨h0, h1, h2, h3, h4⟩
theorem vB_no {f : Nat → Int} (h : ¬ okP f) : vB f = false := by
  rcases hb : vB f with _ | _
  · rfl
  · exact absurd ((vB_iff f).2 hb) h
theorem zero_C (w : World) : (zeroValue 24).run Tryd.prog w = .ok (.agg (rowF (iv fun _ => 0) 40)) w := by kernel_rfl
theorem info_40 : (Tryd.prog.info? 24).map (·.size) = some 40 := by kernel_rfl

set_option maxHeartbeats 1600000 in
theorem allChan_any (b : Nat) (f : Nat → Int) (w : World) (h : HasF 27 w b 244 (iv f)) :
    Calls Tryd.prog 27 #[.slice (some ⟨b, 4, none⟩) 6 6, .func (.func 28) #[] #[]] w fun e w' => e = .returned (.bool (allTo (fun k => chB (ch f k)) 6)) ∧ Below w.heap.size w w' := by
  have HH := hide h
  clear h
  go_enter Tryd.func27, Tryd.ntmps27
  go_wp2
  go_loopw [9] (fun i w' => ∃ k : Nat, k ≤ 6 ∧ i = .int .i64 k ∧ (∀ j, j < k → chB (ch f j) = true) ∧ Below w.heap.size w w') (fun i _ => 6 - (intOf i).toNat)
  case atStart => exact ⟨0, Nat.zero_le _, rfl, fun j hj => by omega, Below.refl _ _⟩
  case round =>
    obtain ⟨k, hk, rfl, hall, hB⟩ := hrel
    have HA := hide hall
    have HB := hide hB
    clear hall hB
    by_cases hlt : k < 6
    · have H2 := hide (HH.out.next HB.out)
      have K1 := hide (fun u => right_any (ch f k) u)
      rcases hb : chB (ch f k) with _ | _
      · have HQ := hide (allTo_no (g := fun k => chB (ch f k)) hlt hb)
        rw [hb] at K1
        clear hb
        go_wp2_with (first | (refine wpList_load_ints rfl 24 (.tmp 11) rfl b (4 + k * 40) rfl H2.out 40 (by omega) _ Tryd.underlying24 rfl info_40 ?_) | (refine wpList_alloced rfl 24 rfl (rowF (iv fun _ => 0) 40) zero_C ?_) | (refine wpList_store_row rfl 24 (.tmp 6) (.tmp 12) rfl wr.heap.size (rowF (iv (ch f k)) 40) (by simp [Act.eval, Act.put]) rfl 24 _ (hasF_new _ _ _ _) (info_C _) (by rw [rowF_size, rowF_size]) (rowF_one _ _) ?_; refine under_list fun w2 hw2 => ?_; have M1 : Hid (HasF 24 w2 wr.heap.size 40 (iv (ch f k))) := hide (by rw [hw2]; exact setRow_heap _ _ _ _ _ _ (hasF_new _ _ _ _)); have MB : Hid (Below w.heap.size w w2) := hide (by rw [hw2]; exact below_setRow (HB.out.alloc HB.out.size _) HB.out.size _); clear hw2) | (refine wpList_load_row rfl 24 (.tmp 6) rfl wr.heap.size rfl _ _ _ _ M1.out Tryd.underlying24 rfl (info_C _) ?_) | (go_at_call 28; refine (K1.out _).mono ?_; rintro e w3 ⟨rfl, b3⟩; replace MB := hide (bnext MB.out b3); clear b3))
        go_ret
        exact ⟨ret_bool HQ.out.symm, MB.out⟩
      · have HC := hide hb
        rw [hb] at K1
        clear hb
        go_wp2_with (first | (refine wpList_load_ints rfl 24 (.tmp 11) rfl b (4 + k * 40) rfl H2.out 40 (by omega) _ Tryd.underlying24 rfl info_40 ?_) | (refine wpList_alloced rfl 24 rfl (rowF (iv fun _ => 0) 40) zero_C ?_) | (refine wpList_store_row rfl 24 (.tmp 6) (.tmp 12) rfl wr.heap.size (rowF (iv (ch f k)) 40) (by simp [Act.eval, Act.put]) rfl 24 _ (hasF_new _ _ _ _) (info_C _) (by rw [rowF_size, rowF_size]) (rowF_one _ _) ?_; refine under_list fun w2 hw2 => ?_; have M1 : Hid (HasF 24 w2 wr.heap.size 40 (iv (ch f k))) := hide (by rw [hw2]; exact setRow_heap _ _ _ _ _ _ (hasF_new _ _ _ _)); have MB : Hid (Below w.heap.size w w2) := hide (by rw [hw2]; exact below_setRow (HB.out.alloc HB.out.size _) HB.out.size _); clear hw2) | (refine wpList_load_row rfl 24 (.tmp 6) rfl wr.heap.size rfl _ _ _ _ M1.out Tryd.underlying24 rfl (info_C _) ?_) | (go_at_call 28; refine (K1.out _).mono ?_; rintro e w3 ⟨rfl, b3⟩; replace MB := hide (bnext MB.out b3); clear b3))
        exact ⟨⟨k + 1, by omega, by go_num, fun j hj => by
          by_cases e : j = k
          · rw [e]; exact HC.out
          · exact HA.out j (by omega), MB.out⟩, by simp [intOf]; omega⟩
    · have HQ : Hid (allTo (fun k => chB (ch f k)) 6 = true) := hide (allTo_iff.2 fun i hi => HA.out i (by omega))
      go_wp2
      go_ret
      exact ⟨ret_bool HQ.out.symm, HB.out⟩

set_option maxHeartbeats 1600000 in
theorem valid_any (f : Nat → Int) (w : World) : Calls Tryd.prog 13 #[.agg (rowF (iv f) 244)] w fun e w' => e = .returned (.bool (vB f)) ∧ Below w.heap.size w w' := by
  rw [vB_is]
  obtain ⟨q, hq⟩ : ∃ q, allTo (fun i => inB ((pBounds f).getD (i * 3) 0) ((pBounds f).getD (i * 3 + 1) 0) ((pBounds f).getD (i * 3 + 2) 0)) 4 = q := ⟨_, rfl⟩
  obtain ⟨r, hr⟩ : ∃ r, allTo (fun k => chB (ch f k)) 6 = r := ⟨_, rfl⟩
  rw [hq, hr]
  have e0 := rowF_at (iv f) 244 0 (by decide)
  have e1 := rowF_at (iv f) 244 1 (by decide)
  have e2 := rowF_at (iv f) 244 2 (by decide)
  have e3 := rowF_at (iv f) 244 3 (by decide)
  cases q
  ·
    have K1 : Hid (∀ (u : World) (g : Nat), HasF 65 u g 12 (iv fun j => (pBounds f).getD j 0) → Calls Tryd.prog 25 #[.slice (some ⟨g, 0, none⟩) 4 4, .func (.func 26) #[] #[]] u fun e w' => e = .returned (.bool false) ∧ Below u.heap.size u w') := hide (fun u g h => (allBound_any _ g 4 (by decide) _ u h).mono fun e w' ⟨he, hb⟩ => ⟨by rw [he, hq], hb⟩)
    have K2 : Hid (∀ (u : World) (g : Nat), HasF 27 u g 244 (iv f) → Calls Tryd.prog 27 #[.slice (some ⟨g, 4, none⟩) 6 6, .func (.func 28) #[] #[]] u fun e w' => e = .returned (.bool r) ∧ Below u.heap.size u w') := hide (fun u g h => (allChan_any g f u h).mono fun e w' ⟨he, hb⟩ => ⟨by rw [he, hr], hb⟩)
    clear hq hr
    have HS := hide (hasF_new 27 w 244 (iv f))
    generalize rowF (iv f) 244 = R at *
    simp only [iv] at e0 e1 e2 e3
    go_enter Tryd.func13, Tryd.ntmps13
    go_wp2_with (first
      | (refine wpList_built rfl 65 _ rfl #[(0, .agg #[.int .i64 (f 0), .int .i64 0, .int .i64 7]), (1, .agg #[.int .i64 (f 1), .int .i64 0, .int .i64 255]), (2, .agg #[.int .i64 (f 2), .int .i64 0, .int .i64 255]), (3, .agg #[.int .i64 (f 3), .int .i64 0, .int .i64 255])] (by simp [Act.eval]) ((pBounds f).map (Value.int .i64)).toArray (built_4 _ _ _ _ _ _ _ _ _ _ _ _) ?_)
      | (refine wpList_alloced rfl 65 rfl (rowF (iv fun _ => 0) 12) zero_4 ?_)
      | (refine wpList_store_row rfl 65 (.tmp 3) (.tmp 16) rfl (w.heap.size + 1) _ (by simp [Act.eval, Act.put]) rfl 65 _ (hasF_new2 _ _ _ _ _) (info_4 _ rfl) (by rw [rowF_size]; rfl) (ints_one _) ?_
         refine under_list fun w2 hw2 => ?_
         have M1 : Hid (HasF 65 w2 (w.heap.size + 1) 12 (iv fun j => (pBounds f).getD j 0)) := hide (by rw [hw2, HasF, ← bounds_row (pBounds f) 12 rfl]; exact setRow_heap _ _ _ _ _ _ (hasF_new2 _ _ _ _ _))
         have M2 : Hid (HasF 27 w2 w.heap.size 244 (iv f)) := hide (by rw [hw2]; exact (HS.out.next ((Below.refl _ _).alloc (Nat.le_refl _) _)).row _ (by omega))
         have MB : Hid (Below w.heap.size w w2) := hide (by rw [hw2]; exact below_setRow (((Below.refl _ _).alloc (Nat.le_refl _) _).alloc (by simp) _) (by simp) _)
         clear hw2 HS)
      | (go_at_call 25; refine (K1.out _ _ M1.out).mono ?_; rintro e w3 ⟨rfl, b3⟩; replace M2 := hide (M2.out.next b3); replace MB := hide (bnext MB.out b3); clear b3 M1)
      | (go_at_call 27; refine (K2.out _ _ M2.out).mono ?_; rintro e w4 ⟨rfl, b4⟩; replace MB := hide (bnext MB.out b4); clear b4))
    go_ret
    exact ⟨rfl, MB.out⟩
  ·
    have K1 : Hid (∀ (u : World) (g : Nat), HasF 65 u g 12 (iv fun j => (pBounds f).getD j 0) → Calls Tryd.prog 25 #[.slice (some ⟨g, 0, none⟩) 4 4, .func (.func 26) #[] #[]] u fun e w' => e = .returned (.bool true) ∧ Below u.heap.size u w') := hide (fun u g h => (allBound_any _ g 4 (by decide) _ u h).mono fun e w' ⟨he, hb⟩ => ⟨by rw [he, hq], hb⟩)
    have K2 : Hid (∀ (u : World) (g : Nat), HasF 27 u g 244 (iv f) → Calls Tryd.prog 27 #[.slice (some ⟨g, 4, none⟩) 6 6, .func (.func 28) #[] #[]] u fun e w' => e = .returned (.bool r) ∧ Below u.heap.size u w') := hide (fun u g h => (allChan_any g f u h).mono fun e w' ⟨he, hb⟩ => ⟨by rw [he, hr], hb⟩)
    clear hq hr
    have HS := hide (hasF_new 27 w 244 (iv f))
    generalize rowF (iv f) 244 = R at *
    simp only [iv] at e0 e1 e2 e3
    go_enter Tryd.func13, Tryd.ntmps13
    go_wp2_with (first
      | (refine wpList_built rfl 65 _ rfl #[(0, .agg #[.int .i64 (f 0), .int .i64 0, .int .i64 7]), (1, .agg #[.int .i64 (f 1), .int .i64 0, .int .i64 255]), (2, .agg #[.int .i64 (f 2), .int .i64 0, .int .i64 255]), (3, .agg #[.int .i64 (f 3), .int .i64 0, .int .i64 255])] (by simp [Act.eval]) ((pBounds f).map (Value.int .i64)).toArray (built_4 _ _ _ _ _ _ _ _ _ _ _ _) ?_)
      | (refine wpList_alloced rfl 65 rfl (rowF (iv fun _ => 0) 12) zero_4 ?_)
      | (refine wpList_store_row rfl 65 (.tmp 3) (.tmp 16) rfl (w.heap.size + 1) _ (by simp [Act.eval, Act.put]) rfl 65 _ (hasF_new2 _ _ _ _ _) (info_4 _ rfl) (by rw [rowF_size]; rfl) (ints_one _) ?_
         refine under_list fun w2 hw2 => ?_
         have M1 : Hid (HasF 65 w2 (w.heap.size + 1) 12 (iv fun j => (pBounds f).getD j 0)) := hide (by rw [hw2, HasF, ← bounds_row (pBounds f) 12 rfl]; exact setRow_heap _ _ _ _ _ _ (hasF_new2 _ _ _ _ _))
         have M2 : Hid (HasF 27 w2 w.heap.size 244 (iv f)) := hide (by rw [hw2]; exact (HS.out.next ((Below.refl _ _).alloc (Nat.le_refl _) _)).row _ (by omega))
         have MB : Hid (Below w.heap.size w w2) := hide (by rw [hw2]; exact below_setRow (((Below.refl _ _).alloc (Nat.le_refl _) _).alloc (by simp) _) (by simp) _)
         clear hw2 HS)
      | (go_at_call 25; refine (K1.out _ _ M1.out).mono ?_; rintro e w3 ⟨rfl, b3⟩; replace M2 := hide (M2.out.next b3); replace MB := hide (bnext MB.out b3); clear b3 M1)
      | (go_at_call 27; refine (K2.out _ _ M2.out).mono ?_; rintro e w4 ⟨rfl, b4⟩; replace MB := hide (bnext MB.out b4); clear b4))
    go_ret
    exact ⟨ret_bool (Bool.true_and _).symm, MB.out⟩
end Go.Proofs.YtcpilhbinkamiaaDoor
