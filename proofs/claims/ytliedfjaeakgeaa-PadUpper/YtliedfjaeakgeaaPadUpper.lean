/- For every port, five pads and a number the law PadUpper of layer 23 returns true: the upper four bits that are read are the same, whatever is pressed, b abroad, f at home; a key that is pressed is a bit that is 0. No condition. -/
import Derived.Test.YtliedfjaeakgeaaOpen23
import Derived.Test.YtliedfjaeakgeaaWant
import Derived.OpenShut
import Derived.ShutString
import Derived.ChangeOld
import Derived.Below
namespace Go.Proofs.Ytliedfjaeakgeaa
open Go.ChangeShapes Go.WideShapes Go.ChangeAt Go.RowKit
open Go.ChangeMaps (open_string shut_string)
set_option linter.unusedVariables false
theorem own : ownKnob Try.prog.godebug = none := by kernel_rfl

def k1 (v : Int) : Nat → Int := fun j => if j = 2 then v else 0
def nof : Nat → Bool := fun _ => false
theorem none_off0 (w : World) : Calls Try.prog 9 #[.agg #[.bool false, .bool false, .bool false, .int .i64 2], .agg #[.int .i64 0, .bool false, .int .i64 0, .bool false, .int .i64 0, .bool false, .int .i64 0, .bool false, .int .i64 0, .bool false], .bool true] w fun e w' => e = Ending.returned (.int .i64 191) ∧ Below w.heap.size w w' := read_any false false false 2 (k1 0) nof true w
theorem one_off0 (w : World) : Calls Try.prog 9 #[.agg #[.bool false, .bool false, .bool false, .int .i64 2], .agg #[.int .i64 0, .bool false, .int .i64 0, .bool false, .int .i64 1, .bool false, .int .i64 0, .bool false, .int .i64 0, .bool false], .bool true] w fun e w' => e = Ending.returned (.int .i64 (191 - 1)) ∧ Below w.heap.size w w' := read_any false false false 2 (k1 1) nof true w
set_option maxHeartbeats 2000000 in
theorem upper_off0 (c d : Bool) (i : Int) (K : Nat → Int) (X : Nat → Bool) (k : Int) (hk : bits .and .i64 k 3 = 0) (w : World) :
    Calls Try.prog 6 #[.agg #[.bool false, .bool c, .bool d, .int .i64 i], .agg (rowF (pc K X) 10), .int .i64 k] w fun e w' => e = .returned (.bool true) ∧ Below w.heap.size w w' := by
  have KN := hide none_off0
  have KO := hide one_off0
  have hp := preOf_in false d i K X
  obtain ⟨F, hF⟩ : ∃ F : Bool → Int, ∀ ab, rdOf false d i K X ab = F ab := ⟨fun ab => rdOf false d i K X ab, fun _ => rfl⟩
  have KR : Hid (∀ (ab : Bool) (w : World), Calls Try.prog 9 #[.agg #[.bool false, .bool c, .bool d, .int .i64 i], .agg (rowF (pc K X) 10), .bool ab] w fun e w' => e = Ending.returned (.int .i64 (F ab)) ∧ Below w.heap.size w w') := hide (fun ab w => by rw [← hF ab]; exact read_any false c d i K X ab w)
  have ea : F true = 191 - preOf false d i K X := (hF true).symm
  have eb : F false = 255 - preOf false d i K X := (hF false).symm
  have ra := and_15 (F true)
  have rb := and_15 (F false)
  have rc : F false % 16 = F true % 16 := by omega
  rw [rc] at rb
  have a11 : F true / 16 = 11 := by omega
  have b15 : F false / 16 = 15 := by omega
  generalize F true % 16 = r at *
  clear hF ea eb hp rc
  have P0 := hide (show HasP 23 ((w.alloc (.cells #[.bool false, .bool c, .bool d, .int .i64 i] 23)).alloc (.cells (rowF (pc K X) 10) 26)) w.heap.size false c d i from (hasP_new _ _ _ _ _ _).next ((Below.refl _ _).alloc (Nat.le_refl _) _))
  have Q0 := hide (hasF_new2 26 w (.cells #[.bool false, .bool c, .bool d, .int .i64 i] 23) 10 (pc K X))
  go_enter Try.func6, Try.ntmps6
  go_wp2_with fail
  refine under_name fun wa hwa => ?_
  rw [← hwa] at P0 Q0
  have B0 := hide (show Below w.heap.size w wa by rw [hwa]; exact ((Below.refl _ w).alloc (Nat.le_refl _) _).alloc (by simp) _)
  clear hwa
  have i0 := kept_cell P0.out.c0 P0.out.lt
  have i1 := kept_cell P0.out.c1 P0.out.lt
  have i2 := kept_cell P0.out.c2 P0.out.lt
  have i3 := kept_cell P0.out.c3 P0.out.lt
  have RQ := hide (Q0.out.range 0 10 (by decide))
  simp only [Nat.zero_add] at RQ
  have RI : Hid ((Try.prog.info? 26).map (·.size) = some (rowF (pc K X) 10).size) := hide (by rw [rowF_size]; kernel_rfl)
  have HQ := hide Q0.out.lt
  have HL := hide P0.out.lt
  clear P0 Q0
  generalize rowF (pc K X) 10 = R at *
  haveI := kept_some wa
  refine wp_region_kept (by kernel_rfl) (by kernel_rfl) ?_
  repeat (first
    | (refine wpQuiet_mid rfl 26 (.tmp 4) rfl (w.heap.size + 1) 0 rfl R _ (fun w' ⟨x, hx⟩ => by rw [hx]; intro j v hv; rw [x.cell (w.heap.size + 1) _ HQ.out]; exact RQ.out j v hv) Try.underlying26 rfl RI.out ?_; simp only [Act.put, List.setIfInBounds_toArray, List.set_cons_succ, List.set_cons_zero])
    | go_big_quiet_step ((go_at_call 9; exact kept_call (KR.out _ _))))
  refine wpQuiet_nil ?_
  rintro _ ⟨wk, rfl⟩
  have y0 := i0 wk
  have hl : w.heap.size < wk.val.heap.size := Nat.lt_of_lt_of_le HL.out wk.below.size
  have B1 := hide (bnext B0.out wk.below)
  generalize wk.val = w1 at *
  generalize hs0 : w.heap.size = s0 at *
  replace hs0 := hide hs0
  clear i0 i1 i2 i3 KR RQ HQ RI HL B0
  have l1 : s0 < w1.heap.size + 1 := by omega
  have l2 : s0 < w1.heap.size + 1 + 1 := by omega
  go_wp2_with fail
  refine under_calls fun wb hwb => ?_
  have PQ : HasP 23 wb w1.heap.size false false false 2 := by rw [hwb]; exact ((hasP_new _ _ _ _ _ _).next ((Below.refl _ _).alloc (Nat.le_refl _) _)).next ((Below.refl _ _).alloc (Nat.le_refl _) _)
  have PO : wb.heap[w1.heap.size + 1 + 1]? = some (.cells #[.int .i64 0, .bool false, .int .i64 0, .bool false, .int .i64 1, .bool false, .int .i64 0, .bool false, .int .i64 0, .bool false] 26 (0, 0)) := by
    have h := heap_alloc2_new (w1.alloc (.cells #[.bool false, .bool false, .bool false, .int .i64 2] 23)) (.cells #[.int .i64 0, .bool false, .int .i64 0, .bool false, .int .i64 0, .bool false, .int .i64 0, .bool false, .int .i64 0, .bool false] 26) (.cells #[.int .i64 0, .bool false, .int .i64 0, .bool false, .int .i64 1, .bool false, .int .i64 0, .bool false, .int .i64 0, .bool false] 26)
    rw [show (w1.alloc (.cells #[.bool false, .bool false, .bool false, .int .i64 2] 23)).heap.size + 1 = w1.heap.size + 1 + 1 by simp] at h
    rw [hwb]
    exact h
  have B2 := hide (show Below w.heap.size w wb by rw [hwb, hs0.out]; exact ((B1.out.alloc (Nat.le_of_lt hl) _).alloc (by simp; omega) _).alloc (by simp; omega) _)
  clear hwb
  refine (KN.out _).mono ?_
  rintro e w2 ⟨rfl, b2⟩
  have P2 := hide (PQ.next b2)
  have O2 := hide ((b2.block _ (lt_of_block PO)).trans PO)
  have B3 := hide (bnext B2.out b2)
  clear PQ PO b2 B2
  go_wp2_with (first
    | (refine wpList_load_want rfl 23 (.tmp 9) rfl w1.heap.size rfl _ _ _ _ P2.out Try.underlying23 rfl (by kernel_rfl) ?_)
    | (refine wpList_load_want rfl 26 (.tmp 11) rfl (w1.heap.size + 1 + 1) rfl _ _ _ _ O2.out Try.underlying26 rfl (by kernel_rfl) ?_))
  refine (KO.out _).mono ?_
  rintro e w3 ⟨rfl, b3⟩
  go_wp2_with fail
  go_ret
  exact ⟨rfl, bnext B3.out b3⟩
theorem none_off1 (w : World) : Calls Try.prog 9 #[.agg #[.bool false, .bool false, .bool false, .int .i64 2], .agg #[.int .i64 0, .bool false, .int .i64 0, .bool false, .int .i64 0, .bool false, .int .i64 0, .bool false, .int .i64 0, .bool false], .bool true] w fun e w' => e = Ending.returned (.int .i64 191) ∧ Below w.heap.size w w' := read_any false false false 2 (k1 0) nof true w
theorem one_off1 (w : World) : Calls Try.prog 9 #[.agg #[.bool false, .bool false, .bool false, .int .i64 2], .agg #[.int .i64 0, .bool false, .int .i64 0, .bool false, .int .i64 2, .bool false, .int .i64 0, .bool false, .int .i64 0, .bool false], .bool true] w fun e w' => e = Ending.returned (.int .i64 (191 - 2)) ∧ Below w.heap.size w w' := read_any false false false 2 (k1 2) nof true w
set_option maxHeartbeats 2000000 in
theorem upper_off1 (c d : Bool) (i : Int) (K : Nat → Int) (X : Nat → Bool) (k : Int) (hk : bits .and .i64 k 3 = 1) (w : World) :
    Calls Try.prog 6 #[.agg #[.bool false, .bool c, .bool d, .int .i64 i], .agg (rowF (pc K X) 10), .int .i64 k] w fun e w' => e = .returned (.bool true) ∧ Below w.heap.size w w' := by
  have KN := hide none_off1
  have KO := hide one_off1
  have hp := preOf_in false d i K X
  obtain ⟨F, hF⟩ : ∃ F : Bool → Int, ∀ ab, rdOf false d i K X ab = F ab := ⟨fun ab => rdOf false d i K X ab, fun _ => rfl⟩
  have KR : Hid (∀ (ab : Bool) (w : World), Calls Try.prog 9 #[.agg #[.bool false, .bool c, .bool d, .int .i64 i], .agg (rowF (pc K X) 10), .bool ab] w fun e w' => e = Ending.returned (.int .i64 (F ab)) ∧ Below w.heap.size w w') := hide (fun ab w => by rw [← hF ab]; exact read_any false c d i K X ab w)
  have ea : F true = 191 - preOf false d i K X := (hF true).symm
  have eb : F false = 255 - preOf false d i K X := (hF false).symm
  have ra := and_15 (F true)
  have rb := and_15 (F false)
  have rc : F false % 16 = F true % 16 := by omega
  rw [rc] at rb
  have a11 : F true / 16 = 11 := by omega
  have b15 : F false / 16 = 15 := by omega
  generalize F true % 16 = r at *
  clear hF ea eb hp rc
  have P0 := hide (show HasP 23 ((w.alloc (.cells #[.bool false, .bool c, .bool d, .int .i64 i] 23)).alloc (.cells (rowF (pc K X) 10) 26)) w.heap.size false c d i from (hasP_new _ _ _ _ _ _).next ((Below.refl _ _).alloc (Nat.le_refl _) _))
  have Q0 := hide (hasF_new2 26 w (.cells #[.bool false, .bool c, .bool d, .int .i64 i] 23) 10 (pc K X))
  go_enter Try.func6, Try.ntmps6
  go_wp2_with fail
  refine under_name fun wa hwa => ?_
  rw [← hwa] at P0 Q0
  have B0 := hide (show Below w.heap.size w wa by rw [hwa]; exact ((Below.refl _ w).alloc (Nat.le_refl _) _).alloc (by simp) _)
  clear hwa
  have i0 := kept_cell P0.out.c0 P0.out.lt
  have i1 := kept_cell P0.out.c1 P0.out.lt
  have i2 := kept_cell P0.out.c2 P0.out.lt
  have i3 := kept_cell P0.out.c3 P0.out.lt
  have RQ := hide (Q0.out.range 0 10 (by decide))
  simp only [Nat.zero_add] at RQ
  have RI : Hid ((Try.prog.info? 26).map (·.size) = some (rowF (pc K X) 10).size) := hide (by rw [rowF_size]; kernel_rfl)
  have HQ := hide Q0.out.lt
  have HL := hide P0.out.lt
  clear P0 Q0
  generalize rowF (pc K X) 10 = R at *
  haveI := kept_some wa
  refine wp_region_kept (by kernel_rfl) (by kernel_rfl) ?_
  repeat (first
    | (refine wpQuiet_mid rfl 26 (.tmp 4) rfl (w.heap.size + 1) 0 rfl R _ (fun w' ⟨x, hx⟩ => by rw [hx]; intro j v hv; rw [x.cell (w.heap.size + 1) _ HQ.out]; exact RQ.out j v hv) Try.underlying26 rfl RI.out ?_; simp only [Act.put, List.setIfInBounds_toArray, List.set_cons_succ, List.set_cons_zero])
    | go_big_quiet_step ((go_at_call 9; exact kept_call (KR.out _ _))))
  refine wpQuiet_nil ?_
  rintro _ ⟨wk, rfl⟩
  have y0 := i0 wk
  have hl : w.heap.size < wk.val.heap.size := Nat.lt_of_lt_of_le HL.out wk.below.size
  have B1 := hide (bnext B0.out wk.below)
  generalize wk.val = w1 at *
  generalize hs0 : w.heap.size = s0 at *
  replace hs0 := hide hs0
  clear i0 i1 i2 i3 KR RQ HQ RI HL B0
  have l1 : s0 < w1.heap.size + 1 := by omega
  have l2 : s0 < w1.heap.size + 1 + 1 := by omega
  go_wp2_with fail
  refine under_calls fun wb hwb => ?_
  have PQ : HasP 23 wb w1.heap.size false false false 2 := by rw [hwb]; exact ((hasP_new _ _ _ _ _ _).next ((Below.refl _ _).alloc (Nat.le_refl _) _)).next ((Below.refl _ _).alloc (Nat.le_refl _) _)
  have PO : wb.heap[w1.heap.size + 1 + 1]? = some (.cells #[.int .i64 0, .bool false, .int .i64 0, .bool false, .int .i64 2, .bool false, .int .i64 0, .bool false, .int .i64 0, .bool false] 26 (0, 0)) := by
    have h := heap_alloc2_new (w1.alloc (.cells #[.bool false, .bool false, .bool false, .int .i64 2] 23)) (.cells #[.int .i64 0, .bool false, .int .i64 0, .bool false, .int .i64 0, .bool false, .int .i64 0, .bool false, .int .i64 0, .bool false] 26) (.cells #[.int .i64 0, .bool false, .int .i64 0, .bool false, .int .i64 2, .bool false, .int .i64 0, .bool false, .int .i64 0, .bool false] 26)
    rw [show (w1.alloc (.cells #[.bool false, .bool false, .bool false, .int .i64 2] 23)).heap.size + 1 = w1.heap.size + 1 + 1 by simp] at h
    rw [hwb]
    exact h
  have B2 := hide (show Below w.heap.size w wb by rw [hwb, hs0.out]; exact ((B1.out.alloc (Nat.le_of_lt hl) _).alloc (by simp; omega) _).alloc (by simp; omega) _)
  clear hwb
  refine (KN.out _).mono ?_
  rintro e w2 ⟨rfl, b2⟩
  have P2 := hide (PQ.next b2)
  have O2 := hide ((b2.block _ (lt_of_block PO)).trans PO)
  have B3 := hide (bnext B2.out b2)
  clear PQ PO b2 B2
  go_wp2_with (first
    | (refine wpList_load_want rfl 23 (.tmp 9) rfl w1.heap.size rfl _ _ _ _ P2.out Try.underlying23 rfl (by kernel_rfl) ?_)
    | (refine wpList_load_want rfl 26 (.tmp 11) rfl (w1.heap.size + 1 + 1) rfl _ _ _ _ O2.out Try.underlying26 rfl (by kernel_rfl) ?_))
  refine (KO.out _).mono ?_
  rintro e w3 ⟨rfl, b3⟩
  go_wp2_with fail
  go_ret
  exact ⟨rfl, bnext B3.out b3⟩
theorem none_off2 (w : World) : Calls Try.prog 9 #[.agg #[.bool false, .bool false, .bool false, .int .i64 2], .agg #[.int .i64 0, .bool false, .int .i64 0, .bool false, .int .i64 0, .bool false, .int .i64 0, .bool false, .int .i64 0, .bool false], .bool true] w fun e w' => e = Ending.returned (.int .i64 191) ∧ Below w.heap.size w w' := read_any false false false 2 (k1 0) nof true w
theorem one_off2 (w : World) : Calls Try.prog 9 #[.agg #[.bool false, .bool false, .bool false, .int .i64 2], .agg #[.int .i64 0, .bool false, .int .i64 0, .bool false, .int .i64 4, .bool false, .int .i64 0, .bool false, .int .i64 0, .bool false], .bool true] w fun e w' => e = Ending.returned (.int .i64 (191 - 4)) ∧ Below w.heap.size w w' := read_any false false false 2 (k1 4) nof true w
set_option maxHeartbeats 2000000 in
theorem upper_off2 (c d : Bool) (i : Int) (K : Nat → Int) (X : Nat → Bool) (k : Int) (hk : bits .and .i64 k 3 = 2) (w : World) :
    Calls Try.prog 6 #[.agg #[.bool false, .bool c, .bool d, .int .i64 i], .agg (rowF (pc K X) 10), .int .i64 k] w fun e w' => e = .returned (.bool true) ∧ Below w.heap.size w w' := by
  have KN := hide none_off2
  have KO := hide one_off2
  have hp := preOf_in false d i K X
  obtain ⟨F, hF⟩ : ∃ F : Bool → Int, ∀ ab, rdOf false d i K X ab = F ab := ⟨fun ab => rdOf false d i K X ab, fun _ => rfl⟩
  have KR : Hid (∀ (ab : Bool) (w : World), Calls Try.prog 9 #[.agg #[.bool false, .bool c, .bool d, .int .i64 i], .agg (rowF (pc K X) 10), .bool ab] w fun e w' => e = Ending.returned (.int .i64 (F ab)) ∧ Below w.heap.size w w') := hide (fun ab w => by rw [← hF ab]; exact read_any false c d i K X ab w)
  have ea : F true = 191 - preOf false d i K X := (hF true).symm
  have eb : F false = 255 - preOf false d i K X := (hF false).symm
  have ra := and_15 (F true)
  have rb := and_15 (F false)
  have rc : F false % 16 = F true % 16 := by omega
  rw [rc] at rb
  have a11 : F true / 16 = 11 := by omega
  have b15 : F false / 16 = 15 := by omega
  generalize F true % 16 = r at *
  clear hF ea eb hp rc
  have P0 := hide (show HasP 23 ((w.alloc (.cells #[.bool false, .bool c, .bool d, .int .i64 i] 23)).alloc (.cells (rowF (pc K X) 10) 26)) w.heap.size false c d i from (hasP_new _ _ _ _ _ _).next ((Below.refl _ _).alloc (Nat.le_refl _) _))
  have Q0 := hide (hasF_new2 26 w (.cells #[.bool false, .bool c, .bool d, .int .i64 i] 23) 10 (pc K X))
  go_enter Try.func6, Try.ntmps6
  go_wp2_with fail
  refine under_name fun wa hwa => ?_
  rw [← hwa] at P0 Q0
  have B0 := hide (show Below w.heap.size w wa by rw [hwa]; exact ((Below.refl _ w).alloc (Nat.le_refl _) _).alloc (by simp) _)
  clear hwa
  have i0 := kept_cell P0.out.c0 P0.out.lt
  have i1 := kept_cell P0.out.c1 P0.out.lt
  have i2 := kept_cell P0.out.c2 P0.out.lt
  have i3 := kept_cell P0.out.c3 P0.out.lt
  have RQ := hide (Q0.out.range 0 10 (by decide))
  simp only [Nat.zero_add] at RQ
  have RI : Hid ((Try.prog.info? 26).map (·.size) = some (rowF (pc K X) 10).size) := hide (by rw [rowF_size]; kernel_rfl)
  have HQ := hide Q0.out.lt
  have HL := hide P0.out.lt
  clear P0 Q0
  generalize rowF (pc K X) 10 = R at *
  haveI := kept_some wa
  refine wp_region_kept (by kernel_rfl) (by kernel_rfl) ?_
  repeat (first
    | (refine wpQuiet_mid rfl 26 (.tmp 4) rfl (w.heap.size + 1) 0 rfl R _ (fun w' ⟨x, hx⟩ => by rw [hx]; intro j v hv; rw [x.cell (w.heap.size + 1) _ HQ.out]; exact RQ.out j v hv) Try.underlying26 rfl RI.out ?_; simp only [Act.put, List.setIfInBounds_toArray, List.set_cons_succ, List.set_cons_zero])
    | go_big_quiet_step ((go_at_call 9; exact kept_call (KR.out _ _))))
  refine wpQuiet_nil ?_
  rintro _ ⟨wk, rfl⟩
  have y0 := i0 wk
  have hl : w.heap.size < wk.val.heap.size := Nat.lt_of_lt_of_le HL.out wk.below.size
  have B1 := hide (bnext B0.out wk.below)
  generalize wk.val = w1 at *
  generalize hs0 : w.heap.size = s0 at *
  replace hs0 := hide hs0
  clear i0 i1 i2 i3 KR RQ HQ RI HL B0
  have l1 : s0 < w1.heap.size + 1 := by omega
  have l2 : s0 < w1.heap.size + 1 + 1 := by omega
  go_wp2_with fail
  refine under_calls fun wb hwb => ?_
  have PQ : HasP 23 wb w1.heap.size false false false 2 := by rw [hwb]; exact ((hasP_new _ _ _ _ _ _).next ((Below.refl _ _).alloc (Nat.le_refl _) _)).next ((Below.refl _ _).alloc (Nat.le_refl _) _)
  have PO : wb.heap[w1.heap.size + 1 + 1]? = some (.cells #[.int .i64 0, .bool false, .int .i64 0, .bool false, .int .i64 4, .bool false, .int .i64 0, .bool false, .int .i64 0, .bool false] 26 (0, 0)) := by
    have h := heap_alloc2_new (w1.alloc (.cells #[.bool false, .bool false, .bool false, .int .i64 2] 23)) (.cells #[.int .i64 0, .bool false, .int .i64 0, .bool false, .int .i64 0, .bool false, .int .i64 0, .bool false, .int .i64 0, .bool false] 26) (.cells #[.int .i64 0, .bool false, .int .i64 0, .bool false, .int .i64 4, .bool false, .int .i64 0, .bool false, .int .i64 0, .bool false] 26)
    rw [show (w1.alloc (.cells #[.bool false, .bool false, .bool false, .int .i64 2] 23)).heap.size + 1 = w1.heap.size + 1 + 1 by simp] at h
    rw [hwb]
    exact h
  have B2 := hide (show Below w.heap.size w wb by rw [hwb, hs0.out]; exact ((B1.out.alloc (Nat.le_of_lt hl) _).alloc (by simp; omega) _).alloc (by simp; omega) _)
  clear hwb
  refine (KN.out _).mono ?_
  rintro e w2 ⟨rfl, b2⟩
  have P2 := hide (PQ.next b2)
  have O2 := hide ((b2.block _ (lt_of_block PO)).trans PO)
  have B3 := hide (bnext B2.out b2)
  clear PQ PO b2 B2
  go_wp2_with (first
    | (refine wpList_load_want rfl 23 (.tmp 9) rfl w1.heap.size rfl _ _ _ _ P2.out Try.underlying23 rfl (by kernel_rfl) ?_)
    | (refine wpList_load_want rfl 26 (.tmp 11) rfl (w1.heap.size + 1 + 1) rfl _ _ _ _ O2.out Try.underlying26 rfl (by kernel_rfl) ?_))
  refine (KO.out _).mono ?_
  rintro e w3 ⟨rfl, b3⟩
  go_wp2_with fail
  go_ret
  exact ⟨rfl, bnext B3.out b3⟩
theorem none_off3 (w : World) : Calls Try.prog 9 #[.agg #[.bool false, .bool false, .bool false, .int .i64 2], .agg #[.int .i64 0, .bool false, .int .i64 0, .bool false, .int .i64 0, .bool false, .int .i64 0, .bool false, .int .i64 0, .bool false], .bool true] w fun e w' => e = Ending.returned (.int .i64 191) ∧ Below w.heap.size w w' := read_any false false false 2 (k1 0) nof true w
theorem one_off3 (w : World) : Calls Try.prog 9 #[.agg #[.bool false, .bool false, .bool false, .int .i64 2], .agg #[.int .i64 0, .bool false, .int .i64 0, .bool false, .int .i64 8, .bool false, .int .i64 0, .bool false, .int .i64 0, .bool false], .bool true] w fun e w' => e = Ending.returned (.int .i64 (191 - 8)) ∧ Below w.heap.size w w' := read_any false false false 2 (k1 8) nof true w
set_option maxHeartbeats 2000000 in
theorem upper_off3 (c d : Bool) (i : Int) (K : Nat → Int) (X : Nat → Bool) (k : Int) (hk : bits .and .i64 k 3 = 3) (w : World) :
    Calls Try.prog 6 #[.agg #[.bool false, .bool c, .bool d, .int .i64 i], .agg (rowF (pc K X) 10), .int .i64 k] w fun e w' => e = .returned (.bool true) ∧ Below w.heap.size w w' := by
  have KN := hide none_off3
  have KO := hide one_off3
  have hp := preOf_in false d i K X
  obtain ⟨F, hF⟩ : ∃ F : Bool → Int, ∀ ab, rdOf false d i K X ab = F ab := ⟨fun ab => rdOf false d i K X ab, fun _ => rfl⟩
  have KR : Hid (∀ (ab : Bool) (w : World), Calls Try.prog 9 #[.agg #[.bool false, .bool c, .bool d, .int .i64 i], .agg (rowF (pc K X) 10), .bool ab] w fun e w' => e = Ending.returned (.int .i64 (F ab)) ∧ Below w.heap.size w w') := hide (fun ab w => by rw [← hF ab]; exact read_any false c d i K X ab w)
  have ea : F true = 191 - preOf false d i K X := (hF true).symm
  have eb : F false = 255 - preOf false d i K X := (hF false).symm
  have ra := and_15 (F true)
  have rb := and_15 (F false)
  have rc : F false % 16 = F true % 16 := by omega
  rw [rc] at rb
  have a11 : F true / 16 = 11 := by omega
  have b15 : F false / 16 = 15 := by omega
  generalize F true % 16 = r at *
  clear hF ea eb hp rc
  have P0 := hide (show HasP 23 ((w.alloc (.cells #[.bool false, .bool c, .bool d, .int .i64 i] 23)).alloc (.cells (rowF (pc K X) 10) 26)) w.heap.size false c d i from (hasP_new _ _ _ _ _ _).next ((Below.refl _ _).alloc (Nat.le_refl _) _))
  have Q0 := hide (hasF_new2 26 w (.cells #[.bool false, .bool c, .bool d, .int .i64 i] 23) 10 (pc K X))
  go_enter Try.func6, Try.ntmps6
  go_wp2_with fail
  refine under_name fun wa hwa => ?_
  rw [← hwa] at P0 Q0
  have B0 := hide (show Below w.heap.size w wa by rw [hwa]; exact ((Below.refl _ w).alloc (Nat.le_refl _) _).alloc (by simp) _)
  clear hwa
  have i0 := kept_cell P0.out.c0 P0.out.lt
  have i1 := kept_cell P0.out.c1 P0.out.lt
  have i2 := kept_cell P0.out.c2 P0.out.lt
  have i3 := kept_cell P0.out.c3 P0.out.lt
  have RQ := hide (Q0.out.range 0 10 (by decide))
  simp only [Nat.zero_add] at RQ
  have RI : Hid ((Try.prog.info? 26).map (·.size) = some (rowF (pc K X) 10).size) := hide (by rw [rowF_size]; kernel_rfl)
  have HQ := hide Q0.out.lt
  have HL := hide P0.out.lt
  clear P0 Q0
  generalize rowF (pc K X) 10 = R at *
  haveI := kept_some wa
  refine wp_region_kept (by kernel_rfl) (by kernel_rfl) ?_
  repeat (first
    | (refine wpQuiet_mid rfl 26 (.tmp 4) rfl (w.heap.size + 1) 0 rfl R _ (fun w' ⟨x, hx⟩ => by rw [hx]; intro j v hv; rw [x.cell (w.heap.size + 1) _ HQ.out]; exact RQ.out j v hv) Try.underlying26 rfl RI.out ?_; simp only [Act.put, List.setIfInBounds_toArray, List.set_cons_succ, List.set_cons_zero])
    | go_big_quiet_step ((go_at_call 9; exact kept_call (KR.out _ _))))
  refine wpQuiet_nil ?_
  rintro _ ⟨wk, rfl⟩
  have y0 := i0 wk
  have hl : w.heap.size < wk.val.heap.size := Nat.lt_of_lt_of_le HL.out wk.below.size
  have B1 := hide (bnext B0.out wk.below)
  generalize wk.val = w1 at *
  generalize hs0 : w.heap.size = s0 at *
  replace hs0 := hide hs0
  clear i0 i1 i2 i3 KR RQ HQ RI HL B0
  have l1 : s0 < w1.heap.size + 1 := by omega
  have l2 : s0 < w1.heap.size + 1 + 1 := by omega
  go_wp2_with fail
  refine under_calls fun wb hwb => ?_
  have PQ : HasP 23 wb w1.heap.size false false false 2 := by rw [hwb]; exact ((hasP_new _ _ _ _ _ _).next ((Below.refl _ _).alloc (Nat.le_refl _) _)).next ((Below.refl _ _).alloc (Nat.le_refl _) _)
  have PO : wb.heap[w1.heap.size + 1 + 1]? = some (.cells #[.int .i64 0, .bool false, .int .i64 0, .bool false, .int .i64 8, .bool false, .int .i64 0, .bool false, .int .i64 0, .bool false] 26 (0, 0)) := by
    have h := heap_alloc2_new (w1.alloc (.cells #[.bool false, .bool false, .bool false, .int .i64 2] 23)) (.cells #[.int .i64 0, .bool false, .int .i64 0, .bool false, .int .i64 0, .bool false, .int .i64 0, .bool false, .int .i64 0, .bool false] 26) (.cells #[.int .i64 0, .bool false, .int .i64 0, .bool false, .int .i64 8, .bool false, .int .i64 0, .bool false, .int .i64 0, .bool false] 26)
    rw [show (w1.alloc (.cells #[.bool false, .bool false, .bool false, .int .i64 2] 23)).heap.size + 1 = w1.heap.size + 1 + 1 by simp] at h
    rw [hwb]
    exact h
  have B2 := hide (show Below w.heap.size w wb by rw [hwb, hs0.out]; exact ((B1.out.alloc (Nat.le_of_lt hl) _).alloc (by simp; omega) _).alloc (by simp; omega) _)
  clear hwb
  refine (KN.out _).mono ?_
  rintro e w2 ⟨rfl, b2⟩
  have P2 := hide (PQ.next b2)
  have O2 := hide ((b2.block _ (lt_of_block PO)).trans PO)
  have B3 := hide (bnext B2.out b2)
  clear PQ PO b2 B2
  go_wp2_with (first
    | (refine wpList_load_want rfl 23 (.tmp 9) rfl w1.heap.size rfl _ _ _ _ P2.out Try.underlying23 rfl (by kernel_rfl) ?_)
    | (refine wpList_load_want rfl 26 (.tmp 11) rfl (w1.heap.size + 1 + 1) rfl _ _ _ _ O2.out Try.underlying26 rfl (by kernel_rfl) ?_))
  refine (KO.out _).mono ?_
  rintro e w3 ⟨rfl, b3⟩
  go_wp2_with fail
  go_ret
  exact ⟨rfl, bnext B3.out b3⟩
theorem none_on0 (w : World) : Calls Try.prog 9 #[.agg #[.bool true, .bool false, .bool false, .int .i64 2], .agg #[.int .i64 0, .bool false, .int .i64 0, .bool false, .int .i64 0, .bool false, .int .i64 0, .bool false, .int .i64 0, .bool false], .bool true] w fun e w' => e = Ending.returned (.int .i64 191) ∧ Below w.heap.size w w' := read_any true false false 2 (k1 0) nof true w
theorem one_on0 (w : World) : Calls Try.prog 9 #[.agg #[.bool true, .bool false, .bool false, .int .i64 2], .agg #[.int .i64 0, .bool false, .int .i64 0, .bool false, .int .i64 16, .bool false, .int .i64 0, .bool false, .int .i64 0, .bool false], .bool true] w fun e w' => e = Ending.returned (.int .i64 (191 - 1)) ∧ Below w.heap.size w w' := read_any true false false 2 (k1 16) nof true w
set_option maxHeartbeats 2000000 in
theorem upper_on0 (c d : Bool) (i : Int) (K : Nat → Int) (X : Nat → Bool) (k : Int) (hk : bits .and .i64 k 3 = 0) (w : World) :
    Calls Try.prog 6 #[.agg #[.bool true, .bool c, .bool d, .int .i64 i], .agg (rowF (pc K X) 10), .int .i64 k] w fun e w' => e = .returned (.bool true) ∧ Below w.heap.size w w' := by
  have KN := hide none_on0
  have KO := hide one_on0
  have hp := preOf_in true d i K X
  obtain ⟨F, hF⟩ : ∃ F : Bool → Int, ∀ ab, rdOf true d i K X ab = F ab := ⟨fun ab => rdOf true d i K X ab, fun _ => rfl⟩
  have KR : Hid (∀ (ab : Bool) (w : World), Calls Try.prog 9 #[.agg #[.bool true, .bool c, .bool d, .int .i64 i], .agg (rowF (pc K X) 10), .bool ab] w fun e w' => e = Ending.returned (.int .i64 (F ab)) ∧ Below w.heap.size w w') := hide (fun ab w => by rw [← hF ab]; exact read_any true c d i K X ab w)
  have ea : F true = 191 - preOf true d i K X := (hF true).symm
  have eb : F false = 255 - preOf true d i K X := (hF false).symm
  have ra := and_15 (F true)
  have rb := and_15 (F false)
  have rc : F false % 16 = F true % 16 := by omega
  rw [rc] at rb
  have a11 : F true / 16 = 11 := by omega
  have b15 : F false / 16 = 15 := by omega
  generalize F true % 16 = r at *
  clear hF ea eb hp rc
  have P0 := hide (show HasP 23 ((w.alloc (.cells #[.bool true, .bool c, .bool d, .int .i64 i] 23)).alloc (.cells (rowF (pc K X) 10) 26)) w.heap.size true c d i from (hasP_new _ _ _ _ _ _).next ((Below.refl _ _).alloc (Nat.le_refl _) _))
  have Q0 := hide (hasF_new2 26 w (.cells #[.bool true, .bool c, .bool d, .int .i64 i] 23) 10 (pc K X))
  go_enter Try.func6, Try.ntmps6
  go_wp2_with fail
  refine under_name fun wa hwa => ?_
  rw [← hwa] at P0 Q0
  have B0 := hide (show Below w.heap.size w wa by rw [hwa]; exact ((Below.refl _ w).alloc (Nat.le_refl _) _).alloc (by simp) _)
  clear hwa
  have i0 := kept_cell P0.out.c0 P0.out.lt
  have i1 := kept_cell P0.out.c1 P0.out.lt
  have i2 := kept_cell P0.out.c2 P0.out.lt
  have i3 := kept_cell P0.out.c3 P0.out.lt
  have RQ := hide (Q0.out.range 0 10 (by decide))
  simp only [Nat.zero_add] at RQ
  have RI : Hid ((Try.prog.info? 26).map (·.size) = some (rowF (pc K X) 10).size) := hide (by rw [rowF_size]; kernel_rfl)
  have HQ := hide Q0.out.lt
  have HL := hide P0.out.lt
  clear P0 Q0
  generalize rowF (pc K X) 10 = R at *
  haveI := kept_some wa
  refine wp_region_kept (by kernel_rfl) (by kernel_rfl) ?_
  repeat (first
    | (refine wpQuiet_mid rfl 26 (.tmp 4) rfl (w.heap.size + 1) 0 rfl R _ (fun w' ⟨x, hx⟩ => by rw [hx]; intro j v hv; rw [x.cell (w.heap.size + 1) _ HQ.out]; exact RQ.out j v hv) Try.underlying26 rfl RI.out ?_; simp only [Act.put, List.setIfInBounds_toArray, List.set_cons_succ, List.set_cons_zero])
    | go_big_quiet_step ((go_at_call 9; exact kept_call (KR.out _ _))))
  refine wpQuiet_nil ?_
  rintro _ ⟨wk, rfl⟩
  have y0 := i0 wk
  have hl : w.heap.size < wk.val.heap.size := Nat.lt_of_lt_of_le HL.out wk.below.size
  have B1 := hide (bnext B0.out wk.below)
  generalize wk.val = w1 at *
  generalize hs0 : w.heap.size = s0 at *
  replace hs0 := hide hs0
  clear i0 i1 i2 i3 KR RQ HQ RI HL B0
  have l1 : s0 < w1.heap.size + 1 := by omega
  have l2 : s0 < w1.heap.size + 1 + 1 := by omega
  go_wp2_with fail
  refine under_calls fun wb hwb => ?_
  have PQ : HasP 23 wb w1.heap.size true false false 2 := by rw [hwb]; exact ((hasP_new _ _ _ _ _ _).next ((Below.refl _ _).alloc (Nat.le_refl _) _)).next ((Below.refl _ _).alloc (Nat.le_refl _) _)
  have PO : wb.heap[w1.heap.size + 1 + 1]? = some (.cells #[.int .i64 0, .bool false, .int .i64 0, .bool false, .int .i64 16, .bool false, .int .i64 0, .bool false, .int .i64 0, .bool false] 26 (0, 0)) := by
    have h := heap_alloc2_new (w1.alloc (.cells #[.bool true, .bool false, .bool false, .int .i64 2] 23)) (.cells #[.int .i64 0, .bool false, .int .i64 0, .bool false, .int .i64 0, .bool false, .int .i64 0, .bool false, .int .i64 0, .bool false] 26) (.cells #[.int .i64 0, .bool false, .int .i64 0, .bool false, .int .i64 16, .bool false, .int .i64 0, .bool false, .int .i64 0, .bool false] 26)
    rw [show (w1.alloc (.cells #[.bool true, .bool false, .bool false, .int .i64 2] 23)).heap.size + 1 = w1.heap.size + 1 + 1 by simp] at h
    rw [hwb]
    exact h
  have B2 := hide (show Below w.heap.size w wb by rw [hwb, hs0.out]; exact ((B1.out.alloc (Nat.le_of_lt hl) _).alloc (by simp; omega) _).alloc (by simp; omega) _)
  clear hwb
  refine (KN.out _).mono ?_
  rintro e w2 ⟨rfl, b2⟩
  have P2 := hide (PQ.next b2)
  have O2 := hide ((b2.block _ (lt_of_block PO)).trans PO)
  have B3 := hide (bnext B2.out b2)
  clear PQ PO b2 B2
  go_wp2_with (first
    | (refine wpList_load_want rfl 23 (.tmp 9) rfl w1.heap.size rfl _ _ _ _ P2.out Try.underlying23 rfl (by kernel_rfl) ?_)
    | (refine wpList_load_want rfl 26 (.tmp 11) rfl (w1.heap.size + 1 + 1) rfl _ _ _ _ O2.out Try.underlying26 rfl (by kernel_rfl) ?_))
  refine (KO.out _).mono ?_
  rintro e w3 ⟨rfl, b3⟩
  go_wp2_with fail
  go_ret
  exact ⟨rfl, bnext B3.out b3⟩
theorem none_on1 (w : World) : Calls Try.prog 9 #[.agg #[.bool true, .bool false, .bool false, .int .i64 2], .agg #[.int .i64 0, .bool false, .int .i64 0, .bool false, .int .i64 0, .bool false, .int .i64 0, .bool false, .int .i64 0, .bool false], .bool true] w fun e w' => e = Ending.returned (.int .i64 191) ∧ Below w.heap.size w w' := read_any true false false 2 (k1 0) nof true w
theorem one_on1 (w : World) : Calls Try.prog 9 #[.agg #[.bool true, .bool false, .bool false, .int .i64 2], .agg #[.int .i64 0, .bool false, .int .i64 0, .bool false, .int .i64 32, .bool false, .int .i64 0, .bool false, .int .i64 0, .bool false], .bool true] w fun e w' => e = Ending.returned (.int .i64 (191 - 2)) ∧ Below w.heap.size w w' := read_any true false false 2 (k1 32) nof true w
set_option maxHeartbeats 2000000 in
theorem upper_on1 (c d : Bool) (i : Int) (K : Nat → Int) (X : Nat → Bool) (k : Int) (hk : bits .and .i64 k 3 = 1) (w : World) :
    Calls Try.prog 6 #[.agg #[.bool true, .bool c, .bool d, .int .i64 i], .agg (rowF (pc K X) 10), .int .i64 k] w fun e w' => e = .returned (.bool true) ∧ Below w.heap.size w w' := by
  have KN := hide none_on1
  have KO := hide one_on1
  have hp := preOf_in true d i K X
  obtain ⟨F, hF⟩ : ∃ F : Bool → Int, ∀ ab, rdOf true d i K X ab = F ab := ⟨fun ab => rdOf true d i K X ab, fun _ => rfl⟩
  have KR : Hid (∀ (ab : Bool) (w : World), Calls Try.prog 9 #[.agg #[.bool true, .bool c, .bool d, .int .i64 i], .agg (rowF (pc K X) 10), .bool ab] w fun e w' => e = Ending.returned (.int .i64 (F ab)) ∧ Below w.heap.size w w') := hide (fun ab w => by rw [← hF ab]; exact read_any true c d i K X ab w)
  have ea : F true = 191 - preOf true d i K X := (hF true).symm
  have eb : F false = 255 - preOf true d i K X := (hF false).symm
  have ra := and_15 (F true)
  have rb := and_15 (F false)
  have rc : F false % 16 = F true % 16 := by omega
  rw [rc] at rb
  have a11 : F true / 16 = 11 := by omega
  have b15 : F false / 16 = 15 := by omega
  generalize F true % 16 = r at *
  clear hF ea eb hp rc
  have P0 := hide (show HasP 23 ((w.alloc (.cells #[.bool true, .bool c, .bool d, .int .i64 i] 23)).alloc (.cells (rowF (pc K X) 10) 26)) w.heap.size true c d i from (hasP_new _ _ _ _ _ _).next ((Below.refl _ _).alloc (Nat.le_refl _) _))
  have Q0 := hide (hasF_new2 26 w (.cells #[.bool true, .bool c, .bool d, .int .i64 i] 23) 10 (pc K X))
  go_enter Try.func6, Try.ntmps6
  go_wp2_with fail
  refine under_name fun wa hwa => ?_
  rw [← hwa] at P0 Q0
  have B0 := hide (show Below w.heap.size w wa by rw [hwa]; exact ((Below.refl _ w).alloc (Nat.le_refl _) _).alloc (by simp) _)
  clear hwa
  have i0 := kept_cell P0.out.c0 P0.out.lt
  have i1 := kept_cell P0.out.c1 P0.out.lt
  have i2 := kept_cell P0.out.c2 P0.out.lt
  have i3 := kept_cell P0.out.c3 P0.out.lt
  have RQ := hide (Q0.out.range 0 10 (by decide))
  simp only [Nat.zero_add] at RQ
  have RI : Hid ((Try.prog.info? 26).map (·.size) = some (rowF (pc K X) 10).size) := hide (by rw [rowF_size]; kernel_rfl)
  have HQ := hide Q0.out.lt
  have HL := hide P0.out.lt
  clear P0 Q0
  generalize rowF (pc K X) 10 = R at *
  haveI := kept_some wa
  refine wp_region_kept (by kernel_rfl) (by kernel_rfl) ?_
  repeat (first
    | (refine wpQuiet_mid rfl 26 (.tmp 4) rfl (w.heap.size + 1) 0 rfl R _ (fun w' ⟨x, hx⟩ => by rw [hx]; intro j v hv; rw [x.cell (w.heap.size + 1) _ HQ.out]; exact RQ.out j v hv) Try.underlying26 rfl RI.out ?_; simp only [Act.put, List.setIfInBounds_toArray, List.set_cons_succ, List.set_cons_zero])
    | go_big_quiet_step ((go_at_call 9; exact kept_call (KR.out _ _))))
  refine wpQuiet_nil ?_
  rintro _ ⟨wk, rfl⟩
  have y0 := i0 wk
  have hl : w.heap.size < wk.val.heap.size := Nat.lt_of_lt_of_le HL.out wk.below.size
  have B1 := hide (bnext B0.out wk.below)
  generalize wk.val = w1 at *
  generalize hs0 : w.heap.size = s0 at *
  replace hs0 := hide hs0
  clear i0 i1 i2 i3 KR RQ HQ RI HL B0
  have l1 : s0 < w1.heap.size + 1 := by omega
  have l2 : s0 < w1.heap.size + 1 + 1 := by omega
  go_wp2_with fail
  refine under_calls fun wb hwb => ?_
  have PQ : HasP 23 wb w1.heap.size true false false 2 := by rw [hwb]; exact ((hasP_new _ _ _ _ _ _).next ((Below.refl _ _).alloc (Nat.le_refl _) _)).next ((Below.refl _ _).alloc (Nat.le_refl _) _)
  have PO : wb.heap[w1.heap.size + 1 + 1]? = some (.cells #[.int .i64 0, .bool false, .int .i64 0, .bool false, .int .i64 32, .bool false, .int .i64 0, .bool false, .int .i64 0, .bool false] 26 (0, 0)) := by
    have h := heap_alloc2_new (w1.alloc (.cells #[.bool true, .bool false, .bool false, .int .i64 2] 23)) (.cells #[.int .i64 0, .bool false, .int .i64 0, .bool false, .int .i64 0, .bool false, .int .i64 0, .bool false, .int .i64 0, .bool false] 26) (.cells #[.int .i64 0, .bool false, .int .i64 0, .bool false, .int .i64 32, .bool false, .int .i64 0, .bool false, .int .i64 0, .bool false] 26)
    rw [show (w1.alloc (.cells #[.bool true, .bool false, .bool false, .int .i64 2] 23)).heap.size + 1 = w1.heap.size + 1 + 1 by simp] at h
    rw [hwb]
    exact h
  have B2 := hide (show Below w.heap.size w wb by rw [hwb, hs0.out]; exact ((B1.out.alloc (Nat.le_of_lt hl) _).alloc (by simp; omega) _).alloc (by simp; omega) _)
  clear hwb
  refine (KN.out _).mono ?_
  rintro e w2 ⟨rfl, b2⟩
  have P2 := hide (PQ.next b2)
  have O2 := hide ((b2.block _ (lt_of_block PO)).trans PO)
  have B3 := hide (bnext B2.out b2)
  clear PQ PO b2 B2
  go_wp2_with (first
    | (refine wpList_load_want rfl 23 (.tmp 9) rfl w1.heap.size rfl _ _ _ _ P2.out Try.underlying23 rfl (by kernel_rfl) ?_)
    | (refine wpList_load_want rfl 26 (.tmp 11) rfl (w1.heap.size + 1 + 1) rfl _ _ _ _ O2.out Try.underlying26 rfl (by kernel_rfl) ?_))
  refine (KO.out _).mono ?_
  rintro e w3 ⟨rfl, b3⟩
  go_wp2_with fail
  go_ret
  exact ⟨rfl, bnext B3.out b3⟩
theorem none_on2 (w : World) : Calls Try.prog 9 #[.agg #[.bool true, .bool false, .bool false, .int .i64 2], .agg #[.int .i64 0, .bool false, .int .i64 0, .bool false, .int .i64 0, .bool false, .int .i64 0, .bool false, .int .i64 0, .bool false], .bool true] w fun e w' => e = Ending.returned (.int .i64 191) ∧ Below w.heap.size w w' := read_any true false false 2 (k1 0) nof true w
theorem one_on2 (w : World) : Calls Try.prog 9 #[.agg #[.bool true, .bool false, .bool false, .int .i64 2], .agg #[.int .i64 0, .bool false, .int .i64 0, .bool false, .int .i64 64, .bool false, .int .i64 0, .bool false, .int .i64 0, .bool false], .bool true] w fun e w' => e = Ending.returned (.int .i64 (191 - 4)) ∧ Below w.heap.size w w' := read_any true false false 2 (k1 64) nof true w
set_option maxHeartbeats 2000000 in
theorem upper_on2 (c d : Bool) (i : Int) (K : Nat → Int) (X : Nat → Bool) (k : Int) (hk : bits .and .i64 k 3 = 2) (w : World) :
    Calls Try.prog 6 #[.agg #[.bool true, .bool c, .bool d, .int .i64 i], .agg (rowF (pc K X) 10), .int .i64 k] w fun e w' => e = .returned (.bool true) ∧ Below w.heap.size w w' := by
  have KN := hide none_on2
  have KO := hide one_on2
  have hp := preOf_in true d i K X
  obtain ⟨F, hF⟩ : ∃ F : Bool → Int, ∀ ab, rdOf true d i K X ab = F ab := ⟨fun ab => rdOf true d i K X ab, fun _ => rfl⟩
  have KR : Hid (∀ (ab : Bool) (w : World), Calls Try.prog 9 #[.agg #[.bool true, .bool c, .bool d, .int .i64 i], .agg (rowF (pc K X) 10), .bool ab] w fun e w' => e = Ending.returned (.int .i64 (F ab)) ∧ Below w.heap.size w w') := hide (fun ab w => by rw [← hF ab]; exact read_any true c d i K X ab w)
  have ea : F true = 191 - preOf true d i K X := (hF true).symm
  have eb : F false = 255 - preOf true d i K X := (hF false).symm
  have ra := and_15 (F true)
  have rb := and_15 (F false)
  have rc : F false % 16 = F true % 16 := by omega
  rw [rc] at rb
  have a11 : F true / 16 = 11 := by omega
  have b15 : F false / 16 = 15 := by omega
  generalize F true % 16 = r at *
  clear hF ea eb hp rc
  have P0 := hide (show HasP 23 ((w.alloc (.cells #[.bool true, .bool c, .bool d, .int .i64 i] 23)).alloc (.cells (rowF (pc K X) 10) 26)) w.heap.size true c d i from (hasP_new _ _ _ _ _ _).next ((Below.refl _ _).alloc (Nat.le_refl _) _))
  have Q0 := hide (hasF_new2 26 w (.cells #[.bool true, .bool c, .bool d, .int .i64 i] 23) 10 (pc K X))
  go_enter Try.func6, Try.ntmps6
  go_wp2_with fail
  refine under_name fun wa hwa => ?_
  rw [← hwa] at P0 Q0
  have B0 := hide (show Below w.heap.size w wa by rw [hwa]; exact ((Below.refl _ w).alloc (Nat.le_refl _) _).alloc (by simp) _)
  clear hwa
  have i0 := kept_cell P0.out.c0 P0.out.lt
  have i1 := kept_cell P0.out.c1 P0.out.lt
  have i2 := kept_cell P0.out.c2 P0.out.lt
  have i3 := kept_cell P0.out.c3 P0.out.lt
  have RQ := hide (Q0.out.range 0 10 (by decide))
  simp only [Nat.zero_add] at RQ
  have RI : Hid ((Try.prog.info? 26).map (·.size) = some (rowF (pc K X) 10).size) := hide (by rw [rowF_size]; kernel_rfl)
  have HQ := hide Q0.out.lt
  have HL := hide P0.out.lt
  clear P0 Q0
  generalize rowF (pc K X) 10 = R at *
  haveI := kept_some wa
  refine wp_region_kept (by kernel_rfl) (by kernel_rfl) ?_
  repeat (first
    | (refine wpQuiet_mid rfl 26 (.tmp 4) rfl (w.heap.size + 1) 0 rfl R _ (fun w' ⟨x, hx⟩ => by rw [hx]; intro j v hv; rw [x.cell (w.heap.size + 1) _ HQ.out]; exact RQ.out j v hv) Try.underlying26 rfl RI.out ?_; simp only [Act.put, List.setIfInBounds_toArray, List.set_cons_succ, List.set_cons_zero])
    | go_big_quiet_step ((go_at_call 9; exact kept_call (KR.out _ _))))
  refine wpQuiet_nil ?_
  rintro _ ⟨wk, rfl⟩
  have y0 := i0 wk
  have hl : w.heap.size < wk.val.heap.size := Nat.lt_of_lt_of_le HL.out wk.below.size
  have B1 := hide (bnext B0.out wk.below)
  generalize wk.val = w1 at *
  generalize hs0 : w.heap.size = s0 at *
  replace hs0 := hide hs0
  clear i0 i1 i2 i3 KR RQ HQ RI HL B0
  have l1 : s0 < w1.heap.size + 1 := by omega
  have l2 : s0 < w1.heap.size + 1 + 1 := by omega
  go_wp2_with fail
  refine under_calls fun wb hwb => ?_
  have PQ : HasP 23 wb w1.heap.size true false false 2 := by rw [hwb]; exact ((hasP_new _ _ _ _ _ _).next ((Below.refl _ _).alloc (Nat.le_refl _) _)).next ((Below.refl _ _).alloc (Nat.le_refl _) _)
  have PO : wb.heap[w1.heap.size + 1 + 1]? = some (.cells #[.int .i64 0, .bool false, .int .i64 0, .bool false, .int .i64 64, .bool false, .int .i64 0, .bool false, .int .i64 0, .bool false] 26 (0, 0)) := by
    have h := heap_alloc2_new (w1.alloc (.cells #[.bool true, .bool false, .bool false, .int .i64 2] 23)) (.cells #[.int .i64 0, .bool false, .int .i64 0, .bool false, .int .i64 0, .bool false, .int .i64 0, .bool false, .int .i64 0, .bool false] 26) (.cells #[.int .i64 0, .bool false, .int .i64 0, .bool false, .int .i64 64, .bool false, .int .i64 0, .bool false, .int .i64 0, .bool false] 26)
    rw [show (w1.alloc (.cells #[.bool true, .bool false, .bool false, .int .i64 2] 23)).heap.size + 1 = w1.heap.size + 1 + 1 by simp] at h
    rw [hwb]
    exact h
  have B2 := hide (show Below w.heap.size w wb by rw [hwb, hs0.out]; exact ((B1.out.alloc (Nat.le_of_lt hl) _).alloc (by simp; omega) _).alloc (by simp; omega) _)
  clear hwb
  refine (KN.out _).mono ?_
  rintro e w2 ⟨rfl, b2⟩
  have P2 := hide (PQ.next b2)
  have O2 := hide ((b2.block _ (lt_of_block PO)).trans PO)
  have B3 := hide (bnext B2.out b2)
  clear PQ PO b2 B2
  go_wp2_with (first
    | (refine wpList_load_want rfl 23 (.tmp 9) rfl w1.heap.size rfl _ _ _ _ P2.out Try.underlying23 rfl (by kernel_rfl) ?_)
    | (refine wpList_load_want rfl 26 (.tmp 11) rfl (w1.heap.size + 1 + 1) rfl _ _ _ _ O2.out Try.underlying26 rfl (by kernel_rfl) ?_))
  refine (KO.out _).mono ?_
  rintro e w3 ⟨rfl, b3⟩
  go_wp2_with fail
  go_ret
  exact ⟨rfl, bnext B3.out b3⟩
theorem none_on3 (w : World) : Calls Try.prog 9 #[.agg #[.bool true, .bool false, .bool false, .int .i64 2], .agg #[.int .i64 0, .bool false, .int .i64 0, .bool false, .int .i64 0, .bool false, .int .i64 0, .bool false, .int .i64 0, .bool false], .bool true] w fun e w' => e = Ending.returned (.int .i64 191) ∧ Below w.heap.size w w' := read_any true false false 2 (k1 0) nof true w
theorem one_on3 (w : World) : Calls Try.prog 9 #[.agg #[.bool true, .bool false, .bool false, .int .i64 2], .agg #[.int .i64 0, .bool false, .int .i64 0, .bool false, .int .i64 128, .bool false, .int .i64 0, .bool false, .int .i64 0, .bool false], .bool true] w fun e w' => e = Ending.returned (.int .i64 (191 - 8)) ∧ Below w.heap.size w w' := read_any true false false 2 (k1 128) nof true w
set_option maxHeartbeats 2000000 in
theorem upper_on3 (c d : Bool) (i : Int) (K : Nat → Int) (X : Nat → Bool) (k : Int) (hk : bits .and .i64 k 3 = 3) (w : World) :
    Calls Try.prog 6 #[.agg #[.bool true, .bool c, .bool d, .int .i64 i], .agg (rowF (pc K X) 10), .int .i64 k] w fun e w' => e = .returned (.bool true) ∧ Below w.heap.size w w' := by
  have KN := hide none_on3
  have KO := hide one_on3
  have hp := preOf_in true d i K X
  obtain ⟨F, hF⟩ : ∃ F : Bool → Int, ∀ ab, rdOf true d i K X ab = F ab := ⟨fun ab => rdOf true d i K X ab, fun _ => rfl⟩
  have KR : Hid (∀ (ab : Bool) (w : World), Calls Try.prog 9 #[.agg #[.bool true, .bool c, .bool d, .int .i64 i], .agg (rowF (pc K X) 10), .bool ab] w fun e w' => e = Ending.returned (.int .i64 (F ab)) ∧ Below w.heap.size w w') := hide (fun ab w => by rw [← hF ab]; exact read_any true c d i K X ab w)
  have ea : F true = 191 - preOf true d i K X := (hF true).symm
  have eb : F false = 255 - preOf true d i K X := (hF false).symm
  have ra := and_15 (F true)
  have rb := and_15 (F false)
  have rc : F false % 16 = F true % 16 := by omega
  rw [rc] at rb
  have a11 : F true / 16 = 11 := by omega
  have b15 : F false / 16 = 15 := by omega
  generalize F true % 16 = r at *
  clear hF ea eb hp rc
  have P0 := hide (show HasP 23 ((w.alloc (.cells #[.bool true, .bool c, .bool d, .int .i64 i] 23)).alloc (.cells (rowF (pc K X) 10) 26)) w.heap.size true c d i from (hasP_new _ _ _ _ _ _).next ((Below.refl _ _).alloc (Nat.le_refl _) _))
  have Q0 := hide (hasF_new2 26 w (.cells #[.bool true, .bool c, .bool d, .int .i64 i] 23) 10 (pc K X))
  go_enter Try.func6, Try.ntmps6
  go_wp2_with fail
  refine under_name fun wa hwa => ?_
  rw [← hwa] at P0 Q0
  have B0 := hide (show Below w.heap.size w wa by rw [hwa]; exact ((Below.refl _ w).alloc (Nat.le_refl _) _).alloc (by simp) _)
  clear hwa
  have i0 := kept_cell P0.out.c0 P0.out.lt
  have i1 := kept_cell P0.out.c1 P0.out.lt
  have i2 := kept_cell P0.out.c2 P0.out.lt
  have i3 := kept_cell P0.out.c3 P0.out.lt
  have RQ := hide (Q0.out.range 0 10 (by decide))
  simp only [Nat.zero_add] at RQ
  have RI : Hid ((Try.prog.info? 26).map (·.size) = some (rowF (pc K X) 10).size) := hide (by rw [rowF_size]; kernel_rfl)
  have HQ := hide Q0.out.lt
  have HL := hide P0.out.lt
  clear P0 Q0
  generalize rowF (pc K X) 10 = R at *
  haveI := kept_some wa
  refine wp_region_kept (by kernel_rfl) (by kernel_rfl) ?_
  repeat (first
    | (refine wpQuiet_mid rfl 26 (.tmp 4) rfl (w.heap.size + 1) 0 rfl R _ (fun w' ⟨x, hx⟩ => by rw [hx]; intro j v hv; rw [x.cell (w.heap.size + 1) _ HQ.out]; exact RQ.out j v hv) Try.underlying26 rfl RI.out ?_; simp only [Act.put, List.setIfInBounds_toArray, List.set_cons_succ, List.set_cons_zero])
    | go_big_quiet_step ((go_at_call 9; exact kept_call (KR.out _ _))))
  refine wpQuiet_nil ?_
  rintro _ ⟨wk, rfl⟩
  have y0 := i0 wk
  have hl : w.heap.size < wk.val.heap.size := Nat.lt_of_lt_of_le HL.out wk.below.size
  have B1 := hide (bnext B0.out wk.below)
  generalize wk.val = w1 at *
  generalize hs0 : w.heap.size = s0 at *
  replace hs0 := hide hs0
  clear i0 i1 i2 i3 KR RQ HQ RI HL B0
  have l1 : s0 < w1.heap.size + 1 := by omega
  have l2 : s0 < w1.heap.size + 1 + 1 := by omega
  go_wp2_with fail
  refine under_calls fun wb hwb => ?_
  have PQ : HasP 23 wb w1.heap.size true false false 2 := by rw [hwb]; exact ((hasP_new _ _ _ _ _ _).next ((Below.refl _ _).alloc (Nat.le_refl _) _)).next ((Below.refl _ _).alloc (Nat.le_refl _) _)
  have PO : wb.heap[w1.heap.size + 1 + 1]? = some (.cells #[.int .i64 0, .bool false, .int .i64 0, .bool false, .int .i64 128, .bool false, .int .i64 0, .bool false, .int .i64 0, .bool false] 26 (0, 0)) := by
    have h := heap_alloc2_new (w1.alloc (.cells #[.bool true, .bool false, .bool false, .int .i64 2] 23)) (.cells #[.int .i64 0, .bool false, .int .i64 0, .bool false, .int .i64 0, .bool false, .int .i64 0, .bool false, .int .i64 0, .bool false] 26) (.cells #[.int .i64 0, .bool false, .int .i64 0, .bool false, .int .i64 128, .bool false, .int .i64 0, .bool false, .int .i64 0, .bool false] 26)
    rw [show (w1.alloc (.cells #[.bool true, .bool false, .bool false, .int .i64 2] 23)).heap.size + 1 = w1.heap.size + 1 + 1 by simp] at h
    rw [hwb]
    exact h
  have B2 := hide (show Below w.heap.size w wb by rw [hwb, hs0.out]; exact ((B1.out.alloc (Nat.le_of_lt hl) _).alloc (by simp; omega) _).alloc (by simp; omega) _)
  clear hwb
  refine (KN.out _).mono ?_
  rintro e w2 ⟨rfl, b2⟩
  have P2 := hide (PQ.next b2)
  have O2 := hide ((b2.block _ (lt_of_block PO)).trans PO)
  have B3 := hide (bnext B2.out b2)
  clear PQ PO b2 B2
  go_wp2_with (first
    | (refine wpList_load_want rfl 23 (.tmp 9) rfl w1.heap.size rfl _ _ _ _ P2.out Try.underlying23 rfl (by kernel_rfl) ?_)
    | (refine wpList_load_want rfl 26 (.tmp 11) rfl (w1.heap.size + 1 + 1) rfl _ _ _ _ O2.out Try.underlying26 rfl (by kernel_rfl) ?_))
  refine (KO.out _).mono ?_
  rintro e w3 ⟨rfl, b3⟩
  go_wp2_with fail
  go_ret
  exact ⟨rfl, bnext B3.out b3⟩
theorem padUpper_walk (s c d : Bool) (i : Int) (K : Nat → Int) (X : Nat → Bool) (k : Int) (w0 : (Lit.int .i64 i).wf = true) (w1 : ∀ j, j < 5 → (Lit.int .i64 (K j)).wf = true) (w2 : (Lit.int .i64 k).wf = true) (w : World) :
    Calls Try.prog 6 #[.agg #[.bool s, .bool c, .bool d, .int .i64 i], .agg (rowF (pc K X) 10), .int .i64 k] w fun e w' => e = .returned (.bool true) ∧ Below w.heap.size w w' := by
  have e := and_3 k
  rcases (show k % 4 = 0 ∨ k % 4 = 1 ∨ k % 4 = 2 ∨ k % 4 = 3 by omega) with h | h | h | h <;> rw [h] at e <;> cases s
  · exact upper_off0 c d i K X k e w
  · exact upper_on0 c d i K X k e w
  · exact upper_off1 c d i K X k e w
  · exact upper_on1 c d i K X k e w
  · exact upper_off2 c d i K X k e w
  · exact upper_on2 c d i K X k e w
  · exact upper_off3 c d i K X k e w
  · exact upper_on3 c d i K X k e w

set_option maxRecDepth 100000 in
theorem padUpper_lifted (os : Os) (started : os.Started) (H : Type) (enc : TypeId × Value → H) :
    ReturnsInHanded {} Try.checked os 6 .any (Rows.padUpperSpec.pre6 enc Try.prog Try.f6 Rows.padUpperRow.domain false) (Rows.padUpperSpec.post enc Try.prog Try.f6 false true false false) := by
  refine returnsInHanded_of_change (C := Try.checked) own started (by kernel_rfl) Try.func6
    (ChangeSpec.witness6 (enc := enc) (C := Try.checked) false ⟨#[], #[.agg #[.bool false, .bool false, .bool false, .int .i64 0], .agg #[.int .i64 0, .bool false, .int .i64 0, .bool false, .int .i64 0, .bool false, .int .i64 0, .bool false, .int .i64 0, .bool false], .int .i64 0], []⟩ 8 (by kernel_rfl) (by kernel_rfl) (by kernel_rfl) (by kernel_rfl)) ?_
  intro W base args ds gs before hval0 hW hcnd _
  have hval : ∀ (j : Nat) t v, Try.f6.params[j]? = some t → args[j]? = some v → Value.okWide Try.prog W .any base t v := hval0
  have hW' := hW
  obtain ⟨p, q, hA0, hV, rfl, hfz, hnd⟩ := hW
  have hA : DataW.TrodAll enc Try.prog W 0 (fun _ => true) true Try.f6.params.toList args.toList ds p := hA0
  rw [Try.params6] at hA hval
  obtain ⟨v0, vs0, d0, ds0, p0, q0, hargs, rfl, rfl, h0, r0⟩ := trodAll_cons hA
  obtain ⟨v1, vs1, d1, ds1, p1, q1, rfl, rfl, rfl, h1, r1⟩ := trodAll_cons r0
  obtain ⟨v2, vs2, d2, ds2, p2, q2, rfl, rfl, rfl, h2, r2⟩ := trodAll_cons r1
  obtain ⟨rfl, rfl, rfl⟩ := trodAll_nil r2
  obtain rfl : args = #[v0, v1, v2] := by cases args; simp_all
  obtain ⟨rfl, rfl⟩ := trodVars_none hV
  have k0 := h0
  have lt0 : ∀ x ∈ p0, x.block < W.heap.size := by obtain ⟨m, hm⟩ := k0; exact DataW.trod_lt m _ _ _ hm
  obtain ⟨cs0, fu0, rfl, sz0, hf0⟩ := open_struct_cells (n := 4) Try.underlying23 (by kernel_rfl) (hval 0 23 v0 rfl rfl) h0
  obtain ⟨y0f0, hy0f0⟩ := hf0 0 _ rfl
  obtain ⟨a0f0, g0f0, _⟩ := DataW.trod_bool Try.underlying4 hy0f0
  have e0f0 := cell_at (by kernel_rfl) g0f0
  obtain ⟨y0f1, hy0f1⟩ := hf0 1 _ rfl
  obtain ⟨a0f1, g0f1, _⟩ := DataW.trod_bool Try.underlying4 hy0f1
  have e0f1 := cell_at (by kernel_rfl) g0f1
  obtain ⟨y0f2, hy0f2⟩ := hf0 2 _ rfl
  obtain ⟨a0f2, g0f2, _⟩ := DataW.trod_bool Try.underlying4 hy0f2
  have e0f2 := cell_at (by kernel_rfl) g0f2
  obtain ⟨y0f3, hy0f3⟩ := hf0 3 _ rfl
  obtain ⟨a0f3, g0f3, _, w0f3⟩ := DataW.trod_int Try.underlying3 hy0f3
  have e0f3 := cell_at (by kernel_rfl) g0f3
  obtain rfl : cs0 = #[.bool a0f0, .bool a0f1, .bool a0f2, .int .i64 a0f3] := cells_are [.bool a0f0, .bool a0f1, .bool a0f2, .int .i64 a0f3] sz0 (fun j hj => by
    rcases j with _ | _ | _ | _ | j
    · exact e0f0
    · exact e0f1
    · exact e0f2
    · exact e0f3
    · exact absurd hj (by simp only [List.length_cons, List.length_nil]; omega))
  clear hy0f0 g0f0 e0f0 hy0f1 g0f1 e0f1 hy0f2 g0f2 e0f2 hy0f3 g0f3 e0f3 sz0 hf0
  have kk1 := h1
  have lt1 : ∀ x ∈ p1, x.block < W.heap.size := by obtain ⟨m, hm⟩ := kk1; exact DataW.trod_lt m _ _ _ hm
  obtain ⟨k1, x1, rfl, w1⟩ := open_pads (n := 5) Try.underlying26 (by kernel_rfl) Try.underlying25 (by kernel_rfl) rfl rfl (by kernel_rfl) Try.underlying3 rfl rfl (by kernel_rfl) Try.underlying4 (hval 1 26 v1 rfl rfl) h1
  obtain ⟨a2, rfl, rfl, rfl, w2⟩ := open_int Try.underlying3 (hval 2 3 v2 rfl rfl) h2
  clear hA0 hval0
  refine (padUpper_walk a0f0 a0f1 a0f2 a0f3 k1 x1 a2 w0f3 w1 w2 W).mono fun e W' ⟨he, bel⟩ => ?_
  subst he
  exact ⟨_, rfl, _, _, _, [], _, [], hW', trodAll_mk1 (shut_bool Try.underlying4 _), (trodAll_cons_mk (Below.trod laidOut (by kernel_rfl) (of_decide_eq_true (by kernel_rfl)) k0 bel lt0) (trodAll_cons_mk (Below.trod laidOut (by kernel_rfl) (of_decide_eq_true (by kernel_rfl)) kk1 bel lt1) (trodAll_cons_mk (shut_int Try.underlying3 w2) trodAll_mk0))), rfl, bel.frame _, fun h => by cases h⟩

theorem padUpper_over : Rows.padUpperRow.holds Try.pinned (OpenSpec.ofChange Rows.padUpperSpec) :=
  OpenClaim.holds_of_wide 6 Try.f6 rfl rfl rfl rfl rfl rfl rfl ⟨rfl, rfl, rfl, rfl, rfl⟩ rfl rfl rfl rfl rfl (by kernel_rfl) Try.func6 (by kernel_rfl)
    (of_decide_eq_true (by kernel_rfl)) (by unfold Func.isWrapper; first | (rw [if_pos (by decide +kernel)]; kernel_rfl) | (rw [if_neg (by decide +kernel)]; exact ⟨rfl, rfl⟩))
    (fun os started H enc _ => padUpper_lifted os started H enc)

theorem padUpper_holds : Rows.PadUpperSaid := padUpper_over
#print axioms padUpper_holds
end Go.Proofs.Ytliedfjaeakgeaa
