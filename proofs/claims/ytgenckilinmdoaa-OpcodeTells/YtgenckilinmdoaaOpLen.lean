/- How many bytes a mode has: three maps of at most eight modes each, made and asked in one call. -/
import Derived.Test.YtgenckilinmdoaaRows
import Derived.Test.YtgenckilinmdoaaPlain
import Derived.Test.YtgenckilinmdoaaKit
import Derived.Test.YtgenckilinmdoaaOpTab
import Derived.Maps.Own
import Derived.Maps.OwnOps
import Derived.WalkKit
import Derived.Below
namespace Go.Proofs.Ytgenckilinmdoaa
open Go.RowKit Go.Maps
set_option linter.unusedVariables false
set_option maxRecDepth 20000

theorem keyI : Keyed Try.prog 3 := int_keyed Try.underlying3
theorem zeroI (w : World) : (zeroValue 3).run Try.prog w = .ok (.int .i64 0) w := by kernel_rfl

/-- A constant pair laid into a map of the call's own: SOME world in which the map has it. -/
theorem put_in {w0 w : World} {b n : Nat} {D : DataW Unit} (h : w.ownsMap Try.prog 3 (plainElem Try.prog 3) b n D) (hw : Below b w0 w) (hn : n < 100) (k v : Int) (hk : (Lit.int .i64 k).wf = true) (hv : (Lit.int .i64 v).wf = true) :
    ∃ w', (∀ t, t = 46 → (Instr.mapUpdate t (.map (some b)) (.int .i64 k) (.int .i64 v)).run Try.prog w = .ok () w') ∧ w'.ownsMap Try.prog 3 (plainElem Try.prog 3) b (n + 1) (D.put (.int .i64 k) (.lit (.int .i64 v))) ∧ Below b w0 w' := by
  obtain ⟨w', hrun, r1, r2⟩ := h.update keyI Try.underlying46 (by unfold maxLen; omega) (keyOf_int_mk Try.underlying3 hk) (plainElem_int Try.underlying3 hv)
  exact ⟨w', fun t e => by rw [e]; exact hrun, r1, hw.grown r2 (Nat.le_of_lt h.lt) (fun j hj => by cases hj; exact Nat.le_refl _)⟩
theorem len_a (m : Int) (w : World) (h0 : 0 ≤ m) (h1 : m < 8) : Calls Try.prog 15 #[.int .i64 m] w fun e w' => e = .returned (.int .i64 (lenM m)) ∧ Below w.heap.size w w' := by
  have hwf : (Lit.int .i64 m).wf = true := WalkArith.wf_i64 (by omega)
  have hmm := @run_makeMap Try.prog
  have o0 := World.ownsMap_made w Try.prog 3 (plainElem (H := Unit) Try.prog 3)
  have b0 := (Below.refl w.heap.size w).alloc (Nat.le_refl _) (.map #[] 0)
  obtain ⟨w1, r1, o1, b1⟩ := put_in o0 b0 (by omega) 0 1 (by decide) (by decide)
  replace r1 := r1 46 rfl
  obtain ⟨w2, r2, o2, b2⟩ := put_in o1 b1 (by omega) 1 1 (by decide) (by decide)
  replace r2 := r2 46 rfl
  obtain ⟨w3, r3, o3, b3⟩ := put_in o2 b2 (by omega) 2 2 (by decide) (by decide)
  replace r3 := r3 46 rfl
  obtain ⟨w4, r4, o4, b4⟩ := put_in o3 b3 (by omega) 3 2 (by decide) (by decide)
  replace r4 := r4 46 rfl
  obtain ⟨w5, r5, o5, b5⟩ := put_in o4 b4 (by omega) 4 2 (by decide) (by decide)
  replace r5 := r5 46 rfl
  obtain ⟨w6, r6, o6, b6⟩ := put_in o5 b5 (by omega) 5 2 (by decide) (by decide)
  replace r6 := r6 46 rfl
  obtain ⟨w7, r7, o7, b7⟩ := put_in o6 b6 (by omega) 6 2 (by decide) (by decide)
  replace r7 := r7 46 rfl
  obtain ⟨w8, r8, o8, b8⟩ := put_in o7 b7 (by omega) 7 2 (by decide) (by decide)
  replace r8 := r8 46 rfl
  obtain ⟨c, hrun, hat, hwc⟩ := o8.lookup_int keyI Try.underlying46 Try.underlying3 (zeroI _) (keyOf_int_mk Try.underlying3 hwf)
  have HA := hide hat
  have BB := hide b8
  clear hat hwc
  clear o0 o1 o2 o3 o4 o5 o6 o7 o8 b0 b1 b2 b3 b4 b5 b6 b7 b8
  go_enter Try.func15, Try.ntmps15
  go_wp2
  go_ret
  refine ⟨ret_int ?_, BB.out⟩
  have hat := HA.out
  have hm : m = 0 ∨ m = 1 ∨ m = 2 ∨ m = 3 ∨ m = 4 ∨ m = 5 ∨ m = 6 ∨ m = 7 := by omega
  rcases hm with rfl | rfl | rfl | rfl | rfl | rfl | rfl | rfl
  all_goals
    simp [DataW.put, DataW.insert, DataW.atKey, Lit.sameKey, Lit.before] at hat
    rw [← hat]
    rfl
theorem len_b (m : Int) (w : World) (h0 : 8 ≤ m) (h1 : m < 16) : Calls Try.prog 15 #[.int .i64 m] w fun e w' => e = .returned (.int .i64 (lenM m)) ∧ Below w.heap.size w w' := by
  have hwf : (Lit.int .i64 m).wf = true := WalkArith.wf_i64 (by omega)
  have hd : m / 8 = 1 := by omega
  have hmm := @run_makeMap Try.prog
  have o0 := World.ownsMap_made w Try.prog 3 (plainElem (H := Unit) Try.prog 3)
  have b0 := (Below.refl w.heap.size w).alloc (Nat.le_refl _) (.map #[] 0)
  obtain ⟨w1, r1, o1, b1⟩ := put_in o0 b0 (by omega) 8 2 (by decide) (by decide)
  replace r1 := r1 46 rfl
  obtain ⟨w2, r2, o2, b2⟩ := put_in o1 b1 (by omega) 9 3 (by decide) (by decide)
  replace r2 := r2 46 rfl
  obtain ⟨w3, r3, o3, b3⟩ := put_in o2 b2 (by omega) 10 3 (by decide) (by decide)
  replace r3 := r3 46 rfl
  obtain ⟨w4, r4, o4, b4⟩ := put_in o3 b3 (by omega) 11 3 (by decide) (by decide)
  replace r4 := r4 46 rfl
  obtain ⟨w5, r5, o5, b5⟩ := put_in o4 b4 (by omega) 12 3 (by decide) (by decide)
  replace r5 := r5 46 rfl
  obtain ⟨w6, r6, o6, b6⟩ := put_in o5 b5 (by omega) 13 3 (by decide) (by decide)
  replace r6 := r6 46 rfl
  obtain ⟨w7, r7, o7, b7⟩ := put_in o6 b6 (by omega) 14 2 (by decide) (by decide)
  replace r7 := r7 46 rfl
  obtain ⟨w8, r8, o8, b8⟩ := put_in o7 b7 (by omega) 15 3 (by decide) (by decide)
  replace r8 := r8 46 rfl
  obtain ⟨c, hrun, hat, hwc⟩ := o8.lookup_int keyI Try.underlying46 Try.underlying3 (zeroI _) (keyOf_int_mk Try.underlying3 hwf)
  have HA := hide hat
  have BB := hide b8
  clear hat hwc
  clear o0 o1 o2 o3 o4 o5 o6 o7 o8 b0 b1 b2 b3 b4 b5 b6 b7 b8
  go_enter Try.func15, Try.ntmps15
  go_wp2
  go_ret
  refine ⟨ret_int ?_, BB.out⟩
  have hat := HA.out
  have hm : m = 8 ∨ m = 9 ∨ m = 10 ∨ m = 11 ∨ m = 12 ∨ m = 13 ∨ m = 14 ∨ m = 15 := by omega
  clear hd
  rcases hm with rfl | rfl | rfl | rfl | rfl | rfl | rfl | rfl
  all_goals
    simp [DataW.put, DataW.insert, DataW.atKey, Lit.sameKey, Lit.before] at hat
    rw [← hat]
    rfl
theorem len_c (m : Int) (w : World) (h0 : 16 ≤ m) (h1 : m < 21) : Calls Try.prog 15 #[.int .i64 m] w fun e w' => e = .returned (.int .i64 (lenM m)) ∧ Below w.heap.size w w' := by
  have hwf : (Lit.int .i64 m).wf = true := WalkArith.wf_i64 (by omega)
  have hd : m / 8 = 2 := by omega
  have hmm := @run_makeMap Try.prog
  have o0 := World.ownsMap_made w Try.prog 3 (plainElem (H := Unit) Try.prog 3)
  have b0 := (Below.refl w.heap.size w).alloc (Nat.le_refl _) (.map #[] 0)
  obtain ⟨w1, r1, o1, b1⟩ := put_in o0 b0 (by omega) 16 7 (by decide) (by decide)
  replace r1 := r1 46 rfl
  obtain ⟨w2, r2, o2, b2⟩ := put_in o1 b1 (by omega) 17 3 (by decide) (by decide)
  replace r2 := r2 46 rfl
  obtain ⟨w3, r3, o3, b3⟩ := put_in o2 b2 (by omega) 18 3 (by decide) (by decide)
  replace r3 := r3 46 rfl
  obtain ⟨w4, r4, o4, b4⟩ := put_in o3 b3 (by omega) 19 4 (by decide) (by decide)
  replace r4 := r4 46 rfl
  obtain ⟨w5, r5, o5, b5⟩ := put_in o4 b4 (by omega) 20 4 (by decide) (by decide)
  replace r5 := r5 46 rfl
  obtain ⟨c, hrun, hat, hwc⟩ := o5.lookup_int keyI Try.underlying46 Try.underlying3 (zeroI _) (keyOf_int_mk Try.underlying3 hwf)
  have HA := hide hat
  have BB := hide b5
  clear hat hwc
  clear o0 o1 o2 o3 o4 o5 b0 b1 b2 b3 b4 b5
  go_enter Try.func15, Try.ntmps15
  go_wp2
  go_ret
  refine ⟨ret_int ?_, BB.out⟩
  have hat := HA.out
  have hm : m = 16 ∨ m = 17 ∨ m = 18 ∨ m = 19 ∨ m = 20 := by omega
  clear hd
  rcases hm with rfl | rfl | rfl | rfl | rfl
  all_goals
    simp [DataW.put, DataW.insert, DataW.atKey, Lit.sameKey, Lit.before] at hat
    rw [← hat]
    rfl
theorem len_any (m : Int) (w : World) (h0 : 0 ≤ m) (h1 : m ≤ 20) : Calls Try.prog 15 #[.int .i64 m] w fun e w' => e = .returned (.int .i64 (lenM m)) ∧ Below w.heap.size w w' := by
  by_cases k : m < 8
  · exact len_a m w h0 k
  · by_cases k1 : m < 16
    · exact len_b m w (by omega) k1
    · exact len_c m w (by omega) (by omega)
end Go.Proofs.Ytgenckilinmdoaa
