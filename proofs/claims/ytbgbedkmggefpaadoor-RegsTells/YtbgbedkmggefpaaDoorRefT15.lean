/- The document's own answer for layer 15: the contracts of Far, Map, Raster, effect. -/
import Derived.Test.YtbgbedkmggefpaaDoorTells15
import Derived.Test.YtbgbedkmggefpaaDoorRegs15
import Derived.Test.YtbgbedkmggefpaaDoorMade1
namespace Go.Proofs.YtbgbedkmggefpaaDoor
open Go.RowKit
set_option linter.unusedVariables false

theorem rfar_any (s : Int) (f : Nat → Int) (p : Nat) (hp : pairOf (f 5) 11 = p) (w : World) : Calls Tryd.prog 12 #[.agg (rowG s f)] w fun e w' => e = .returned (.int .i64 (farOf p)) ∧ Below w.heap.size w w' := by
  have hp4 : p < 4 := by rw [← hp]; exact pairOf_lt _ _
  have hs : bitOf (f 5) 11 + 2 * bitOf (f 5) 12 = (p : Int) := by rw [← hp]; exact pairOf_is (f 5) 11
  have b1 := bitOf_01 (f 5) 11
  have b2 := bitOf_01 (f 5) 12
  have V := hide (hasG_new 28 w s f)
  have B := hide ((Below.refl _ w).alloc (Nat.le_refl _) (.cells (rowG s f) 28))
  have HR := hide (fun k => rbit_any (f 5) k)
  clear hp
  go_enter Tryd.func12, Tryd.ntmps12
  go_wp2_with fail
  refine named_code fun wr hwr => ?_
  rw [← hwr] at V B
  clear hwr
  refine wp_region_made _ _ _ _ (show _ = _ :: [_, _, _, _, _, _, _, _, _, _] ++ [_, _, _] from rfl) rfl 16 3 (fun g => .slice (some ⟨g, 0, none⟩) 4 4) (farL.map (Value.int .i64)).toArray 3 (by kernel_rfl) (by kernel_rfl) (by kernel_rfl) (by kernel_rfl) (by kernel_rfl) rfl rfl rfl rfl (by decide) ?_ ?_
  · intro a w
    kernel_rfl
  apply Exists.intro
  refine ⟨fun W hW => ?_, ?_⟩
  · have VW := V.out.next hW
    have k5 : ∀ x : Kept W, x.val.cell? ⟨w.heap.size, 6, none⟩ = some (.int .i64 (f 5)) := kept_cell (VW.at 5 (by decide)) VW.lt
    clear VW
    haveI := kept_some W
    repeat (go_big_quiet_step ((go_at_call 28; exact kept_same (HR.out _ _))))
    refine wpQuiet_nil ?_
    rfl
  intro g wx bx hg lg
  have hz := (cell_of_row wx g p _ _ _ hg).trans (four_at farL rfl p hp4)
  clear hg
  replace B := hide (bnext B.out bx)
  generalize hx : farL.getD p 0 = x at hz
  have HX := hide (show farOf p = x from hx)
  clear hx bx V b1 b2 hs
  simp only [Act.put, List.setIfInBounds_toArray, List.set_cons_succ, List.set_cons_zero]
  go_wp2_with fail
  go_ret
  exact ⟨ret_int HX.out.symm, B.out⟩
theorem rmap_any (s : Int) (f : Nat → Int) (p q : Nat) (hp : pairOf (f 9) 4 = p) (hq : bitOf (f 9) 6 = (q : Int)) (w : World) : Calls Tryd.prog 10 #[.agg (rowG s f)] w fun e w' => e = .returned (.tuple #[.int .i64 (wideOf p), .int .i64 (highOf2 q)]) ∧ Below w.heap.size w w' := by
  have hp4 : p < 4 := by rw [← hp]; exact pairOf_lt _ _
  have hs : bitOf (f 9) 4 + 2 * bitOf (f 9) 5 = (p : Int) := by rw [← hp]; exact pairOf_is (f 9) 4
  have b1 := bitOf_01 (f 9) 4
  have b2 := bitOf_01 (f 9) 5
  have hq2 : q < 2 := by have := bitOf_01 (f 9) 6; omega
  have V := hide (hasG_new 28 w s f)
  have B := hide ((Below.refl _ w).alloc (Nat.le_refl _) (.cells (rowG s f) 28))
  have HR := hide (fun k => rbit_any (f 9) k)
  have CB := hide (rbit_any (f 9) 6)
  rw [hq] at CB
  clear hp hq
  go_enter Tryd.func10, Tryd.ntmps10
  go_wp2_with fail
  refine named_code fun wr hwr => ?_
  rw [← hwr] at V B
  clear hwr
  refine wp_region_made _ _ _ _ (show _ = _ :: [_, _, _, _, _, _, _, _, _, _] ++ [_, _, _] from rfl) rfl 25 5 (fun g => .slice (some ⟨g, 0, none⟩) 4 4) (wideL.map (Value.int .i64)).toArray 3 (by kernel_rfl) (by kernel_rfl) (by kernel_rfl) (by kernel_rfl) (by kernel_rfl) rfl rfl rfl rfl (by decide) ?_ ?_
  · intro a w
    kernel_rfl
  apply Exists.intro
  refine ⟨fun W hW => ?_, ?_⟩
  · have VW := V.out.next hW
    have k9 : ∀ x : Kept W, x.val.cell? ⟨w.heap.size, 10, none⟩ = some (.int .i64 (f 9)) := kept_cell (VW.at 9 (by decide)) VW.lt
    clear VW
    haveI := kept_some W
    repeat (go_big_quiet_step ((go_at_call 28; exact kept_same (HR.out _ _))))
    refine wpQuiet_nil ?_
    rfl
  intro g wx bx hg lg
  have hz := (cell_of_row wx g p _ _ _ hg).trans (four_at wideL rfl p hp4)
  have c9 : wx.cell? ⟨w.heap.size, 10, none⟩ = some (.int .i64 (f 9)) := (V.out.next bx).at 9 (by decide)
  clear hg
  replace B := hide (bnext B.out bx)
  generalize hx : wideL.getD p 0 = x at hz
  have HX := hide (show wideOf p = x from hx)
  have HY := hide (show highOf2 q = 32 + 32 * (q : Int) by
    rcases q with _ | _ | q
    · rfl
    · rfl
    · omega)
  clear hx bx V b1 b2 hs HR
  simp only [Act.put, List.setIfInBounds_toArray, List.set_cons_succ, List.set_cons_zero]
  go_wp2_with (first | (go_at_call 28; refine (CB.out _).mono ?_; rintro e w' ⟨rfl, hw⟩; subst w'))
  go_ret2
  exact ⟨ret_two HX.out.symm HY.out.symm, B.out⟩
theorem rraster_any (s : Int) (f : Nat → Int) (l : Int) (t : Int) (ht : f 6 % 65536 = t) (w : World) : Calls Tryd.prog 15 #[.agg (rowG s f), .int .i64 l] w fun e w' => e = .returned (.bool (rasOf t l)) ∧ Below w.heap.size w w' := by
  have c6 : (w.alloc (.cells (rowG s f) 28)).cell? ⟨w.heap.size, 7, none⟩ = some (.int .i64 (f 6)) := (hasG_new 28 w s f).at 6 (by decide)
  have B := hide ((Below.refl _ w).alloc (Nat.le_refl _) (.cells (rowG s f) 28))
  have t0 : 0 ≤ t := by omega
  have t1 : t < 65536 := by omega
  have CW := hide (rword_any (f 6))
  rw [ht] at CW
  clear ht
  by_cases h : 64 ≤ t
  · have HR := hide (show rasOf t l = (l == t - 64) by unfold rasOf; by_cases k : l = t - 64 <;> simp [h, k])
    go_enter Tryd.func15, Tryd.ntmps15
    go_wp2_with (first | (go_at_call 22; refine (CW.out _).mono ?_; rintro e w' ⟨rfl, hw⟩; subst w'))
    go_ret
    exact ⟨ret_bool HR.out.symm, B.out⟩
  · have HR := hide (show rasOf t l = false by unfold rasOf; exact decide_eq_false (fun k => h k.1))
    go_enter Tryd.func15, Tryd.ntmps15
    go_wp2_with (first | (go_at_call 22; refine (CW.out _).mono ?_; rintro e w' ⟨rfl, hw⟩; subst w'))
    go_ret
    exact ⟨ret_bool HR.out.symm, B.out⟩
theorem effect_any (s a x : Int) (ha : a = 2 ∨ a = 3) (hx : bringsOf s a = x) (w : World) : Calls Tryd.prog 25 #[.int .i64 s, .int .i64 a] w fun e w' => e = .returned (.int .i64 x) ∧ w' = w := by
  unfold bringsOf at hx
  have HX := hide hx
  clear hx
  by_cases h0 : s = 0
  · rw [if_pos h0] at HX
    subst h0
    go_enter Tryd.func25, Tryd.ntmps25
    go_wp2
    go_ret
    exact ⟨ret_int HX.out, rfl⟩
  · rw [if_neg h0] at HX
    rcases ha with rfl | rfl
    · rw [if_pos rfl] at HX
      by_cases h2 : s = 2
      · rw [if_pos h2] at HX
        subst h2
        go_enter Tryd.func25, Tryd.ntmps25
        go_wp2
        go_ret
        exact ⟨ret_int HX.out, rfl⟩
      · rw [if_neg h2] at HX
        go_enter Tryd.func25, Tryd.ntmps25
        go_wp2
        go_ret
        exact ⟨ret_int HX.out, rfl⟩
    · rw [if_neg (by decide)] at HX
      by_cases h1 : s = 1
      · subst h1
        go_enter Tryd.func25, Tryd.ntmps25
        go_wp2
        go_ret
        exact ⟨ret_int HX.out, rfl⟩
      · by_cases h2 : s = 2
        · subst h2
          go_enter Tryd.func25, Tryd.ntmps25
          go_wp2
          go_ret
          exact ⟨ret_int HX.out, rfl⟩
        · by_cases h5 : s = 5
          · subst h5
            go_enter Tryd.func25, Tryd.ntmps25
            go_wp2
            go_ret
            exact ⟨ret_int HX.out, rfl⟩
          · by_cases h8 : s = 18
            · subst h8
              go_enter Tryd.func25, Tryd.ntmps25
              go_wp2
              go_ret
              exact ⟨ret_int HX.out, rfl⟩
            · by_cases h9 : s = 19
              · subst h9
                go_enter Tryd.func25, Tryd.ntmps25
                go_wp2
                go_ret
                exact ⟨ret_int HX.out, rfl⟩
              · rw [if_neg h1, if_neg h2, if_neg h5, if_neg h8, if_neg h9] at HX
                go_enter Tryd.func25, Tryd.ntmps25
                go_wp2
                go_ret
                exact ⟨ret_int HX.out, rfl⟩
end Go.Proofs.YtbgbedkmggefpaaDoor
