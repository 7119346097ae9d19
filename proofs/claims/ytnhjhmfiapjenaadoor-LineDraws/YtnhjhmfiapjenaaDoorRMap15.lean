/- The document's own answer for layer 15: the contract of Map. -/
import Derived.Test.YtnhjhmfiapjenaaDoorTells15
import Derived.Test.YtnhjhmfiapjenaaDoorGenA
namespace Go.Proofs.YtnhjhmfiapjenaaDoor.R15
open Go.RowKit
set_option linter.unusedVariables false

theorem rmap_any (s : Int) (f : Nat → Int) (p q : Nat) (hp : pairOf (f 9) 4 = p) (hq : bitOf (f 9) 6 = (q : Int)) (w : World) : Calls Tryd.prog 23 #[.agg (rowG s f)] w fun e w' => e = .returned (.tuple #[.int .i64 (wideOf p), .int .i64 (highOf2 q)]) ∧ Below w.heap.size w w' := by
  have hp4 : p < 4 := by rw [← hp]; exact pairOf_lt _ _
  have hs : bitOf (f 9) 4 + 2 * bitOf (f 9) 5 = (p : Int) := by rw [← hp]; exact pairOf_is (f 9) 4
  have b1 := bitOf_01 (f 9) 4
  have b2 := bitOf_01 (f 9) 5
  have hq2 : q < 2 := by have := bitOf_01 (f 9) 6; omega
  have V := hide (hasG_new 45 w s f)
  have B := hide ((Below.refl _ w).alloc (Nat.le_refl _) (.cells (rowG s f) 45))
  have HR := hide (fun k => rbit_any (f 9) k)
  have CB := hide (rbit_any (f 9) 6)
  rw [hq] at CB
  clear hp hq
  go_enter Tryd.func23, Tryd.ntmps23
  go_wp2_with fail
  refine named_code fun wr hwr => ?_
  rw [← hwr] at V B
  clear hwr
  refine wp_region_made _ _ _ _ (show _ = _ :: [_, _, _, _, _, _, _, _, _, _] ++ [_, _, _] from rfl) rfl 25 5 (fun g => .slice (some ⟨g, 0, none⟩) 4 4) (wideL.map (Value.int .i64)).toArray 3 (by kernel_rfl) (by kernel_rfl) (by kernel_rfl) (by kernel_rfl) (by kernel_rfl) rfl rfl rfl rfl (by decide) ?_ ?_
  · intro a w
    kernel_rfl
  apply Exists.intro
  refine ⟨fun W hW => ?_, ?_⟩
  · have VW := V.out.next hW
    have k9 : ∀ x : Kept W, x.val.cell? ⟨w.heap.size, 10, none⟩ = some (.int .i64 (f 9)) := kept_cell (VW.at 9 (by decide)) VW.lt
    clear VW
    haveI := kept_some W
    repeat (go_big_quiet_step ((go_at_call 45; exact kept_same (HR.out _ _))))
    refine wpQuiet_nil ?_
    rfl
  intro g wx bx hg lg
  have hz := (cell_of_row wx g p _ _ _ hg).trans (four_at wideL rfl p hp4)
  have c9 : wx.cell? ⟨w.heap.size, 10, none⟩ = some (.int .i64 (f 9)) := (V.out.next bx).at 9 (by decide)
  clear hg
  replace B := hide (bnext B.out bx)
  generalize hx : wideL.getD p 0 = x at hz
  have HX := hide (show wideOf p = x from hx)
  have HY := hide (show highOf2 q = 32 + 32 * (q : Int) by
    rcases q with _ | _ | q
    · rfl
    · rfl
    · omega)
  clear hx bx V b1 b2 hs HR
  simp only [Act.put, List.setIfInBounds_toArray, List.set_cons_succ, List.set_cons_zero]
  go_wp2_with (first | (go_at_call 45; refine (CB.out _).mono ?_; rintro e w' ⟨rfl, hw⟩; subst w'))
  go_ret2
  exact ⟨ret_two HX.out.symm HY.out.symm, B.out⟩
end Go.Proofs.YtnhjhmfiapjenaaDoor.R15
