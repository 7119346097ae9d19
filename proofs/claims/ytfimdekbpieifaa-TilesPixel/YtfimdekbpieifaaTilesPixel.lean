/- TilesPixel, at the landed commit: whatever slice of words, view and array of two integers come in, the call returns true: any pixel of any background is the document's. No condition. -/
import Derived.Test.YtfimdekbpieifaaPixel17
import Derived.Test.YtfimdekbpieifaaMade17
import Derived.Test.YtfimdekbpieifaaRef17
import Derived.Test.YtfimdekbpieifaaWant17
import Derived.Test.YtfimdekbpieifaaArrays
import Derived.Deep.RegionWith
namespace Go.Proofs.Ytfimdekbpieifaa
open Go.ChangeShapes Go.WideShapes Go.ChangeAt Go.RowKit
set_option linter.unusedVariables false

set_option maxHeartbeats 1000000 in
theorem pixel_core (a : Option Addr) (len cap : Nat) (W H X Y x y : Int) (pa pw : Nat → Int) (w : World) (HR : Hid (IsPokes w a len pa pw)) : Calls Try.prog 3 #[.slice a len cap, .agg #[.int .i64 W, .int .i64 H, .int .i64 X, .int .i64 Y], .agg #[.int .i64 x, .int .i64 y]] w fun e w' => e = .returned (.bool true) ∧ Below w.heap.size w w' := by
  go_enter Try.func3, Try.ntmps3
  go_wp2_with fail
  refine under_calls fun wa hwa => ?_
  obtain ⟨b0, b1, _, BB⟩ := two_named hwa
  clear hwa
  have V0 := hide (show HasV wa w.heap.size W H X Y from b0)
  have A0 := hide (show Has2 wa (w.heap.size + 1) x y from b1)
  have B0 := hide BB
  clear b0 b1 BB
  obtain ⟨z, hz⟩ : ∃ z, w.heap.size = z := ⟨_, rfl⟩
  rw [hz] at V0 A0 ⊢
  clear hz
  refine (made_is a len cap pa pw wa (HR.out.next B0.out)).mono ?_
  rintro e w2 ⟨g, c, d, rfl, k2⟩
  have WF := hide (words_made pa pw (min len 80))
  generalize madeTo pa pw (min len 80) = f at *
  have H2 := hide k2.2.1
  have D2 := hide k2.2.2.1
  have V2 := hide (V0.out.next k2.below)
  have A2 := hide (A0.out.next k2.below)
  have B2 := hide (bnext B0.out k2.below)
  clear k2 V0 A0 B0 HR
  go_wp2_with fail
  refine under_calls fun w3 hw3 => ?_
  have n3 : Below w2.heap.size w2 w3 := by rw [hw3]; exact (Below.refl _ w2).alloc (Nat.le_refl _) _
  have P3 := hide (pokes_two (show w3.heap[w2.heap.size]? = some (.cells #[.int .i64 0, .int .i64 12289, .int .i64 16, .int .i64 32896] 31 (0, 0)) by rw [hw3]; exact heap_alloc_new _ _))
  refine (made_is _ 2 2 twoA twoW w3 P3.out).mono ?_
  rintro e w4 ⟨g2, c2, d2, rfl, k4⟩
  have n4 := bnext n3 k4.below
  have K4 := hide (show HasM w4 g2 true (madeTo twoA twoW 2) 0 0 1 0 0 from k4.2.1)
  have L4 := hide (show HasR w4 c2 d2 (madeTo twoA twoW 2) 0 0 1 0 0 from k4.2.2.1)
  have H4 := hide (H2.out.next n4)
  have D4 := hide (D2.out.next n4)
  have V4 := hide (V2.out.next n4)
  have A4 := hide (A2.out.next n4)
  have B4 := hide (bnext B2.out n4)
  clear hw3 n3 n4 k4 H2 D2 V2 A2 B2 P3
  obtain ⟨v, hv⟩ : ∃ v, pixelG (wordAt f) W H X Y x y = v := ⟨_, rfl⟩
  have HV := hide hv
  clear hv
  go_wp2_with fail
  have k0 := kept_cell A4.out.c0 A4.out.lt
  have k1 := kept_cell A4.out.c1 A4.out.lt
  haveI := kept_some w4
  refine wp_region_kept (by kernel_rfl) (by kernel_rfl) ?_
  repeat (first
    | (refine wpQuiet_row rfl 24 (.tmp 4) rfl z rfl 24 _ (0, 0) _ (fun w' ⟨x, hx⟩ => by rw [hx]; exact V4.out.next x.below) Try.underlying24 rfl (by kernel_rfl) ?_; simp only [Act.put, List.setIfInBounds_toArray, List.set_cons_succ, List.set_cons_zero])
    | (go_big_quiet_step ((first
      | (go_at_call_of 9 (Value.pointer (some ⟨g, 0, none⟩)); exact kept_call (pixel_is _ _ WF.out W H X Y x y v HV.out _ (tells_made (H4.out.next (Kept.below _)))))
      | (go_at_call 10; exact kept_call (rpixel_is c d f _ _ _ _ _ _ (D4.out.next (Kept.below _)) WF.out W H X Y x y v HV.out))
      | (go_at_call_of 9 (Value.pointer (some ⟨g2, 0, none⟩)); exact kept_call (pixel_is _ _ (words_made twoA twoW 2) 32 32 0 0 0 0 51 two_51 _ (tells_made (K4.out.next (Kept.below _)))))
      | (go_at_call 11; exact kept_same (rword_is c2 d2 _ _ _ _ _ _ _ (L4.out.next (Kept.below _)) 0 12289 two_word))))))
  refine wpQuiet_nil ?_
  rintro _ ⟨wk, rfl⟩
  clear k0 k1
  go_wp2
  go_ret
  exact ⟨rfl, bnext B4.out wk.below⟩
theorem tilesPixel_walk (a0 : Option Addr) (len0 cap0 : Nat) (a1f0 a1f1 a1f2 a1f3 : Int) (z2 : List Int) (w : World) (w0 : IsStructs [some .i64, some .i64] w a0 len0 cap0) (w1f0 : (Lit.int .i64 a1f0).wf = true) (w1f1 : (Lit.int .i64 a1f1).wf = true) (w1f2 : (Lit.int .i64 a1f2).wf = true) (w1f3 : (Lit.int .i64 a1f3).wf = true) (l2 : z2.length = 2) (w2 : ∀ z ∈ z2, (Lit.int .i64 z).wf = true) :
    Calls Try.prog 3 #[.slice a0 len0 cap0, .agg #[.int .i64 a1f0, .int .i64 a1f1, .int .i64 a1f2, .int .i64 a1f3], .agg (z2.map (Value.int .i64)).toArray] w fun e w' => e = .returned (.bool true) ∧ Below w.heap.size w w' := by
  obtain ⟨x0, x1, rfl⟩ := two_list z2 l2
  obtain ⟨pa, pw, hp⟩ := pokes_in w0
  exact pixel_core a0 len0 cap0 a1f0 a1f1 a1f2 a1f3 x0 x1 pa pw w (hide hp)

set_option maxRecDepth 100000 in
theorem tilesPixel_lifted (os : Os) (started : os.Started) (H : Type) (enc : TypeId × Value → H) :
    ReturnsInHanded {} Try.checked os 3 .any (Rows.tilesPixelSpec.pre6 enc Try.prog Try.f3 Rows.tilesPixelRow.domain false) (Rows.tilesPixelSpec.post enc Try.prog Try.f3 false true false false) := by
  refine returnsInHanded_of_change (C := Try.checked) own started (by kernel_rfl) Try.func3
    (ChangeSpec.witness6 (enc := enc) (C := Try.checked) false ⟨#[], #[.slice none 0 0, .agg #[.int .i64 0, .int .i64 0, .int .i64 0, .int .i64 0], .agg #[.int .i64 0, .int .i64 0]], []⟩ 8 (by kernel_rfl) (by kernel_rfl) (by kernel_rfl) (by kernel_rfl)) ?_
  intro W base args ds gs before hval0 hW hcnd _
  have hval : ∀ (j : Nat) t v, Try.f3.params[j]? = some t → args[j]? = some v → Value.okWide Try.prog W .any base t v := hval0
  have hW' := hW
  obtain ⟨p, q, hA0, hV, rfl, hfz, hnd⟩ := hW
  have hA : DataW.TrodAll enc Try.prog W 0 (fun _ => true) true Try.f3.params.toList args.toList ds p := hA0
  rw [Try.params3] at hA hval
  obtain ⟨v0, vs0, d0, ds0, p0, q0, hargs, rfl, rfl, h0, r0⟩ := trodAll_cons hA
  obtain ⟨v1, vs1, d1, ds1, p1, q1, rfl, rfl, rfl, h1, r1⟩ := trodAll_cons r0
  obtain ⟨v2, vs2, d2, ds2, p2, q2, rfl, rfl, rfl, h2, r2⟩ := trodAll_cons r1
  obtain ⟨rfl, rfl, rfl⟩ := trodAll_nil r2
  obtain rfl : args = #[v0, v1, v2] := by cases args; simp_all
  obtain ⟨rfl, rfl⟩ := trodVars_none hV
  obtain ⟨a0, len0, cap0, rfl⟩ := okWide_slice Try.underlying22 (hval 0 22 v0 rfl rfl)
  have k0 := h0
  have lt0 : ∀ x ∈ p0, x.block < W.heap.size := by obtain ⟨m, hm⟩ := k0; exact DataW.trod_lt m _ _ _ hm
  have w0 : IsStructs [some .i64, some .i64] W a0 len0 cap0 := open_structs Try.underlying22 Try.underlying31 (by kernel_rfl) (fun j k hk => by
    rcases j with _ | _ | j
    · cases hk; exact ⟨_, rfl, rfl, by kernel_rfl, Try.underlying3⟩
    · cases hk; exact ⟨_, rfl, rfl, by kernel_rfl, Try.underlying3⟩
    · simp at hk) h0
  have k1 := h1
  have lt1 : ∀ x ∈ p1, x.block < W.heap.size := by obtain ⟨m, hm⟩ := k1; exact DataW.trod_lt m _ _ _ hm
  obtain ⟨cs1, fu1, rfl, sz1, hf1⟩ := open_struct_cells (n := 4) Try.underlying24 (by kernel_rfl) (hval 1 24 v1 rfl rfl) h1
  obtain ⟨y1f0, hy1f0⟩ := hf1 0 _ rfl
  obtain ⟨a1f0, g1f0, _, w1f0⟩ := DataW.trod_int Try.underlying3 hy1f0
  have e1f0 := cell_at (by kernel_rfl) g1f0
  obtain ⟨y1f1, hy1f1⟩ := hf1 1 _ rfl
  obtain ⟨a1f1, g1f1, _, w1f1⟩ := DataW.trod_int Try.underlying3 hy1f1
  have e1f1 := cell_at (by kernel_rfl) g1f1
  obtain ⟨y1f2, hy1f2⟩ := hf1 2 _ rfl
  obtain ⟨a1f2, g1f2, _, w1f2⟩ := DataW.trod_int Try.underlying3 hy1f2
  have e1f2 := cell_at (by kernel_rfl) g1f2
  obtain ⟨y1f3, hy1f3⟩ := hf1 3 _ rfl
  obtain ⟨a1f3, g1f3, _, w1f3⟩ := DataW.trod_int Try.underlying3 hy1f3
  have e1f3 := cell_at (by kernel_rfl) g1f3
  obtain rfl : cs1 = #[.int .i64 a1f0, .int .i64 a1f1, .int .i64 a1f2, .int .i64 a1f3] := cells_are [.int .i64 a1f0, .int .i64 a1f1, .int .i64 a1f2, .int .i64 a1f3] sz1 (fun j hj => by
    rcases j with _ | _ | _ | _ | j
    · exact e1f0
    · exact e1f1
    · exact e1f2
    · exact e1f3
    · exact absurd hj (by simp only [List.length_cons, List.length_nil]; omega))
  clear hy1f0 g1f0 e1f0 hy1f1 g1f1 e1f1 hy1f2 g1f2 e1f2 hy1f3 g1f3 e1f3 sz1 hf1
  have k2 := h2
  have lt2 : ∀ x ∈ p2, x.block < W.heap.size := by obtain ⟨m, hm⟩ := k2; exact DataW.trod_lt m _ _ _ hm
  obtain ⟨z2, l2, rfl, w2⟩ := open_array_ints Try.underlying25 Try.underlying3 (by kernel_rfl) (by kernel_rfl) (hval 2 25 v2 rfl rfl) h2
  clear hA0 hval0
  refine (tilesPixel_walk a0 len0 cap0 a1f0 a1f1 a1f2 a1f3 z2 W w0 w1f0 w1f1 w1f2 w1f3 l2 w2).mono fun e W' ⟨he, bel⟩ => ?_
  subst he
  exact ⟨_, rfl, _, _, _, [], _, [], hW', trodAll_mk1 (shut_bool Try.underlying4 _), (trodAll_cons_mk (Below.trod laidOut (by kernel_rfl) (of_decide_eq_true (by kernel_rfl)) k0 bel lt0) (trodAll_cons_mk (Below.trod laidOut (by kernel_rfl) (of_decide_eq_true (by kernel_rfl)) k1 bel lt1) (trodAll_cons_mk (Below.trod laidOut (by kernel_rfl) (of_decide_eq_true (by kernel_rfl)) k2 bel lt2) trodAll_mk0))), rfl, bel.frame _, fun h => by cases h⟩

theorem tilesPixel_over : Rows.tilesPixelRow.holds Try.pinned (OpenSpec.ofChange Rows.tilesPixelSpec) :=
  OpenClaim.holds_of_wide 3 Try.f3 rfl rfl rfl rfl rfl rfl rfl ⟨rfl, rfl, rfl, rfl, rfl⟩ rfl rfl rfl rfl rfl (by kernel_rfl) Try.func3 (by kernel_rfl)
    (of_decide_eq_true (by kernel_rfl)) (by unfold Func.isWrapper; first | (rw [if_pos (by decide +kernel)]; kernel_rfl) | (rw [if_neg (by decide +kernel)]; exact ⟨rfl, rfl⟩))
    (fun os started H enc _ => tilesPixel_lifted os started H enc)

theorem tilesPixel_holds : Rows.TilesPixelSaid := tilesPixel_over
#print axioms tilesPixel_holds

end Go.Proofs.Ytfimdekbpieifaa
