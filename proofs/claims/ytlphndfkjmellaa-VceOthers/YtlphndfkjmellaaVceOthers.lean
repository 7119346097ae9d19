/- VceOthers, at the landed commit: whatever slice and integers come in, the call returns true: what is written to one colour changes no other one, and a look changes none at all. No condition. -/
import Derived.Test.YtlphndfkjmellaaLaw12
import Derived.Test.YtlphndfkjmellaaArrays
namespace Go.Proofs.Ytlphndfkjmellaa
open Go.ChangeShapes Go.WideShapes Go.ChangeAt Go.RowKit
set_option linter.unusedVariables false
theorem own : ownKnob Try.prog.godebug = none := by kernel_rfl

theorem others_all (k b : Int) (s : Option Addr) (len cap : Nat) (zs : List Int) (w : World) (hr : IsRow .i64 w s len cap zs) (F G : Nat → Int) (j : Nat) (hj : j < 512) (y n r z : Int) (hk : bits .and .i64 k 511 = (j : Int)) (hn : bits .and .i64 (wrap64 (k + 1)) 511 = n) (hb : bits .and .i64 b 255 = r) (hy : bits .and .i64 y 255 = r) (g1 : G j = y) (g2 : ∀ t, t ≠ j → G t = F t) (CM : Hid (∀ w, IsRow .i64 w s len cap zs → Calls Try.prog 12 #[.int .i64 0, .int .i64 (j : Int), .slice s len cap] w fun e w' => e = .returned (.agg (rowV 0 (j : Int) F)) ∧ Below w.heap.size w w')) (C4 : Hid (∀ w, Calls Try.prog 7 #[.agg (rowV 0 (j : Int) F), .int .i64 4, .int .i64 b] w fun e w' => e = .returned (.agg (rowV 0 (j : Int) G)) ∧ Below w.heap.size w w')) (C5 : Hid (∀ w, Calls Try.prog 8 #[.agg (rowV 0 (j : Int) G), .int .i64 5] w fun e w' => e = .returned (.tuple #[.int .i64 z, .agg (rowV 0 n G)]) ∧ Below w.heap.size w w')) (C7 : Hid (∀ q, (q = 7 ∨ q = 1) → ∀ w, Calls Try.prog 7 #[.agg (rowV 0 (j : Int) F), .int .i64 q, .int .i64 b] w fun e w' => e = .returned (.agg (rowV 0 (j : Int) F)) ∧ Below w.heap.size w w')) : Calls Try.prog 5 #[.slice s len cap, .int .i64 k, .int .i64 b] w fun e w' => e = .returned (.bool true) ∧ Below w.heap.size w w' := by
  have HR := hide hr
  have G1 := hide g1
  have G2 := hide g2
  have HY := hide hy
  have HN := hide hn
  clear hr g1 g2 hy hn
  try have hzz := zero_same w (Try.zeroValue25 w)
  go_enter Try.func5, Try.ntmps5
  go_wp2_with fail
  refine (CM.out _ HR.out).mono ?_
  rintro e w1 ⟨rfl, b1⟩
  have B1 := hide b1
  clear b1 HR CM
  have N1 := hide (hasV_new 25 w1 0 0 (fun _ => 0))
  have V1 := hide (show HasV 25 ((w1.alloc (.cells zeroC 25)).setRow w1.heap.size (rowV 0 (j : Int) F)) w1.heap.size 0 (j : Int) F from setRow_heap _ _ _ _ _ _ N1.out)
  go_wp2_with (first
    | (refine wpList_store_row rfl 25 (.tmp 7) (.tmp 15) rfl w1.heap.size _ rfl rfl 25 _ N1.out (info_V _ _ _) (by rw [rowV_size, rowV_size]) (rowV_one _ _ _) ?_)
    | (refine wpList_load_row rfl 25 (.tmp 7) rfl w1.heap.size rfl 25 _ (0, 0) _ V1.out Try.underlying25 rfl (info_V _ _ _) ?_))
  obtain ⟨w2, hw2⟩ : ∃ w2, w2 = (w1.alloc (.cells zeroC 25)).setRow w1.heap.size (rowV 0 (j : Int) F) := ⟨_, rfl⟩
  have b2 : Below w1.heap.size w1 w2 := by rw [hw2]; exact below_setRow ((Below.refl _ w1).alloc (Nat.le_refl _) _) (Nat.le_refl _) _
  have B2 := hide (bnext B1.out b2)
  rw [← hw2] at V1 ⊢
  clear hw2 b2 B1 N1
  generalize w1.heap.size = h1 at *
  refine (C4.out _).mono ?_
  rintro e w3 ⟨rfl, b3⟩
  have V3 := hide (V1.out.next b3)
  have B3 := hide (bnext B2.out b3)
  clear b3 B2 V1 C4
  have N3 := hide (hasV_new 25 w3 0 0 (fun _ => 0))
  have W3 := hide (show HasV 25 ((w3.alloc (.cells zeroC 25)).setRow w3.heap.size (rowV 0 (j : Int) G)) w3.heap.size 0 (j : Int) G from setRow_heap _ _ _ _ _ _ N3.out)
  go_wp2_with (first
    | (refine wpList_store_row rfl 25 (.tmp 8) (.tmp 18) rfl w3.heap.size _ rfl rfl 25 _ N3.out (info_V _ _ _) (by rw [rowV_size, rowV_size]) (rowV_one _ _ _) ?_)
    | (refine wpList_load_row rfl 25 (.tmp 8) rfl w3.heap.size rfl 25 _ (0, 0) _ W3.out Try.underlying25 rfl (info_V _ _ _) ?_))
  obtain ⟨w4, hw4⟩ : ∃ w4, w4 = (w3.alloc (.cells zeroC 25)).setRow w3.heap.size (rowV 0 (j : Int) G) := ⟨_, rfl⟩
  have b4 : Below w3.heap.size w3 w4 := by rw [hw4]; exact below_setRow ((Below.refl _ w3).alloc (Nat.le_refl _) _) (Nat.le_refl _) _
  have V4 := hide (V3.out.next b4)
  have B4 := hide (bnext B3.out b4)
  rw [← hw4] at W3 ⊢
  clear hw4 b4 B3 N3 V3
  generalize w3.heap.size = h2 at *
  refine (C5.out _).mono ?_
  rintro e w5 ⟨rfl, b5⟩
  have V5 := hide (V4.out.next b5)
  have W5 := hide (W3.out.next b5)
  have B5 := hide (bnext B4.out b5)
  clear b5 B4 V4 W3 C5
  have N5 := hide (hasV_new 25 w5 0 0 (fun _ => 0))
  go_wp2_with (first
    | (refine wpList_store_row rfl 25 (.tmp 10) (.tmp 23) rfl w5.heap.size _ rfl rfl 25 _ N5.out (info_V _ _ _) (by rw [rowV_size, rowV_size]) (rowV_one _ _ _) ?_))
  obtain ⟨w6, hw6⟩ : ∃ w6, w6 = (w5.alloc (.cells zeroC 25)).setRow w5.heap.size (rowV 0 n G) := ⟨_, rfl⟩
  have b6 : Below w5.heap.size w5 w6 := by rw [hw6]; exact below_setRow ((Below.refl _ w5).alloc (Nat.le_refl _) _) (Nat.le_refl _) _
  have X6 := hide (show HasV 25 w6 w5.heap.size 0 n G by rw [hw6]; exact setRow_heap _ _ _ _ _ _ N5.out)
  have V6 := hide (V5.out.next b6)
  have W6 := hide (W5.out.next b6)
  have B6 := hide (bnext B5.out b6)
  rw [← hw6]
  clear hw6 b6 B5 N5 V5 W5
  generalize w5.heap.size = h3 at *
  go_loopw [11] (fun si wr => ∃ t : Nat, t ≤ 512 ∧ si = .int .i64 (t : Int) ∧ HasV 25 wr h1 0 (j : Int) F ∧ HasV 25 wr h2 0 (j : Int) G ∧ HasV 25 wr h3 0 n G ∧ Below w.heap.size w wr) (fun si _ => 512 - (intOf si).toNat)
  case atStart => exact ⟨0, Nat.zero_le _, rfl, V6.out, W6.out, X6.out, B6.out⟩
  case round =>
    obtain ⟨t, ht, rfl, hv, hw, hx, hb6⟩ := hrel
    have VK := hide hv
    have WK := hide hw
    have XK := hide hx
    have BK := hide hb6
    clear hv hw hx hb6 V6 W6 X6 B6
    by_cases hlt : t < 512
    · have cv := kept_cell (VK.out.at t hlt) VK.out.lt
      have cw := kept_cell (WK.out.at t hlt) WK.out.lt
      have cx := kept_cell (XK.out.at t hlt) XK.out.lt
      by_cases hs : t = j
      · subst hs
        set_option maxRecDepth 20000 in go_wp2_with fail
        haveI := kept_some wr
        refine wp_region_kept (by kernel_rfl) (by kernel_rfl) ?_
        repeat (go_big_quiet_step (fail))
        refine wpQuiet_nil ?_
        rintro _ ⟨wk, rfl⟩
        have VN := hide (VK.out.next wk.below)
        have WN := hide (WK.out.next wk.below)
        have XN := hide (XK.out.next wk.below)
        have BN := hide (bnext BK.out wk.below)
        clear cv cw cx
        set_option maxRecDepth 20000 in go_wp2_with fail
        go_roundw
        case rel => exact ⟨t + 1, by omega, by go_num, VN.out, WN.out, XN.out, BN.out⟩
        case measure => simp [intOf]; omega
      · rw [G2.out t hs] at cw cx
        have hne : ((t : Int) != (j : Int)) = true := by simp only [bne_iff_ne, ne_eq]; omega
        generalize F t = u at cv cw cx
        set_option maxRecDepth 20000 in go_wp2_with fail
        haveI := kept_some wr
        refine wp_region_kept (by kernel_rfl) (by kernel_rfl) ?_
        repeat (go_big_quiet_step (fail))
        refine wpQuiet_nil ?_
        rintro _ ⟨wk, rfl⟩
        have VN := hide (VK.out.next wk.below)
        have WN := hide (WK.out.next wk.below)
        have XN := hide (XK.out.next wk.below)
        have BN := hide (bnext BK.out wk.below)
        clear cv cw cx
        set_option maxRecDepth 20000 in go_wp2_with fail
        go_roundw
        case rel => exact ⟨t + 1, by omega, by go_num, VN.out, WN.out, XN.out, BN.out⟩
        case measure => simp [intOf]; omega
    · obtain rfl : t = 512 := by omega
      have c1 := kept_cell (XK.out.c1) XK.out.lt
      have cj := kept_cell (WK.out.at j hj) WK.out.lt
      rw [G1.out] at cj
      have hy := HY.out
      have hn := HN.out
      have he := eqV_self 0 (j : Int) F
      go_wp2_with fail
      haveI := kept_some wr
      refine wp_region_kept (by kernel_rfl) (by kernel_rfl) ?_
      repeat (first
        | (refine wpQuiet_row rfl 25 (.tmp 7) rfl h1 rfl 25 _ (0, 0) _ (fun w' ⟨x, hx⟩ => by rw [hx]; exact (x.block _ VK.out.lt).trans VK.out) Try.underlying25 rfl (info_V _ _ _) ?_; simp only [Act.put, List.setIfInBounds_toArray, List.set_cons_succ, List.set_cons_zero])
        | go_big_quiet_step ((go_at_call 7; exact kept_call (C7.out _ (by decide) _))))
      refine wpQuiet_nil ?_
      rintro _ ⟨wk, rfl⟩
      go_wp2_with fail
      go_ret
      exact ⟨rfl, bnext BK.out wk.below⟩
theorem wrap_512 (m : Int) : wrap64 m % 512 = m % 512 := by unfold wrap64; omega
theorem vceOthers_walk (a0 : Option Addr) (len0 cap0 : Nat) (z0 : List Int) (a1 a2 : Int) (w : World) (w0 : IsRow .i64 w a0 len0 cap0 z0) (w1 : (Lit.int .i64 a1).wf = true) (w2 : (Lit.int .i64 a2).wf = true) : Calls Try.prog 5 #[.slice a0 len0 cap0, .int .i64 a1, .int .i64 a2] w fun e w' => e = .returned (.bool true) ∧ Below w.heap.size w w' := by
  obtain ⟨F, hF⟩ : ∃ F, F = madeTo z0 (min len0 512) := ⟨_, rfl⟩
  obtain ⟨j, hj⟩ : ∃ j : Nat, a1 % 512 = (j : Int) := ⟨(a1 % 512).toNat, by omega⟩
  have hj5 : j < 512 := by omega
  have hjj : (j : Int) % 512 = (j : Int) := by omega
  have CM := hide (fun w (h : IsRow .i64 w a0 len0 cap0 z0) => made_any 0 (j : Int) a0 len0 cap0 z0 w h)
  rw [← hF] at CM
  obtain ⟨y, hy⟩ : ∃ y, a2 % 256 + 256 * (F j % 512 / 256) = y := ⟨_, rfl⟩
  obtain ⟨n, hn⟩ : ∃ n, ((j : Int) + 1) % 512 = n := ⟨_, rfl⟩
  have C4 := hide (write_4 0 (j : Int) a2 y F j hjj hy)
  have C5 := hide (read_5 0 (j : Int) (upd F j y) j hjj n hn)
  have C7 := hide (fun (q : Int) (h : q = 7 ∨ q = 1) => write_no q 0 (j : Int) a2 F j hjj (by omega) (by omega) (by omega) (by omega) (by omega))
  refine others_all a1 a2 a0 len0 cap0 z0 w w0 F (upd F j y) j hj5 y n (a2 % 256) _ (by rw [and_511, hj]) ?_ (and_255 a2) ?_ (by simp [upd]) (fun t ht => by simp [upd, ht]) CM C4 C5 C7
  · rw [and_511, wrap_512]
    omega
  · rw [and_255]
    omega

set_option maxRecDepth 100000 in
theorem vceOthers_lifted (os : Os) (started : os.Started) (H : Type) (enc : TypeId × Value → H) :
    ReturnsInHanded {} Try.checked os 5 .any (Rows.vceOthersSpec.pre6 enc Try.prog Try.f5 Rows.vceOthersRow.domain false) (Rows.vceOthersSpec.post enc Try.prog Try.f5 false true false false) := by
  refine returnsInHanded_of_change (C := Try.checked) own started (by kernel_rfl) Try.func5
    (ChangeSpec.witness6 (enc := enc) (C := Try.checked) false ⟨#[], #[.slice none 0 0, .int .i64 0, .int .i64 0], []⟩ 8 (by kernel_rfl) (by kernel_rfl) (by kernel_rfl) (by kernel_rfl)) ?_
  intro W base args ds gs before hval0 hW hcnd _
  have hval : ∀ (j : Nat) t v, Try.f5.params[j]? = some t → args[j]? = some v → Value.okWide Try.prog W .any base t v := hval0
  have hW' := hW
  obtain ⟨p, q, hA0, hV, rfl, hfz, hnd⟩ := hW
  have hA : DataW.TrodAll enc Try.prog W 0 (fun _ => true) true Try.f5.params.toList args.toList ds p := hA0
  rw [Try.params5] at hA hval
  obtain ⟨v0, vs0, d0, ds0, p0, q0, hargs, rfl, rfl, h0, r0⟩ := trodAll_cons hA
  obtain ⟨v1, vs1, d1, ds1, p1, q1, rfl, rfl, rfl, h1, r1⟩ := trodAll_cons r0
  obtain ⟨v2, vs2, d2, ds2, p2, q2, rfl, rfl, rfl, h2, r2⟩ := trodAll_cons r1
  obtain ⟨rfl, rfl, rfl⟩ := trodAll_nil r2
  obtain rfl : args = #[v0, v1, v2] := by cases args; simp_all
  obtain ⟨rfl, rfl⟩ := trodVars_none hV
  obtain ⟨a0, len0, cap0, rfl⟩ := okWide_slice Try.underlying22 (hval 0 22 v0 rfl rfl)
  have k0 := h0
  have lt0 : ∀ x ∈ p0, x.block < W.heap.size := by obtain ⟨m, hm⟩ := k0; exact DataW.trod_lt m _ _ _ hm
  obtain ⟨z0, w0⟩ : ∃ zs, IsRow .i64 W a0 len0 cap0 zs := by
    obtain ⟨fuel, hf⟩ := h0
    rcases open_ints Try.underlying22 Try.underlying3 (by kernel_rfl) hf with ⟨hcs, _⟩ | ⟨x, l, c, zs, hcs, _, hl, hm, hz, _, hcell, hwz⟩
    · simp [Value.cells] at hcs
      obtain ⟨rfl, rfl, rfl⟩ := hcs
      exact ⟨[], .inl ⟨rfl, rfl, rfl, rfl⟩⟩
    · simp [Value.cells] at hcs
      obtain ⟨rfl, rfl, rfl⟩ := hcs
      exact ⟨zs, .inr ⟨_, rfl, hl, hm, by simpa using hz, hcell, hwz⟩⟩
  obtain ⟨a1, rfl, rfl, rfl, w1⟩ := open_int Try.underlying3 (hval 1 3 v1 rfl rfl) h1
  obtain ⟨a2, rfl, rfl, rfl, w2⟩ := open_int Try.underlying3 (hval 2 3 v2 rfl rfl) h2
  clear hA0 hval0
  refine (vceOthers_walk a0 len0 cap0 z0 a1 a2 W w0 w1 w2).mono fun e W' ⟨he, bel⟩ => ?_
  subst he
  exact ⟨_, rfl, _, _, _, [], _, [], hW', trodAll_mk1 (shut_bool Try.underlying4 _), (trodAll_cons_mk (Below.trod laidOut (by kernel_rfl) (of_decide_eq_true (by kernel_rfl)) k0 bel lt0) (trodAll_cons_mk (shut_int Try.underlying3 w1) (trodAll_cons_mk (shut_int Try.underlying3 w2) trodAll_mk0))), rfl, bel.frame _, fun h => by cases h⟩

theorem vceOthers_over : Rows.vceOthersRow.holds Try.pinned (OpenSpec.ofChange Rows.vceOthersSpec) :=
  OpenClaim.holds_of_wide 5 Try.f5 rfl rfl rfl rfl rfl rfl rfl ⟨rfl, rfl, rfl, rfl, rfl⟩ rfl rfl rfl rfl rfl (by kernel_rfl) Try.func5 (by kernel_rfl)
    (of_decide_eq_true (by kernel_rfl)) (by unfold Func.isWrapper; first | (rw [if_pos (by decide +kernel)]; kernel_rfl) | (rw [if_neg (by decide +kernel)]; exact ⟨rfl, rfl⟩))
    (fun os started H enc _ => vceOthers_lifted os started H enc)

theorem vceOthers_holds : Rows.VceOthersSaid := vceOthers_over
#print axioms vceOthers_holds

end Go.Proofs.Ytlphndfkjmellaa
