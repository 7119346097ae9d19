/- For every timer and every two numbers the law TimerParts of layer 10 returns true: so many ticks at once, or in two parts, are alike. No condition. -/
import Derived.Test.YtcppphnnaojbhaaLaws10
namespace Go.Proofs.Ytcppphnnaojbhaa
open Go.ChangeShapes Go.WideShapes Go.ChangeAt Go.RowKit
open Go.ChangeMaps (open_string shut_string)
set_option linter.unusedVariables false
theorem own : ownKnob Try.prog.godebug = none := by kernel_rfl

theorem and_39 (n : Int) : bits .and .i64 n 549755813887 = n % 549755813888 := and_mask 39 (by decide) n
theorem ticks_of (a : Int) : ∃ t, bits .and .i64 a 549755813887 = t ∧ 0 ≤ t ∧ t ≤ 549755813887 := ⟨_, rfl, by rw [and_39]; omega, by rw [and_39]; omega⟩
theorem rnd_le {r c s n x : Int} (r0 : 0 ≤ r) (c0 : 0 ≤ c) (s0 : 0 ≤ s) (h : Is r c s n x) : n ≤ s + r := by
  obtain ⟨h1, h2, h3, h4⟩ := h
  have h5 : n * 1 ≤ n * (r + 1) := Int.mul_le_mul_of_nonneg_left (by omega) h1
  rcases h4 with h4 | h4
  · omega
  · omega
theorem two_parts {r c p s t : Int} (r0 : 0 ≤ r) (r1 : r ≤ 127) (c0 : 0 ≤ c) (c1 : c ≤ 127) (p0 : 0 ≤ p) (p1 : p ≤ 3071) (s0 : 0 ≤ s) (s1 : s ≤ 549755813887) (t0 : 0 ≤ t) (t1 : t ≤ 549755813887) :
    ∃ x u n y v m, (∀ w, Calls Try.prog 8 #[.agg #[.int .i64 r, .int .i64 c, .bool true, .int .i64 p], .int .i64 s] w fun e w' => e = .returned (.tuple #[.agg #[.int .i64 r, .int .i64 x, .bool true, .int .i64 u], .int .i64 n]) ∧ Below w.heap.size w w') ∧
      (∀ w, Calls Try.prog 8 #[.agg #[.int .i64 r, .int .i64 x, .bool true, .int .i64 u], .int .i64 t] w fun e w' => e = .returned (.tuple #[.agg #[.int .i64 r, .int .i64 y, .bool true, .int .i64 v], .int .i64 m]) ∧ Below w.heap.size w w') ∧
      (∀ w, Calls Try.prog 8 #[.agg #[.int .i64 r, .int .i64 c, .bool true, .int .i64 p], .int .i64 (s + t)] w fun e w' => e = .returned (.tuple #[.agg #[.int .i64 r, .int .i64 y, .bool true, .int .i64 v], .int .i64 (n + m)]) ∧ Below w.heap.size w w') ∧
      okT r y true v = true ∧ 0 ≤ n ∧ n ≤ 1000000000000 ∧ 0 ≤ m ∧ m ≤ 1000000000000 := by
  have i1 := rnd_is r c ((s + p) / 3072) r0 c0
  have x1 := is_le r1 c1 (by omega) i1
  have x0 := i1.2.1
  have n1 := rnd_le r0 c0 (by omega) i1
  have k1 := fun w => adv_all (t := s) r0 r1 c0 c1 p0 p1 s0 (by omega) w
  have n0 := i1.1
  obtain ⟨x, hx⟩ : ∃ x, x = cntOf r c ((s + p) / 3072) := ⟨_, rfl⟩
  obtain ⟨n, hn⟩ : ∃ n, n = rndOf r c ((s + p) / 3072) := ⟨_, rfl⟩
  rw [← hx, ← hn] at i1 k1
  rw [← hx] at x0 x1
  rw [← hn] at n0 n1
  have i2 := rnd_is r x ((t + (s + p) % 3072) / 3072) r0 x0
  have y1 := is_le r1 x1 (by omega) i2
  have y0 := i2.2.1
  have m1 := rnd_le r0 x0 (by omega) i2
  have k2 := fun w => adv_all (t := t) r0 r1 x0 x1 (show 0 ≤ (s + p) % 3072 by omega) (by omega) t0 (by omega) w
  have m0 := i2.1
  have k3 := fun w => adv_all (t := s + t) r0 r1 c0 c1 p0 p1 (by omega) (by omega) w
  have i3 := is_parts (by omega) i1 i2
  rw [show (s + p) / 3072 + (t + (s + p) % 3072) / 3072 = (s + t + p) / 3072 by omega] at i3
  have e3 := is_eq r0 c0 i3
  rw [e3.1, e3.2, show (s + t + p) % 3072 = (t + (s + p) % 3072) % 3072 by omega] at k3
  exact ⟨x, (s + p) % 3072, n, _, _, _, k1, k2, k3, okT_on r0 r1 y0 y1 (by omega) (by omega), n0, by omega, m0, by omega⟩

theorem timerParts_walk (a0 b0 : Int) (o : Bool) (d0 a1 a2 : Int) (w0 : (Lit.int .i64 a0).wf = true) (w1 : (Lit.int .i64 b0).wf = true) (w2 : (Lit.int .i64 d0).wf = true) (w3 : (Lit.int .i64 a1).wf = true) (w4 : (Lit.int .i64 a2).wf = true) (w : World) :
    Calls Try.prog 4 #[.agg #[.int .i64 a0, .int .i64 b0, .bool o, .int .i64 d0], .int .i64 a1, .int .i64 a2] w fun e w' => e = .returned (.bool true) ∧ Below w.heap.size w w' := by
  clear w0 w1 w2 w3 w4
  obtain ⟨r, er, r0, r1⟩ := low_of a0
  obtain ⟨c, ec, c0, c1⟩ := low_of b0
  obtain ⟨y, p, ey, ep, y0, y1, p0, p1⟩ := pre_of d0
  obtain ⟨s, es, s0, s1⟩ := ticks_of a1
  obtain ⟨t, et, t0, t1⟩ := ticks_of a2
  obtain ⟨x, u, n, z, v, m, k1, k2, k3, kv, n0, n1, m0, m1⟩ := two_parts r0 r1 c0 c1 p0 p1 s0 s1 t0 t1
  have C1 := hide k1
  have C2 := hide k2
  have C3 := hide k3
  have CV := hide (valid_any r z true v)
  rw [kv] at CV
  have C4 := hide (adv_still 5 0 false 0 s (.inl rfl))
  clear k1 k2 k3 kv
  go_enter Try.func4, Try.ntmps4
  go_wp2_with fail
  refine (C1.out _).mono ?_
  rintro e w1 ⟨rfl, b1⟩
  have R1 := hide (((hasT_new w r c true p).next b1).alloc (.cells #[.int .i64 r, .int .i64 x, .bool true, .int .i64 u] 23))
  have b1' := bnext ((Below.refl _ w).alloc (Nat.le_refl _) _) b1
  have B1 := hide (b1'.alloc b1'.size (.cells #[.int .i64 r, .int .i64 x, .bool true, .int .i64 u] 23))
  clear b1 b1'
  go_wp2_with fail
  refine (C2.out _).mono ?_
  rintro e w2 ⟨rfl, b2⟩
  have R2 := hide ((R1.out.next b2).alloc (.cells #[.int .i64 r, .int .i64 z, .bool true, .int .i64 v] 23))
  have B2 := hide ((bnext B1.out b2).alloc (bnext B1.out b2).size (.cells #[.int .i64 r, .int .i64 z, .bool true, .int .i64 v] 23))
  clear b2 R1 B1
  go_wp2_with (first | (refine wpList_load_row rfl 23 (.tmp 3) rfl w.heap.size rfl 23 _ (0, 0) _ R2.out Try.underlying23 rfl (by kernel_rfl) ?_))
  refine (C3.out _).mono ?_
  rintro e w3 ⟨rfl, b3⟩
  have Y3 := hide ((hasT_new w2 r z true v).next b3)
  have B3 := hide ((bnext B2.out b3).alloc (bnext B2.out b3).size (.cells #[.int .i64 r, .int .i64 z, .bool true, .int .i64 v] 23))
  clear b3 R2 B2
  go_wp2_with fail
  refine (C4.out _).mono ?_
  rintro e w4 ⟨rfl, b4⟩
  have Y4 := hide ((Y3.out.alloc (.cells #[.int .i64 r, .int .i64 z, .bool true, .int .i64 v] 23)).next b4)
  have Z4 := hide ((hasT_new w3 r z true v).next b4)
  have B4 := hide ((bnext B3.out b4).alloc (bnext B3.out b4).size (.cells #[.int .i64 5, .int .i64 0, .bool false, .int .i64 0] 23))
  clear b4 Y3 B3
  have yl := Y4.out.lt
  have y0 := Y4.out.c0
  have y1 := Y4.out.c1
  have y2 := Y4.out.c2
  have y3 := Y4.out.c3
  have zl := Z4.out.lt
  have z0 := Z4.out.c0
  have z1 := Z4.out.c1
  have z2 := Z4.out.c2
  have z3 := Z4.out.c3
  have Z5 := hide (Z4.out.alloc (.cells #[.int .i64 5, .int .i64 0, .bool false, .int .i64 0] 23))
  clear Y4
  go_wp2_with fail
  refine (CV.out _).mono ?_
  rintro e w5 ⟨rfl, b5⟩
  have Z6 := hide (Z5.out.next b5)
  have O6 := hide ((hasT_new w4 5 0 false 0).next b5)
  have B5 := hide (bnext B4.out b5)
  clear b5 y0 y1 y2 y3 z0 z1 z2 z3 Z5 yl zl
  have z2 := Z6.out.c2
  have o0 := O6.out.c0
  have o1 := O6.out.c1
  have o2 := O6.out.c2
  have o3 := O6.out.c3
  go_wp2
  go_ret
  exact ⟨rfl, B5.out⟩

set_option maxRecDepth 100000 in
theorem timerParts_lifted (os : Os) (started : os.Started) (H : Type) (enc : TypeId × Value → H) :
    ReturnsInHanded {} Try.checked os 4 .any (Rows.timerPartsSpec.pre6 enc Try.prog Try.f4 Rows.timerPartsRow.domain false) (Rows.timerPartsSpec.post enc Try.prog Try.f4 false true false false) := by
  refine returnsInHanded_of_change (C := Try.checked) own started (by kernel_rfl) Try.func4
    (ChangeSpec.witness6 (enc := enc) (C := Try.checked) false ⟨#[], #[.agg #[.int .i64 0, .int .i64 0, .bool false, .int .i64 0], .int .i64 0, .int .i64 0], []⟩ 8 (by kernel_rfl) (by kernel_rfl) (by kernel_rfl) (by kernel_rfl)) ?_
  intro W base args ds gs before hval0 hW hcnd _
  have hval : ∀ (j : Nat) t v, Try.f4.params[j]? = some t → args[j]? = some v → Value.okWide Try.prog W .any base t v := hval0
  have hW' := hW
  obtain ⟨p, q, hA0, hV, rfl, hfz, hnd⟩ := hW
  have hA : DataW.TrodAll enc Try.prog W 0 (fun _ => true) true Try.f4.params.toList args.toList ds p := hA0
  rw [Try.params4] at hA hval
  obtain ⟨v0, vs0, d0, ds0, p0, q0, hargs, rfl, rfl, h0, r0⟩ := trodAll_cons hA
  obtain ⟨v1, vs1, d1, ds1, p1, q1, rfl, rfl, rfl, h1, r1⟩ := trodAll_cons r0
  obtain ⟨v2, vs2, d2, ds2, p2, q2, rfl, rfl, rfl, h2, r2⟩ := trodAll_cons r1
  obtain ⟨rfl, rfl, rfl⟩ := trodAll_nil r2
  obtain rfl : args = #[v0, v1, v2] := by cases args; simp_all
  obtain ⟨rfl, rfl⟩ := trodVars_none hV
  have k0 := h0
  have lt0 : ∀ x ∈ p0, x.block < W.heap.size := by obtain ⟨m, hm⟩ := k0; exact DataW.trod_lt m _ _ _ hm
  obtain ⟨cs0, fu0, rfl, sz0, hf0⟩ := open_struct_cells (n := 4) Try.underlying23 (by kernel_rfl) (hval 0 23 v0 rfl rfl) h0
  obtain ⟨y0f0, hy0f0⟩ := hf0 0 _ rfl
  obtain ⟨a0f0, g0f0, _, w0f0⟩ := DataW.trod_int Try.underlying3 hy0f0
  have e0f0 := cell_at (by kernel_rfl) g0f0
  obtain ⟨y0f1, hy0f1⟩ := hf0 1 _ rfl
  obtain ⟨a0f1, g0f1, _, w0f1⟩ := DataW.trod_int Try.underlying3 hy0f1
  have e0f1 := cell_at (by kernel_rfl) g0f1
  obtain ⟨y0f2, hy0f2⟩ := hf0 2 _ rfl
  obtain ⟨a0f2, g0f2, _⟩ := DataW.trod_bool Try.underlying4 hy0f2
  have e0f2 := cell_at (by kernel_rfl) g0f2
  obtain ⟨y0f3, hy0f3⟩ := hf0 3 _ rfl
  obtain ⟨a0f3, g0f3, _, w0f3⟩ := DataW.trod_int Try.underlying3 hy0f3
  have e0f3 := cell_at (by kernel_rfl) g0f3
  obtain rfl : cs0 = #[.int .i64 a0f0, .int .i64 a0f1, .bool a0f2, .int .i64 a0f3] := cells_are [.int .i64 a0f0, .int .i64 a0f1, .bool a0f2, .int .i64 a0f3] sz0 (fun j hj => by
    rcases j with _ | _ | _ | _ | j
    · exact e0f0
    · exact e0f1
    · exact e0f2
    · exact e0f3
    · exact absurd hj (by simp only [List.length_cons, List.length_nil]; omega))
  clear hy0f0 g0f0 e0f0 hy0f1 g0f1 e0f1 hy0f2 g0f2 e0f2 hy0f3 g0f3 e0f3 sz0 hf0
  obtain ⟨a1, rfl, rfl, rfl, w1⟩ := open_int Try.underlying3 (hval 1 3 v1 rfl rfl) h1
  obtain ⟨a2, rfl, rfl, rfl, w2⟩ := open_int Try.underlying3 (hval 2 3 v2 rfl rfl) h2
  clear hA0 hval0
  refine (timerParts_walk a0f0 a0f1 a0f2 a0f3 a1 a2 w0f0 w0f1 w0f3 w1 w2 W).mono fun e W' ⟨he, bel⟩ => ?_
  subst he
  exact ⟨_, rfl, _, _, _, [], _, [], hW', trodAll_mk1 (shut_bool Try.underlying4 _), (trodAll_cons_mk (Below.trod laidOut (by kernel_rfl) (of_decide_eq_true (by kernel_rfl)) k0 bel lt0) (trodAll_cons_mk (shut_int Try.underlying3 w1) (trodAll_cons_mk (shut_int Try.underlying3 w2) trodAll_mk0))), rfl, bel.frame _, fun h => by cases h⟩

theorem timerParts_over : Rows.timerPartsRow.holds Try.pinned (OpenSpec.ofChange Rows.timerPartsSpec) :=
  OpenClaim.holds_of_wide 4 Try.f4 rfl rfl rfl rfl rfl rfl rfl ⟨rfl, rfl, rfl, rfl, rfl⟩ rfl rfl rfl rfl rfl (by kernel_rfl) Try.func4 (by kernel_rfl)
    (of_decide_eq_true (by kernel_rfl)) (by unfold Func.isWrapper; first | (rw [if_pos (by decide +kernel)]; kernel_rfl) | (rw [if_neg (by decide +kernel)]; exact ⟨rfl, rfl⟩))
    (fun os started H enc _ => timerParts_lifted os started H enc)

theorem timerParts_holds : Rows.TimerPartsSaid := timerParts_over
#print axioms timerParts_holds
end Go.Proofs.Ytcppphnnaojbhaa
