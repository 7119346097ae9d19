/- For every three numbers the law TimerRate of layer 10 returns true: a timer that begins comes round once in each Reload + 1 periods, however long it runs. No condition. -/
import Derived.Test.YtcppphnnaojbhaaLaws10
namespace Go.Proofs.Ytcppphnnaojbhaa
open Go.ChangeShapes Go.WideShapes Go.ChangeAt Go.RowKit
open Go.ChangeMaps (open_string shut_string)
set_option linter.unusedVariables false
theorem own : ownKnob Try.prog.godebug = none := by kernel_rfl

theorem and_1048575 (n : Int) : bits .and .i64 n 1048575 = n % 1048576 := and_mask 20 (by decide) n
theorem rest_of (d q : Int) (q0 : 0 < q) : ∃ y g, d.tmod q = y ∧ (y + q).tmod q = g ∧ -q < y ∧ y < q ∧ 0 ≤ g ∧ g < q := by
  have h1 := Int.lt_tmod_of_pos d q0
  have h2 := Int.tmod_lt_of_pos d q0
  have e : (d.tmod q + q).tmod q = (d.tmod q + q) % q := Int.tmod_eq_emod_of_nonneg (by omega)
  exact ⟨_, _, rfl, rfl, h1, h2, by rw [e]; exact Int.emod_nonneg _ (by omega), by rw [e]; exact Int.emod_lt_of_pos _ q0⟩
theorem adv_rate {r k g q M : Int} (r0 : 0 ≤ r) (r1 : r ≤ 127) (k0 : 0 ≤ k) (hq : (r + 1) * 3072 = q) (hM : k * q = M) (M1 : M ≤ 412316860416) (g0 : 0 ≤ g) (g1 : g < q) (w : World) :
    Calls Try.prog 8 #[.agg #[.int .i64 r, .int .i64 r, .bool true, .int .i64 0], .int .i64 (M + g)] w fun e w' =>
      e = .returned (.tuple #[.agg #[.int .i64 r, .int .i64 (r - g / 3072), .bool true, .int .i64 (g % 3072)], .int .i64 k]) ∧ Below w.heap.size w w' := by
  have e0 : M = k * (r + 1) * 3072 := by rw [← hM, ← hq, Int.mul_assoc]
  have h0 : 0 ≤ k * (r + 1) := Int.mul_nonneg k0 (by omega)
  have h := adv_all (t := M + g) r0 r1 r0 r1 (Int.le_refl 0) (by decide) (by omega) (by omega) w
  have e1 : (M + g + 0) / 3072 = k * (r + 1) + g / 3072 := by omega
  have e2 : (M + g + 0) % 3072 = g % 3072 := by omega
  have e3 : Is r r (k * (r + 1) + g / 3072) k (r - g / 3072) := ⟨k0, by omega, by omega, .inr (by omega)⟩
  have e4 := is_eq r0 r0 e3
  rw [e1, e2, e4.1, e4.2] at h
  exact h
theorem write_first {r : Int} (r0 : 0 ≤ r) (r1 : r ≤ 127) (w : World) : Calls Try.prog 12 #[.agg #[.int .i64 0, .int .i64 0, .bool false, .int .i64 0], .int .i64 0, .int .i64 r] w fun e w' =>
    e = .returned (.agg #[.int .i64 r, .int .i64 0, .bool false, .int .i64 0]) ∧ Below w.heap.size w w' := by
  have h := write_0 0 0 false 0 r w
  rw [show r % 128 = r by omega] at h
  exact h
theorem write_on (r c p : Int) (w : World) : Calls Try.prog 12 #[.agg #[.int .i64 r, .int .i64 c, .bool false, .int .i64 p], .int .i64 1, .int .i64 1] w fun e w' =>
    e = .returned (.agg #[.int .i64 r, .int .i64 r, .bool true, .int .i64 0]) ∧ Below w.heap.size w w' := write_1 r c false p 1 true rfl w

theorem rate_none (a0 a1 a2 r k q y g M z v : Int) (w : World) (er : bits .and .i64 a0 127 = r) (r0 : 0 ≤ r) (r1 : r ≤ 127) (ek : bits .and .i64 a1 1048575 = k) (k0 : 0 ≤ k) (k1 : k ≤ 1048575) (hq : (r + 1) * 3072 = q) (q0 : 3072 ≤ q) (q1 : q ≤ 393216)
    (ey : a2.tmod q = y) (eg : (y + q).tmod q = g) (y0 : -q < y) (y1 : y < q) (g0 : 0 ≤ g) (g1 : g < q) (hM : k * q = M) (M0 : 0 ≤ M) (M1 : M ≤ 412316860416) (hz : r - g / 3072 = z) (hv : g % 3072 = v)
    (C1 : Hid (∀ w, Calls Try.prog 12 #[.agg #[.int .i64 0, .int .i64 0, .bool false, .int .i64 0], .int .i64 0, .int .i64 r] w fun e w' => e = .returned (.agg #[.int .i64 r, .int .i64 0, .bool false, .int .i64 0]) ∧ Below w.heap.size w w'))
    (C2 : Hid (∀ w, Calls Try.prog 12 #[.agg #[.int .i64 r, .int .i64 0, .bool false, .int .i64 0], .int .i64 1, .int .i64 1] w fun e w' => e = .returned (.agg #[.int .i64 r, .int .i64 r, .bool true, .int .i64 0]) ∧ Below w.heap.size w w'))
    (C3 : Hid (∀ w, Calls Try.prog 8 #[.agg #[.int .i64 r, .int .i64 r, .bool true, .int .i64 0], .int .i64 (M + g)] w fun e w' => e = .returned (.tuple #[.agg #[.int .i64 r, .int .i64 z, .bool true, .int .i64 v], .int .i64 k]) ∧ Below w.heap.size w w'))
    (hk : k = 0) (hg : g = 0) : Calls Try.prog 6 #[.int .i64 a0, .int .i64 a1, .int .i64 a2] w fun e w' => e = .returned (.bool true) ∧ Below w.heap.size w w' := by
  subst hk
  subst hg
  have e1 : M = 0 := by rw [← hM, Int.zero_mul]
  subst e1
  have e2 : r = z := by omega
  subst e2
  have e3 : 0 = v := by omega
  subst e3
  clear hz hv
  go_enter Try.func6, Try.ntmps6
  go_wp2_with fail
  refine (C1.out _).mono ?_
  rintro e w1 ⟨rfl, b1⟩
  go_wp2_with fail
  refine (C2.out _).mono ?_
  rintro e w2 ⟨rfl, b2⟩
  have b2' := bnext b1 b2
  have B2 := hide (b2'.alloc b2'.size (.cells #[.int .i64 r, .int .i64 r, .bool true, .int .i64 0] 23))
  clear b1 b2 b2'
  go_wp2_with fail
  refine (C3.out _).mono ?_
  rintro e w3 ⟨rfl, b3⟩
  have T3 := hide ((hasT_new w2 r r true 0).next b3)
  have B3 := hide ((bnext B2.out b3).alloc (bnext B2.out b3).size (.cells #[.int .i64 r, .int .i64 r, .bool true, .int .i64 0] 23))
  clear b3 B2
  have tl := T3.out.lt
  have t0 := T3.out.c0
  have t1 := T3.out.c1
  have t2 := T3.out.c2
  have t3 := T3.out.c3
  go_wp2
  go_ret
  exact ⟨rfl, B3.out⟩
theorem rate_rest (a0 a1 a2 r k q y g M z v : Int) (w : World) (er : bits .and .i64 a0 127 = r) (r0 : 0 ≤ r) (r1 : r ≤ 127) (ek : bits .and .i64 a1 1048575 = k) (k0 : 0 ≤ k) (k1 : k ≤ 1048575) (hq : (r + 1) * 3072 = q) (q0 : 3072 ≤ q) (q1 : q ≤ 393216)
    (ey : a2.tmod q = y) (eg : (y + q).tmod q = g) (y0 : -q < y) (y1 : y < q) (g0 : 0 ≤ g) (g1 : g < q) (hM : k * q = M) (M0 : 0 ≤ M) (M1 : M ≤ 412316860416) (hz : r - g / 3072 = z) (hv : g % 3072 = v)
    (C1 : Hid (∀ w, Calls Try.prog 12 #[.agg #[.int .i64 0, .int .i64 0, .bool false, .int .i64 0], .int .i64 0, .int .i64 r] w fun e w' => e = .returned (.agg #[.int .i64 r, .int .i64 0, .bool false, .int .i64 0]) ∧ Below w.heap.size w w'))
    (C2 : Hid (∀ w, Calls Try.prog 12 #[.agg #[.int .i64 r, .int .i64 0, .bool false, .int .i64 0], .int .i64 1, .int .i64 1] w fun e w' => e = .returned (.agg #[.int .i64 r, .int .i64 r, .bool true, .int .i64 0]) ∧ Below w.heap.size w w'))
    (C3 : Hid (∀ w, Calls Try.prog 8 #[.agg #[.int .i64 r, .int .i64 r, .bool true, .int .i64 0], .int .i64 (M + g)] w fun e w' => e = .returned (.tuple #[.agg #[.int .i64 r, .int .i64 z, .bool true, .int .i64 v], .int .i64 k]) ∧ Below w.heap.size w w'))
    (hk : k = 0) (hg : (g == 0) = false) : Calls Try.prog 6 #[.int .i64 a0, .int .i64 a1, .int .i64 a2] w fun e w' => e = .returned (.bool true) ∧ Below w.heap.size w w' := by
  subst hk
  have e1 : 0 = M := by rw [← hM, Int.zero_mul]
  subst e1
  rw [Int.zero_add] at C3
  go_enter Try.func6, Try.ntmps6
  go_wp2_with fail
  refine (C1.out _).mono ?_
  rintro e w1 ⟨rfl, b1⟩
  go_wp2_with fail
  refine (C2.out _).mono ?_
  rintro e w2 ⟨rfl, b2⟩
  have b2' := bnext b1 b2
  have B2 := hide (b2'.alloc b2'.size (.cells #[.int .i64 r, .int .i64 r, .bool true, .int .i64 0] 23))
  clear b1 b2 b2'
  go_wp2_with fail
  refine (C3.out _).mono ?_
  rintro e w3 ⟨rfl, b3⟩
  have T3 := hide ((hasT_new w2 r r true 0).next b3)
  have B3 := hide ((bnext B2.out b3).alloc (bnext B2.out b3).size (.cells #[.int .i64 r, .int .i64 z, .bool true, .int .i64 v] 23))
  clear b3 B2
  have tl := T3.out.lt
  have t0 := T3.out.c0
  have t1 := T3.out.c1
  have t2 := T3.out.c2
  have t3 := T3.out.c3
  go_wp2
  go_ret
  exact ⟨rfl, B3.out⟩
theorem rate_some (a0 a1 a2 r k q y g M z v : Int) (w : World) (er : bits .and .i64 a0 127 = r) (r0 : 0 ≤ r) (r1 : r ≤ 127) (ek : bits .and .i64 a1 1048575 = k) (k0 : 0 ≤ k) (k1 : k ≤ 1048575) (hq : (r + 1) * 3072 = q) (q0 : 3072 ≤ q) (q1 : q ≤ 393216)
    (ey : a2.tmod q = y) (eg : (y + q).tmod q = g) (y0 : -q < y) (y1 : y < q) (g0 : 0 ≤ g) (g1 : g < q) (hM : k * q = M) (M0 : 0 ≤ M) (M1 : M ≤ 412316860416) (hz : r - g / 3072 = z) (hv : g % 3072 = v)
    (C1 : Hid (∀ w, Calls Try.prog 12 #[.agg #[.int .i64 0, .int .i64 0, .bool false, .int .i64 0], .int .i64 0, .int .i64 r] w fun e w' => e = .returned (.agg #[.int .i64 r, .int .i64 0, .bool false, .int .i64 0]) ∧ Below w.heap.size w w'))
    (C2 : Hid (∀ w, Calls Try.prog 12 #[.agg #[.int .i64 r, .int .i64 0, .bool false, .int .i64 0], .int .i64 1, .int .i64 1] w fun e w' => e = .returned (.agg #[.int .i64 r, .int .i64 r, .bool true, .int .i64 0]) ∧ Below w.heap.size w w'))
    (C3 : Hid (∀ w, Calls Try.prog 8 #[.agg #[.int .i64 r, .int .i64 r, .bool true, .int .i64 0], .int .i64 (M + g)] w fun e w' => e = .returned (.tuple #[.agg #[.int .i64 r, .int .i64 z, .bool true, .int .i64 v], .int .i64 k]) ∧ Below w.heap.size w w'))
    (hk : (k == 0) = false) : Calls Try.prog 6 #[.int .i64 a0, .int .i64 a1, .int .i64 a2] w fun e w' => e = .returned (.bool true) ∧ Below w.heap.size w w' := by
  go_enter Try.func6, Try.ntmps6
  go_wp2_with fail
  refine (C1.out _).mono ?_
  rintro e w1 ⟨rfl, b1⟩
  go_wp2_with fail
  refine (C2.out _).mono ?_
  rintro e w2 ⟨rfl, b2⟩
  have b2' := bnext b1 b2
  have B2 := hide (b2'.alloc b2'.size (.cells #[.int .i64 r, .int .i64 r, .bool true, .int .i64 0] 23))
  clear b1 b2 b2'
  go_wp2_with fail
  refine (C3.out _).mono ?_
  rintro e w3 ⟨rfl, b3⟩
  have T3 := hide ((hasT_new w2 r r true 0).next b3)
  have B3 := hide ((bnext B2.out b3).alloc (bnext B2.out b3).size (.cells #[.int .i64 r, .int .i64 z, .bool true, .int .i64 v] 23))
  clear b3 B2
  have tl := T3.out.lt
  have t0 := T3.out.c0
  have t1 := T3.out.c1
  have t2 := T3.out.c2
  have t3 := T3.out.c3
  go_wp2
  go_ret
  exact ⟨rfl, B3.out⟩
theorem timerRate_walk (a0 a1 a2 : Int) (w0 : (Lit.int .i64 a0).wf = true) (w1 : (Lit.int .i64 a1).wf = true) (w2 : (Lit.int .i64 a2).wf = true) (w : World) :
    Calls Try.prog 6 #[.int .i64 a0, .int .i64 a1, .int .i64 a2] w fun e w' => e = .returned (.bool true) ∧ Below w.heap.size w w' := by
  clear w0 w1 w2
  obtain ⟨r, er, r0, r1⟩ := low_of a0
  obtain ⟨k, ek, k0, k1⟩ : ∃ k, bits .and .i64 a1 1048575 = k ∧ 0 ≤ k ∧ k ≤ 1048575 := ⟨_, rfl, by rw [and_1048575]; omega, by rw [and_1048575]; omega⟩
  obtain ⟨q, hq⟩ : ∃ q, (r + 1) * 3072 = q := ⟨_, rfl⟩
  have q0 : 3072 ≤ q := by omega
  have q1 : q ≤ 393216 := by omega
  obtain ⟨y, g, ey, eg, y0, y1, g0, g1⟩ := rest_of a2 q (by omega)
  obtain ⟨M, hM⟩ : ∃ M, k * q = M := ⟨_, rfl⟩
  have M0 : 0 ≤ M := by rw [← hM]; exact Int.mul_nonneg k0 (by omega)
  have M1 : M ≤ 412316860416 := by
    have h1 : k * q ≤ 1048575 * q := Int.mul_le_mul_of_nonneg_right k1 (by omega)
    omega
  have C1 := hide (fun w => write_first r0 r1 w)
  have C2 := hide (fun w => write_on r 0 0 w)
  have C3 := hide (fun w => adv_rate r0 r1 k0 hq hM M1 g0 g1 w)
  obtain ⟨z, hz⟩ : ∃ z, r - g / 3072 = z := ⟨_, rfl⟩
  obtain ⟨v, hv⟩ : ∃ v, g % 3072 = v := ⟨_, rfl⟩
  rw [hz, hv] at C3
  by_cases hk : k = 0
  · by_cases hg : g = 0
    · exact rate_none a0 a1 a2 r k q y g M z v w er r0 r1 ek k0 k1 hq q0 q1 ey eg y0 y1 g0 g1 hM M0 M1 hz hv C1 C2 C3 hk hg
    · exact rate_rest a0 a1 a2 r k q y g M z v w er r0 r1 ek k0 k1 hq q0 q1 ey eg y0 y1 g0 g1 hM M0 M1 hz hv C1 C2 C3 hk (by simpa using hg)
  · exact rate_some a0 a1 a2 r k q y g M z v w er r0 r1 ek k0 k1 hq q0 q1 ey eg y0 y1 g0 g1 hM M0 M1 hz hv C1 C2 C3 (by simpa using hk)

set_option maxRecDepth 100000 in
theorem timerRate_lifted (os : Os) (started : os.Started) (H : Type) (enc : TypeId × Value → H) :
    ReturnsInHanded {} Try.checked os 6 .any (Rows.timerRateSpec.pre6 enc Try.prog Try.f6 Rows.timerRateRow.domain false) (Rows.timerRateSpec.post enc Try.prog Try.f6 false true false false) := by
  refine returnsInHanded_of_change (C := Try.checked) own started (by kernel_rfl) Try.func6
    (ChangeSpec.witness6 (enc := enc) (C := Try.checked) false ⟨#[], #[.int .i64 0, .int .i64 0, .int .i64 0], []⟩ 8 (by kernel_rfl) (by kernel_rfl) (by kernel_rfl) (by kernel_rfl)) ?_
  intro W base args ds gs before hval0 hW hcnd _
  have hval : ∀ (j : Nat) t v, Try.f6.params[j]? = some t → args[j]? = some v → Value.okWide Try.prog W .any base t v := hval0
  have hW' := hW
  obtain ⟨p, q, hA0, hV, rfl, hfz, hnd⟩ := hW
  have hA : DataW.TrodAll enc Try.prog W 0 (fun _ => true) true Try.f6.params.toList args.toList ds p := hA0
  rw [Try.params6] at hA hval
  obtain ⟨v0, vs0, d0, ds0, p0, q0, hargs, rfl, rfl, h0, r0⟩ := trodAll_cons hA
  obtain ⟨v1, vs1, d1, ds1, p1, q1, rfl, rfl, rfl, h1, r1⟩ := trodAll_cons r0
  obtain ⟨v2, vs2, d2, ds2, p2, q2, rfl, rfl, rfl, h2, r2⟩ := trodAll_cons r1
  obtain ⟨rfl, rfl, rfl⟩ := trodAll_nil r2
  obtain rfl : args = #[v0, v1, v2] := by cases args; simp_all
  obtain ⟨rfl, rfl⟩ := trodVars_none hV
  obtain ⟨a0, rfl, rfl, rfl, w0⟩ := open_int Try.underlying3 (hval 0 3 v0 rfl rfl) h0
  obtain ⟨a1, rfl, rfl, rfl, w1⟩ := open_int Try.underlying3 (hval 1 3 v1 rfl rfl) h1
  obtain ⟨a2, rfl, rfl, rfl, w2⟩ := open_int Try.underlying3 (hval 2 3 v2 rfl rfl) h2
  clear hA0 hval0
  refine (timerRate_walk a0 a1 a2 w0 w1 w2 W).mono fun e W' ⟨he, bel⟩ => ?_
  subst he
  exact ⟨_, rfl, _, _, _, [], _, [], hW', trodAll_mk1 (shut_bool Try.underlying4 _), (trodAll_cons_mk (shut_int Try.underlying3 w0) (trodAll_cons_mk (shut_int Try.underlying3 w1) (trodAll_cons_mk (shut_int Try.underlying3 w2) trodAll_mk0))), rfl, bel.frame _, fun h => by cases h⟩

theorem timerRate_over : Rows.timerRateRow.holds Try.pinned (OpenSpec.ofChange Rows.timerRateSpec) :=
  OpenClaim.holds_of_wide 6 Try.f6 rfl rfl rfl rfl rfl rfl rfl ⟨rfl, rfl, rfl, rfl, rfl⟩ rfl rfl rfl rfl rfl (by kernel_rfl) Try.func6 (by kernel_rfl)
    (of_decide_eq_true (by kernel_rfl)) (by unfold Func.isWrapper; first | (rw [if_pos (by decide +kernel)]; kernel_rfl) | (rw [if_neg (by decide +kernel)]; exact ⟨rfl, rfl⟩))
    (fun os started H enc _ => timerRate_lifted os started H enc)

theorem timerRate_holds : Rows.TimerRateSaid := timerRate_over
#print axioms timerRate_holds
end Go.Proofs.Ytcppphnnaojbhaa
