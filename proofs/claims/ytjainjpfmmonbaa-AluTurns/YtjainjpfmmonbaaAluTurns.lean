/- For every number and a bool the law AluTurns of layer 2 returns true: eight turns to the left, and one more for the carry, bring back the byte, and the carry; so to the right; left and then right, too. No condition. -/
import Derived.Test.YtjainjpfmmonbaaAluDo
import Derived.Test.YtjainjpfmmonbaaPlainLaw
namespace Go.Proofs.Ytjainjpfmmonbaa
open Go.ChangeShapes Go.WideShapes Go.ChangeAt Go.RowKit
open Go.ChangeMaps (open_string shut_string)
set_option linter.unusedVariables false
theorem own : ownKnob Try.prog.godebug = none := by kernel_rfl

theorem aluTurns_walk (a0 : Int) (a1 : Bool) (w0 : (Lit.int .i64 a0).wf = true) (w : World) :
    Calls Try.prog 6 #[.int .i64 a0, .bool a1] w fun e w' => e = .returned (.bool true) ∧ Below w.heap.size w w' := by
  have hm := isByte_mod a0
  have hx := and_255 a0
  generalize a0 % 256 = m at *
  obtain ⟨c, hc⟩ : ∃ c, c = b01 a1 := ⟨_, rfl⟩
  have hp : IsByte c := by rw [hc]; cases a1 <;> exact ⟨by decide, by decide⟩
  have hc2 : c % 2 = c := by rw [hc]; cases a1 <;> decide
  have h01 : 0 ≤ c ∧ c ≤ 1 := by rw [hc]; cases a1 <;> decide
  have h9 := rot_9 (m + 256 * c) (by have := hm.1; omega) (by have := hm.2; omega)
  obtain ⟨x, u, hd1, bx, bu, hr1⟩ := rol_step c hm
  obtain ⟨y, v, hd2, by', bv, hr2⟩ := ror_step u bx
  have hy : y = m ∧ v % 2 = c := by
    obtain ⟨m0, m1⟩ := hm; obtain ⟨y0, y1⟩ := by'
    rw [hr1, there_back _ (by omega) (by omega)] at hr2
    omega
  obtain ⟨rfl, hv⟩ := hy
  have c1 := hide (do_ok 10 0 _ _ _ _ b0 hm hp hd1)
  have c2 := hide (do_ok 12 0 _ _ _ _ b0 bx bu hd2)
  obtain ⟨f, hf⟩ : ∃ f, doOf 13 0 y 0 = ((y + 1) % 256, f) := ⟨_, rfl⟩
  have c3 := hide (do_ok 13 0 _ _ _ _ b0 hm b0 hf)
  obtain ⟨g, hg⟩ : ∃ g, doOf 14 0 ((y + 1) % 256) 0 = (y, g) := by
    have e : y = ((y + 1) % 256 + 255) % 256 := by obtain ⟨m0, m1⟩ := hm; omega
    have e' : doOf 14 0 ((y + 1) % 256) 0 = (((y + 1) % 256 + 255) % 256, nzOf 0 (((y + 1) % 256 + 255) % 256)) := rfl
    rw [e', ← e]; exact ⟨_, rfl⟩
  have c4 := hide (do_ok 14 0 _ _ _ _ b0 (isByte_mod _) b0 hg)
  have e1 := and_255 (y + 1)
  have e2 := and_1 v
  rw [hv] at e2
  have H := hide (And.intro hm (And.intro hp h9))
  obtain ⟨m0, m1⟩ := hm
  have HX := hide hc2
  clear hd1 hd2 hr1 hr2 hf hg hv bx bu by' bv hp h9 hc2
  cases a1
  · have hc' : c = 0 := hc
    subst hc'
    clear hc
    go_enter Try.func6, Try.ntmps6
    go_wp2_with fail
    go_loopw [6, 7, 8, 9, 10] (fun sa sq sb ss si wr => ∃ (j : Nat) (a q b s : Int), j ≤ 9 ∧ si = .int .i64 j ∧ sa = .int .i64 a ∧ sq = .int .i64 q ∧ sb = .int .i64 b ∧ ss = .int .i64 s ∧ IsByte a ∧ IsByte q ∧ IsByte b ∧ IsByte s ∧ a + 256 * (q % 2) = rotL (y + 256 * 0) j ∧ b + 256 * (s % 2) = rotR (y + 256 * 0) j ∧ Below w.heap.size w wr) (fun _ _ _ _ si _ => 9 - (intOf si).toNat)
    case atStart => exact ⟨0, y, 0, y, 0, by omega, rfl, rfl, rfl, rfl, rfl, H.out.1, H.out.2.1, H.out.1, H.out.2.1, rfl, rfl, Below.refl _ _⟩
    case round =>
      obtain ⟨j, a, q, b, s, hj, rfl, rfl, rfl, rfl, rfl, ba, bq, bb, bs, hL, hR, bel⟩ := hrel
      by_cases hlt : j < 9
      · obtain ⟨a', q', ha', ba', bq', hL'⟩ := rol_step q ba
        obtain ⟨b', s', hb', bb', bs', hR'⟩ := ror_step s bb
        have d1 := hide (do_ok 10 0 _ _ _ _ b0 ba bq ha')
        have d2 := hide (do_ok 12 0 _ _ _ _ b0 bb bs hb')
        have HL : Hid (a' + 256 * (q' % 2) = rotL (y + 256 * 0) (j + 1)) := hide (by rw [hL', hL]; rfl)
        have HR : Hid (b' + 256 * (s' % 2) = rotR (y + 256 * 0) (j + 1)) := hide (by rw [hR', hR]; rfl)
        have HB := hide (And.intro ba' (And.intro bq' (And.intro bb' bs')))
        clear hL hR hL' hR' ha' hb' ba bq bb bs ba' bq' bb' bs'
        go_wp2_with fail
        refine (d1.out _).mono ?_
        rintro e w1 ⟨rfl, b1⟩
        go_wp2_with fail
        refine (d2.out _).mono ?_
        rintro e w2 ⟨rfl, b2⟩
        go_wp2_with fail
        go_roundw
        case rel => exact ⟨j + 1, a', q', b', s', by omega, by go_num, rfl, rfl, rfl, rfl, HB.out.1, HB.out.2.1, HB.out.2.2.1, HB.out.2.2.2, HL.out, HR.out, bnext (bnext bel b1) b2⟩
        case measure => simp [intOf]; omega
      · obtain rfl : j = 9 := by omega
        rw [H.out.2.2.1] at hL
        rw [H.out.2.2.2] at hR
        have k1 := and_1 q
        have k2 := and_1 s
        have hA : a = y ∧ q % 2 = 0 := by obtain ⟨z0, z1⟩ := ba; omega
        have hB : b = y ∧ s % 2 = 0 := by obtain ⟨z0, z1⟩ := bb; omega
        rw [hA.2] at k1
        rw [hB.2] at k2
        obtain ⟨rfl, _⟩ := hA
        obtain ⟨rfl, _⟩ := hB
        clear hL hR ba bq bb bs
        go_wp2_with fail
        refine (c1.out _).mono ?_
        rintro e w1 ⟨rfl, b1⟩
        go_wp2_with fail
        refine (c2.out _).mono ?_
        rintro e w2 ⟨rfl, b2⟩
        go_wp2_with fail
        refine (c3.out _).mono ?_
        rintro e w3 ⟨rfl, b3⟩
        go_wp2_with fail
        refine (c4.out _).mono ?_
        rintro e w4 ⟨rfl, b4⟩
        go_wp2_with fail
        go_ret
        exact ⟨rfl, bnext (bnext (bnext (bnext bel b1) b2) b3) b4⟩
  · have hc' : c = 1 := hc
    subst hc'
    clear hc
    go_enter Try.func6, Try.ntmps6
    go_wp2_with fail
    go_loopw [6, 7, 8, 9, 10] (fun sa sq sb ss si wr => ∃ (j : Nat) (a q b s : Int), j ≤ 9 ∧ si = .int .i64 j ∧ sa = .int .i64 a ∧ sq = .int .i64 q ∧ sb = .int .i64 b ∧ ss = .int .i64 s ∧ IsByte a ∧ IsByte q ∧ IsByte b ∧ IsByte s ∧ a + 256 * (q % 2) = rotL (y + 256 * 1) j ∧ b + 256 * (s % 2) = rotR (y + 256 * 1) j ∧ Below w.heap.size w wr) (fun _ _ _ _ si _ => 9 - (intOf si).toNat)
    case atStart => exact ⟨0, y, 1, y, 1, by omega, rfl, rfl, rfl, rfl, rfl, H.out.1, H.out.2.1, H.out.1, H.out.2.1, rfl, rfl, Below.refl _ _⟩
    case round =>
      obtain ⟨j, a, q, b, s, hj, rfl, rfl, rfl, rfl, rfl, ba, bq, bb, bs, hL, hR, bel⟩ := hrel
      by_cases hlt : j < 9
      · obtain ⟨a', q', ha', ba', bq', hL'⟩ := rol_step q ba
        obtain ⟨b', s', hb', bb', bs', hR'⟩ := ror_step s bb
        have d1 := hide (do_ok 10 0 _ _ _ _ b0 ba bq ha')
        have d2 := hide (do_ok 12 0 _ _ _ _ b0 bb bs hb')
        have HL : Hid (a' + 256 * (q' % 2) = rotL (y + 256 * 1) (j + 1)) := hide (by rw [hL', hL]; rfl)
        have HR : Hid (b' + 256 * (s' % 2) = rotR (y + 256 * 1) (j + 1)) := hide (by rw [hR', hR]; rfl)
        have HB := hide (And.intro ba' (And.intro bq' (And.intro bb' bs')))
        clear hL hR hL' hR' ha' hb' ba bq bb bs ba' bq' bb' bs'
        go_wp2_with fail
        refine (d1.out _).mono ?_
        rintro e w1 ⟨rfl, b1⟩
        go_wp2_with fail
        refine (d2.out _).mono ?_
        rintro e w2 ⟨rfl, b2⟩
        go_wp2_with fail
        go_roundw
        case rel => exact ⟨j + 1, a', q', b', s', by omega, by go_num, rfl, rfl, rfl, rfl, HB.out.1, HB.out.2.1, HB.out.2.2.1, HB.out.2.2.2, HL.out, HR.out, bnext (bnext bel b1) b2⟩
        case measure => simp [intOf]; omega
      · obtain rfl : j = 9 := by omega
        rw [H.out.2.2.1] at hL
        rw [H.out.2.2.2] at hR
        have k1 := and_1 q
        have k2 := and_1 s
        have hA : a = y ∧ q % 2 = 1 := by obtain ⟨z0, z1⟩ := ba; omega
        have hB : b = y ∧ s % 2 = 1 := by obtain ⟨z0, z1⟩ := bb; omega
        rw [hA.2] at k1
        rw [hB.2] at k2
        obtain ⟨rfl, _⟩ := hA
        obtain ⟨rfl, _⟩ := hB
        clear hL hR ba bq bb bs
        go_wp2_with fail
        refine (c1.out _).mono ?_
        rintro e w1 ⟨rfl, b1⟩
        go_wp2_with fail
        refine (c2.out _).mono ?_
        rintro e w2 ⟨rfl, b2⟩
        go_wp2_with fail
        refine (c3.out _).mono ?_
        rintro e w3 ⟨rfl, b3⟩
        go_wp2_with fail
        refine (c4.out _).mono ?_
        rintro e w4 ⟨rfl, b4⟩
        go_wp2_with fail
        go_ret
        exact ⟨rfl, bnext (bnext (bnext (bnext bel b1) b2) b3) b4⟩

set_option maxRecDepth 100000 in
theorem aluTurns_lifted (os : Os) (started : os.Started) (H : Type) (enc : TypeId × Value → H) :
    ReturnsInHanded {} Try.checked os 6 .any (Rows.aluTurnsSpec.pre6 enc Try.prog Try.f6 Rows.aluTurnsRow.domain false) (Rows.aluTurnsSpec.post enc Try.prog Try.f6 false true false false) := by
  refine returnsInHanded_of_change (C := Try.checked) own started (by kernel_rfl) Try.func6
    (ChangeSpec.witness6 (enc := enc) (C := Try.checked) false ⟨#[], #[.int .i64 0, .bool false], []⟩ 8 (by kernel_rfl) (by kernel_rfl) (by kernel_rfl) (by kernel_rfl)) ?_
  intro W base args ds gs before hval0 hW hcnd _
  have hval : ∀ (j : Nat) t v, Try.f6.params[j]? = some t → args[j]? = some v → Value.okWide Try.prog W .any base t v := hval0
  have hW' := hW
  obtain ⟨p, q, hA0, hV, rfl, hfz, hnd⟩ := hW
  have hA : DataW.TrodAll enc Try.prog W 0 (fun _ => true) true Try.f6.params.toList args.toList ds p := hA0
  rw [Try.params6] at hA hval
  obtain ⟨v0, vs0, d0, ds0, p0, q0, hargs, rfl, rfl, h0, r0⟩ := trodAll_cons hA
  obtain ⟨v1, vs1, d1, ds1, p1, q1, rfl, rfl, rfl, h1, r1⟩ := trodAll_cons r0
  obtain ⟨rfl, rfl, rfl⟩ := trodAll_nil r1
  obtain rfl : args = #[v0, v1] := by cases args; simp_all
  obtain ⟨rfl, rfl⟩ := trodVars_none hV
  obtain ⟨a0, rfl, rfl, rfl, w0⟩ := open_int Try.underlying3 (hval 0 3 v0 rfl rfl) h0
  obtain ⟨a1, rfl, rfl, rfl⟩ := open_bool Try.underlying4 (hval 1 4 v1 rfl rfl) h1
  clear hA0 hval0
  refine (aluTurns_walk a0 a1 w0 W).mono fun e W' ⟨he, bel⟩ => ?_
  subst he
  exact ⟨_, rfl, _, _, _, [], _, [], hW', trodAll_mk1 (shut_bool Try.underlying4 _), (trodAll_cons_mk (shut_int Try.underlying3 w0) (trodAll_cons_mk (shut_bool Try.underlying4 _) trodAll_mk0)), rfl, bel.frame _, fun h => by cases h⟩

theorem aluTurns_over : Rows.aluTurnsRow.holds Try.pinned (OpenSpec.ofChange Rows.aluTurnsSpec) :=
  OpenClaim.holds_of_wide 6 Try.f6 rfl rfl rfl rfl rfl rfl rfl ⟨rfl, rfl, rfl, rfl, rfl⟩ rfl rfl rfl rfl rfl (by kernel_rfl) Try.func6 (by kernel_rfl)
    (of_decide_eq_true (by kernel_rfl)) (by unfold Func.isWrapper; first | (rw [if_pos (by decide +kernel)]; kernel_rfl) | (rw [if_neg (by decide +kernel)]; exact ⟨rfl, rfl⟩))
    (fun os started H enc _ => aluTurns_lifted os started H enc)

theorem aluTurns_holds : Rows.AluTurnsSaid := aluTurns_over
#print axioms aluTurns_holds
end Go.Proofs.Ytjainjpfmmonbaa
