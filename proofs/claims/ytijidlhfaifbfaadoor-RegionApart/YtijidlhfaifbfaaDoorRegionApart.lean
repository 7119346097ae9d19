/- Two places of Rom, or of one page of Ram, are alike just if they are the same number; all pages of Ram show one. -/
import Derived.Test.YtijidlhfaifbfaaDoorRegLaid
import Derived.Test.YtijidlhfaifbfaaDoorTie
import Derived.Test.YtijidlhfaifbfaaDoorCards
import Derived.SevenTiedAt
import Derived.OpenShut
import Derived.ShutString
import Derived.ChangeOld
import Derived.Below
namespace Go.Proofs.YtijidlhfaifbfaaDoor
open Go.ChangeShapes Go.WideShapes Go.ChangeAt Go.RowKit
open Go.ChangeMaps (open_string shut_string)
set_option linter.unusedVariables false
theorem own : ownKnob Tryd.prog.godebug = none := by kernel_rfl

theorem and_1048575 (n : Int) : bits .and .i64 n 1048575 = n % 1048576 := and_mask 20 (by decide) n
theorem and_32767 (n : Int) : bits .and .i64 n 32767 = n % 32768 := and_mask 15 (by decide) n
theorem ram_or (n : Int) : bits .or .i64 2031616 (n % 32768) = 2031616 + n % 32768 := or_add 15 2031616 (n % 32768) (by decide) (by decide) (by decide) (by omega) (by omega) (by omega)

theorem apart_same (a0 a1 a m ga ra : Int) (w : World) (hL : HasPorts w) (ea : bits .and .i64 a0 1048575 = a) (eb : bits .and .i64 a1 1048575 = a)
    (em : bits .and .i64 a 32767 = m) (fm : bits .or .i64 2031616 m = 2031616 + m) (er : bits .and .i64 a 8191 = ra) (hg : ga * 8192 + ra = a) (g0 : 0 ≤ ga) (g1 : ga < 128) (r0 : 0 ≤ ra) (r1 : ra < 8192)
    (k1 : ∀ w, HasPorts w → Calls Tryd.prog 8 #[.int .i64 a] w fun e w' => e = .returned (.agg #[.int .i64 0, .int .i64 ga, .int .i64 ra]) ∧ Below w.heap.size w w')
    (k3 : ∀ w, HasPorts w → Calls Tryd.prog 8 #[.int .i64 (2031616 + m)] w fun e w' => e = .returned (.agg #[.int .i64 1, .int .i64 0, .int .i64 ra]) ∧ Below w.heap.size w w')
    (k5 : ∀ w, HasPorts w → Calls Tryd.prog 8 #[.int .i64 1048576] w fun e w' => e = .returned (.agg #[.int .i64 8, .int .i64 0, .int .i64 0]) ∧ Below w.heap.size w w') :
    Calls Tryd.prog 4 #[.int .i64 a0, .int .i64 a1] w fun e w' => e = .returned (.bool true) ∧ Below w.heap.size w w' := by
  have k2 := k1
  have k4 := k3
  have pk := fun x y z w => place_kind x y z w
  have HT := hide hL
  have c1 := hide k1
  have c2 := hide k2
  have c3 := hide k3
  have c4 := hide k4
  have c5 := hide k5
  clear hL k1 k2 k3 k4 k5
  go_enter Tryd.func4, Tryd.ntmps4
  go_wp2_with fail
  refine (c1.out _ HT.out).mono ?_
  rintro e w1 ⟨rfl, b1⟩
  go_wp2_with fail
  refine (c2.out _ (HT.out.next b1)).mono ?_
  rintro e w2 ⟨rfl, b2⟩
  have B2 := hide (bnext b1 b2)
  have B3 := hide ((B2.out.alloc B2.out.size (.cells #[.int .i64 0, .int .i64 ga, .int .i64 ra] 25)).alloc (by have := B2.out.size; simp; omega) (.cells #[.int .i64 0, .int .i64 ga, .int .i64 ra] 25))
  clear b1 b2 B2
  go_wp2_with fail
  refine (c3.out _ (HT.out.next B3.out)).mono ?_
  rintro e w3 ⟨rfl, b3⟩
  have B4 := hide (bnext B3.out b3)
  clear B3 b3
  go_wp2_with fail
  refine (c4.out _ (HT.out.next B4.out)).mono ?_
  rintro e w4 ⟨rfl, b4⟩
  have B5 := hide (bnext B4.out b4)
  have B6 := hide ((B5.out.alloc B5.out.size (.cells #[.int .i64 1, .int .i64 0, .int .i64 ra] 25)).alloc (by have := B5.out.size; simp; omega) (.cells #[.int .i64 1, .int .i64 0, .int .i64 ra] 25))
  clear b4 B4 B5
  go_wp2_with fail
  refine (c5.out _ (HT.out.next B6.out)).mono ?_
  rintro e w5 ⟨rfl, b5⟩
  have B7 := hide (bnext B6.out b5)
  clear b5 B6
  go_wp2_with fail
  go_ret
  exact ⟨rfl, B7.out⟩
theorem apart_page (a0 a1 a b m n ga gb ra rb : Int) (w : World) (hL : HasPorts w) (ea : bits .and .i64 a0 1048575 = a) (eb : bits .and .i64 a1 1048575 = b) (ne : (a == b) = false)
    (em : bits .and .i64 a 32767 = m) (en : bits .and .i64 b 32767 = n) (fm : bits .or .i64 2031616 m = 2031616 + m) (fn : bits .or .i64 2031616 n = 2031616 + n) (er : bits .and .i64 a 8191 = ra) (es : bits .and .i64 b 8191 = rb)
    (hg : ga * 8192 + ra = a) (g0 : 0 ≤ ga) (g1 : ga < 128) (r0 : 0 ≤ ra) (r1 : ra < 8192)
    (hn : ¬ ga = gb)
    (k1 : ∀ w, HasPorts w → Calls Tryd.prog 8 #[.int .i64 a] w fun e w' => e = .returned (.agg #[.int .i64 0, .int .i64 ga, .int .i64 ra]) ∧ Below w.heap.size w w')
    (k2 : ∀ w, HasPorts w → Calls Tryd.prog 8 #[.int .i64 b] w fun e w' => e = .returned (.agg #[.int .i64 0, .int .i64 gb, .int .i64 rb]) ∧ Below w.heap.size w w')
    (k3 : ∀ w, HasPorts w → Calls Tryd.prog 8 #[.int .i64 (2031616 + m)] w fun e w' => e = .returned (.agg #[.int .i64 1, .int .i64 0, .int .i64 ra]) ∧ Below w.heap.size w w')
    (k4 : ∀ w, HasPorts w → Calls Tryd.prog 8 #[.int .i64 (2031616 + n)] w fun e w' => e = .returned (.agg #[.int .i64 1, .int .i64 0, .int .i64 rb]) ∧ Below w.heap.size w w')
    (k5 : ∀ w, HasPorts w → Calls Tryd.prog 8 #[.int .i64 1048576] w fun e w' => e = .returned (.agg #[.int .i64 8, .int .i64 0, .int .i64 0]) ∧ Below w.heap.size w w') :
    Calls Tryd.prog 4 #[.int .i64 a0, .int .i64 a1] w fun e w' => e = .returned (.bool true) ∧ Below w.heap.size w w' := by
  have pk := fun x y z w => place_kind x y z w
  by_cases hr : ra = rb
  · subst hr
    have HT := hide hL
    have c1 := hide k1
    have c2 := hide k2
    have c3 := hide k3
    have c4 := hide k4
    have c5 := hide k5
    clear hL k1 k2 k3 k4 k5
    go_enter Tryd.func4, Tryd.ntmps4
    go_wp2_with fail
    refine (c1.out _ HT.out).mono ?_
    rintro e w1 ⟨rfl, b1⟩
    go_wp2_with fail
    refine (c2.out _ (HT.out.next b1)).mono ?_
    rintro e w2 ⟨rfl, b2⟩
    have B2 := hide (bnext b1 b2)
    have B3 := hide ((B2.out.alloc B2.out.size (.cells #[.int .i64 0, .int .i64 ga, .int .i64 ra] 25)).alloc (by have := B2.out.size; simp; omega) (.cells #[.int .i64 0, .int .i64 gb, .int .i64 ra] 25))
    clear b1 b2 B2
    go_wp2_with fail
    refine (c3.out _ (HT.out.next B3.out)).mono ?_
    rintro e w3 ⟨rfl, b3⟩
    have B4 := hide (bnext B3.out b3)
    clear B3 b3
    go_wp2_with fail
    refine (c4.out _ (HT.out.next B4.out)).mono ?_
    rintro e w4 ⟨rfl, b4⟩
    have B5 := hide (bnext B4.out b4)
    have B6 := hide ((B5.out.alloc B5.out.size (.cells #[.int .i64 1, .int .i64 0, .int .i64 ra] 25)).alloc (by have := B5.out.size; simp; omega) (.cells #[.int .i64 1, .int .i64 0, .int .i64 ra] 25))
    clear b4 B4 B5
    go_wp2_with fail
    refine (c5.out _ (HT.out.next B6.out)).mono ?_
    rintro e w5 ⟨rfl, b5⟩
    have B7 := hide (bnext B6.out b5)
    clear b5 B6
    go_wp2_with fail
    go_ret
    exact ⟨rfl, B7.out⟩
  · have nr : (ra == rb) = false := by simpa using hr
    have HT := hide hL
    have c1 := hide k1
    have c2 := hide k2
    have c3 := hide k3
    have c4 := hide k4
    have c5 := hide k5
    clear hL k1 k2 k3 k4 k5
    go_enter Tryd.func4, Tryd.ntmps4
    go_wp2_with fail
    refine (c1.out _ HT.out).mono ?_
    rintro e w1 ⟨rfl, b1⟩
    go_wp2_with fail
    refine (c2.out _ (HT.out.next b1)).mono ?_
    rintro e w2 ⟨rfl, b2⟩
    have B2 := hide (bnext b1 b2)
    have B3 := hide ((B2.out.alloc B2.out.size (.cells #[.int .i64 0, .int .i64 ga, .int .i64 ra] 25)).alloc (by have := B2.out.size; simp; omega) (.cells #[.int .i64 0, .int .i64 gb, .int .i64 rb] 25))
    clear b1 b2 B2
    go_wp2_with fail
    refine (c3.out _ (HT.out.next B3.out)).mono ?_
    rintro e w3 ⟨rfl, b3⟩
    have B4 := hide (bnext B3.out b3)
    clear B3 b3
    go_wp2_with fail
    refine (c4.out _ (HT.out.next B4.out)).mono ?_
    rintro e w4 ⟨rfl, b4⟩
    have B5 := hide (bnext B4.out b4)
    have B6 := hide ((B5.out.alloc B5.out.size (.cells #[.int .i64 1, .int .i64 0, .int .i64 ra] 25)).alloc (by have := B5.out.size; simp; omega) (.cells #[.int .i64 1, .int .i64 0, .int .i64 rb] 25))
    clear b4 B4 B5
    go_wp2_with fail
    refine (c5.out _ (HT.out.next B6.out)).mono ?_
    rintro e w5 ⟨rfl, b5⟩
    have B7 := hide (bnext B6.out b5)
    clear b5 B6
    go_wp2_with fail
    go_ret
    exact ⟨rfl, B7.out⟩
theorem apart_rest (a0 a1 a b m n ga gb ra rb : Int) (w : World) (hL : HasPorts w) (ea : bits .and .i64 a0 1048575 = a) (eb : bits .and .i64 a1 1048575 = b) (ne : (a == b) = false)
    (em : bits .and .i64 a 32767 = m) (en : bits .and .i64 b 32767 = n) (fm : bits .or .i64 2031616 m = 2031616 + m) (fn : bits .or .i64 2031616 n = 2031616 + n) (er : bits .and .i64 a 8191 = ra) (es : bits .and .i64 b 8191 = rb)
    (hg : ga * 8192 + ra = a) (g0 : 0 ≤ ga) (g1 : ga < 128) (r0 : 0 ≤ ra) (r1 : ra < 8192)
    (hr : ¬ ra = rb) (hn : ga = gb)
    (k1 : ∀ w, HasPorts w → Calls Tryd.prog 8 #[.int .i64 a] w fun e w' => e = .returned (.agg #[.int .i64 0, .int .i64 ga, .int .i64 ra]) ∧ Below w.heap.size w w')
    (k2 : ∀ w, HasPorts w → Calls Tryd.prog 8 #[.int .i64 b] w fun e w' => e = .returned (.agg #[.int .i64 0, .int .i64 gb, .int .i64 rb]) ∧ Below w.heap.size w w')
    (k3 : ∀ w, HasPorts w → Calls Tryd.prog 8 #[.int .i64 (2031616 + m)] w fun e w' => e = .returned (.agg #[.int .i64 1, .int .i64 0, .int .i64 ra]) ∧ Below w.heap.size w w')
    (k4 : ∀ w, HasPorts w → Calls Tryd.prog 8 #[.int .i64 (2031616 + n)] w fun e w' => e = .returned (.agg #[.int .i64 1, .int .i64 0, .int .i64 rb]) ∧ Below w.heap.size w w')
    (k5 : ∀ w, HasPorts w → Calls Tryd.prog 8 #[.int .i64 1048576] w fun e w' => e = .returned (.agg #[.int .i64 8, .int .i64 0, .int .i64 0]) ∧ Below w.heap.size w w') :
    Calls Tryd.prog 4 #[.int .i64 a0, .int .i64 a1] w fun e w' => e = .returned (.bool true) ∧ Below w.heap.size w w' := by
  have pk := fun x y z w => place_kind x y z w
  subst hn
  have nr : (ra == rb) = false := by simpa using hr
  have HT := hide hL
  have c1 := hide k1
  have c2 := hide k2
  have c3 := hide k3
  have c4 := hide k4
  have c5 := hide k5
  clear hL k1 k2 k3 k4 k5
  go_enter Tryd.func4, Tryd.ntmps4
  go_wp2_with fail
  refine (c1.out _ HT.out).mono ?_
  rintro e w1 ⟨rfl, b1⟩
  go_wp2_with fail
  refine (c2.out _ (HT.out.next b1)).mono ?_
  rintro e w2 ⟨rfl, b2⟩
  have B2 := hide (bnext b1 b2)
  have B3 := hide ((B2.out.alloc B2.out.size (.cells #[.int .i64 0, .int .i64 ga, .int .i64 ra] 25)).alloc (by have := B2.out.size; simp; omega) (.cells #[.int .i64 0, .int .i64 ga, .int .i64 rb] 25))
  clear b1 b2 B2
  go_wp2_with fail
  refine (c3.out _ (HT.out.next B3.out)).mono ?_
  rintro e w3 ⟨rfl, b3⟩
  have B4 := hide (bnext B3.out b3)
  clear B3 b3
  go_wp2_with fail
  refine (c4.out _ (HT.out.next B4.out)).mono ?_
  rintro e w4 ⟨rfl, b4⟩
  have B5 := hide (bnext B4.out b4)
  have B6 := hide ((B5.out.alloc B5.out.size (.cells #[.int .i64 1, .int .i64 0, .int .i64 ra] 25)).alloc (by have := B5.out.size; simp; omega) (.cells #[.int .i64 1, .int .i64 0, .int .i64 rb] 25))
  clear b4 B4 B5
  go_wp2_with fail
  refine (c5.out _ (HT.out.next B6.out)).mono ?_
  rintro e w5 ⟨rfl, b5⟩
  have B7 := hide (bnext B6.out b5)
  clear b5 B6
  go_wp2_with fail
  go_ret
  exact ⟨rfl, B7.out⟩

theorem regionApart_walk (a0 a1 : Int) (w : World) (w0 : (Lit.int .i64 a0).wf = true) (w1 : (Lit.int .i64 a1).wf = true) (hL : HasPorts w) :
    Calls Tryd.prog 4 #[.int .i64 a0, .int .i64 a1] w fun e w' => e = .returned (.bool true) ∧ Below w.heap.size w w' := by
  have ea := and_1048575 a0
  have eb := and_1048575 a1
  obtain ⟨a, ha⟩ : ∃ a, a = a0 % 1048576 := ⟨_, rfl⟩
  obtain ⟨b, hb⟩ : ∃ b, b = a1 % 1048576 := ⟨_, rfl⟩
  rw [← ha] at ea
  rw [← hb] at eb
  have A : 0 ≤ a ∧ a < 1048576 := by omega
  have B : 0 ≤ b ∧ b < 1048576 := by omega
  have k1 := fun w (_ : HasPorts w) => where_rom a w A.1 A.2
  have k2 := fun w (_ : HasPorts w) => where_rom b w B.1 B.2
  have k3 := fun w (_ : HasPorts w) => where_ram (2031616 + a % 32768) w (by omega) (by omega)
  have k4 := fun w (_ : HasPorts w) => where_ram (2031616 + b % 32768) w (by omega) (by omega)
  have k5 := fun w (_ : HasPorts w) => where_open 1048576 w (by decide) (by decide) (by decide)
  rw [show (2031616 + a % 32768) % 8192 = a % 8192 by omega] at k3
  rw [show (2031616 + b % 32768) % 8192 = b % 8192 by omega] at k4
  by_cases h : a = b
  · subst h
    exact apart_same a0 a1 a _ _ _ w hL ea eb (and_32767 a) (ram_or a) (and_8191 a) (by omega) (by omega) (by omega) (by omega) (by omega) k1 k3 k5
  · have ne : (a == b) = false := by simpa using h
    by_cases hn : a / 8192 = b / 8192
    · exact apart_rest a0 a1 a b _ _ _ _ _ _ w hL ea eb ne (and_32767 a) (and_32767 b) (ram_or a) (ram_or b) (and_8191 a) (and_8191 b) (by omega) (by omega) (by omega) (by omega) (by omega) (by omega) hn k1 k2 k3 k4 k5
    · exact apart_page a0 a1 a b _ _ _ _ _ _ w hL ea eb ne (and_32767 a) (and_32767 b) (ram_or a) (ram_or b) (and_8191 a) (and_8191 b) (by omega) (by omega) (by omega) (by omega) (by omega) hn k1 k2 k3 k4 k5

set_option maxRecDepth 100000 in
theorem regionApart_lifted (os : Os) (started : os.Started) (H : Type) (enc : TypeId × Value → H) :
    ReturnsInHanded {} Tryd.checked os 4 .any (fun w args => (Rows.regionApartSpec.pre enc Tryd.prog Tryd.f4 [] false w args ∧ laidMetH Tryd.prog laidReg w) ∧ sizedMet enc Tryd.prog Tryd.f4 (OpenSpec.ofChange Rows.regionApartSpec) false w args)
      (Rows.regionApartSpec.post enc Tryd.prog Tryd.f4 false true false false) := by
  refine returnsInHanded_of_change_and (C := Tryd.checked) (X := fun w _ => laidMetH Tryd.prog laidReg w) (fun _ _ _ hh h => h.of_heap hh) own started (by kernel_rfl) Tryd.func4
    (ChangeSpec.witness_at (enc := enc) (C := Tryd.checked) (os := os) (X := fun w _ => laidMetH Tryd.prog laidReg w) false (laidWorld os) #[.int .i64 0, .int .i64 0] 8 rfl (by kernel_rfl) (by kernel_rfl) (by kernel_rfl) (by kernel_rfl) (by kernel_rfl) (laidWorld_reg os _)) ?_
  intro W base args ds gs before hval0 hW _ _ hL _
  have hval : ∀ (j : Nat) t v, Tryd.f4.params[j]? = some t → args[j]? = some v → Value.okWide Tryd.prog W .any base t v := hval0
  have hW' := hW
  obtain ⟨p, q, hA0, hV, rfl, hfz, hnd⟩ := hW
  have hA : DataW.TrodAll enc Tryd.prog W 0 (fun _ => true) true Tryd.f4.params.toList args.toList ds p := hA0
  rw [Tryd.params4] at hA hval
  obtain ⟨v0, vs0, d0, ds0, p0, q0, hargs, rfl, rfl, h0, r0⟩ := trodAll_cons hA
  obtain ⟨v1, vs1, d1, ds1, p1, q1, rfl, rfl, rfl, h1, r1⟩ := trodAll_cons r0
  obtain ⟨rfl, rfl, rfl⟩ := trodAll_nil r1
  obtain rfl : args = #[v0, v1] := by cases args; simp_all
  obtain ⟨rfl, rfl⟩ := trodVars_none hV
  obtain ⟨a0, rfl, rfl, rfl, w0⟩ := open_int Tryd.underlying3 (hval 0 3 v0 rfl rfl) h0
  obtain ⟨a1, rfl, rfl, rfl, w1⟩ := open_int Tryd.underlying3 (hval 1 3 v1 rfl rfl) h1
  clear hA0 hval0
  refine (regionApart_walk a0 a1 W w0 w1 (laid_reg hL)).mono fun e W' ⟨he, bel⟩ => ?_
  subst he
  exact ⟨_, rfl, _, _, _, [], _, [], hW', trodAll_mk1 (shut_bool Tryd.underlying4 _), (trodAll_cons_mk (shut_int Tryd.underlying3 w0) (trodAll_cons_mk (shut_int Tryd.underlying3 w1) trodAll_mk0)), rfl, bel.frame _, fun h => by cases h⟩

theorem regionApart_over : Rows.regionApartRow.holds Tryd.pinned (OpenSpec.ofChange Rows.regionApartSpec) :=
  OpenClaim.holds_of_wide 4 Tryd.f4 rfl rfl rfl rfl rfl rfl rfl ⟨rfl, rfl, rfl, rfl, rfl⟩ rfl rfl rfl rfl rfl (by kernel_rfl) Tryd.func4 (by kernel_rfl)
    (of_decide_eq_true (by kernel_rfl)) (by unfold Func.isWrapper; first | (rw [if_pos (by decide +kernel)]; kernel_rfl) | (rw [if_neg (by decide +kernel)]; exact ⟨rfl, rfl⟩))
    (fun os started H enc _ => regionApart_lifted os started H enc)

theorem regionApart_row : Rows.RegionApartSaid := regionApart_over

theorem regionApart_holds : Rows.RegionApartCardSaid :=
  Claim7.holds_tied_plain_at .later [] [.data] true (true, "65727b1b36d0c9c5ed185f47aec5976cd43f872a9dff037c22ecfb625d67ab03") false
    regionApart_row (fun _ h => by cases h) (by kernel_rfl) (fun _ h => by cases h) regionApart_row_tie rfl ⟨rfl, rfl⟩ (by kernel_rfl) rfl
    (fun f fn hf hfn => by
      obtain rfl : f = 4 := Option.some.inj ((show Tryd.prog.funcNamed "phosphor/phosphorlaw06.RegionApart" = some 4 by kernel_rfl).symm.trans hf) |>.symm
      obtain rfl : fn = Tryd.f4 := (Option.some.inj (Tryd.func4.symm.trans hfn)).symm
      exact ⟨by kernel_rfl, fun j t ht => by
        rw [Tryd.params4] at ht
        rcases j with _ | _ | j
        · obtain rfl : t = 3 := by simpa using ht.symm
          exact (show Tryd.prog.wantsStandIn 3 = false by kernel_rfl)
        · obtain rfl : t = 3 := by simpa using ht.symm
          exact (show Tryd.prog.wantsStandIn 3 = false by kernel_rfl)
        · simp at ht⟩)
    (by kernel_rfl)
#print axioms regionApart_holds
end Go.Proofs.YtijidlhfaifbfaaDoor
