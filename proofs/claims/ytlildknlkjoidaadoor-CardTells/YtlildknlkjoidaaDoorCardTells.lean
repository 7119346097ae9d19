/- For every row of bytes and every number: each byte of an image of two pages is told at its place, and 255 beside. -/
import Derived.Test.YtlildknlkjoidaaDoorCardSay
import Derived.Test.YtlildknlkjoidaaDoorTie
import Derived.Test.YtlildknlkjoidaaDoorCards
import Derived.Test.YtlildknlkjoidaaDoorArrays
import Derived.SevenTiedAt
import Derived.OpenShut
import Derived.ShutString
import Derived.ChangeOld
import Derived.Below
namespace Go.Proofs.YtlildknlkjoidaaDoor
open Go.ChangeShapes Go.WideShapes Go.ChangeAt Go.RowKit
open Go.ChangeMaps (open_string shut_string)
set_option linter.unusedVariables false
theorem own : ownKnob Tryd.prog.godebug = none := by kernel_rfl

theorem cardTells_walk (a0 : Option Addr) (len0 cap0 : Nat) (z0 : List Int) (a1 : Int) (w : World) (w0 : IsRow .u8 w a0 len0 cap0 z0) (w1 : (Lit.int .i64 a1).wf = true) (hL : HasTab w ∧ HasErr w) :
    Calls Tryd.prog 7 #[.slice a0 len0 cap0, .int .i64 a1] w fun e w' => e = .returned (.bool true) ∧ Below w.heap.size w w' := by
  obtain ⟨hT, hE⟩ := hL
  have c1 := hide (image_any 16384 a0 len0 cap0 z0 w (by decide) w0)
  have hand := hide (and_16383 a1)
  obtain ⟨r, hr⟩ : ∃ r, r = a1 % 16384 := ⟨_, rfl⟩
  have r0 : 0 ≤ r := by omega
  have r1 : r < 16384 := by omega
  have HT := hide hT
  have HE := hide hE
  have ea : bits .and .i64 a1 16383 = r := by rw [hand.out, hr]
  have eb : bits .and .i64 r 8191 = r % 8192 := and_8191 r
  clear hr w0 hT hE w1
  go_enter Tryd.func7, Tryd.ntmps7
  go_wp2_with fail
  refine c1.out.mono ?_
  rintro e w1 ⟨bs, hbl, rfl, hb, b1⟩
  have c2 := load_own w.heap.size 16384 bs w1 hb hbl (by decide) (HT.out.next b1) (HE.out.next b1)
  rw [show fromOf 16384 = 0 by decide, show errOf (16384 - 0) = 0 by decide] at c2
  have C2 := hide c2
  have B1 := hide b1
  have HB := hide hb
  have HL := hide hbl
  clear c2 b1 hb hbl
  go_wp2_with fail
  refine C2.out.mono ?_
  rintro e w2 ⟨⟨h, _⟩ | ⟨_, c, rfl, hc⟩, b2⟩
  · exact absurd rfl h
  · rw [List.drop_zero] at hc
    have B2 := hide (bnext B1.out b2)
    have HC := hide hc
    obtain ⟨hz, y0, y1⟩ := (HB.out.next b2).cell r.toNat (by rw [HL.out]; omega)
    have q1 : byteOf bs (r / 8192) (r % 8192) = bs.getD r.toNat 0 := by
      unfold byteOf
      rw [if_pos (by rw [HL.out]; omega)]
      congr 1
      omega
    have q2 : byteOf bs 2 0 = 255 := by unfold byteOf; rw [if_neg (by rw [HL.out]; omega)]
    have q3 : byteOf bs 0 8192 = 255 := by unfold byteOf; rw [if_neg (by omega)]
    have q4 : byteOf bs (-1) 0 = 255 := by unfold byteOf; rw [if_neg (by omega)]
    have q5 : byteOf bs 0 (-1) = 255 := by unfold byteOf; rw [if_neg (by omega)]
    generalize bs.getD r.toNat 0 = y at *
    clear b2 hc
    go_wp2_with fail
    go_quiet ((go_at_call 13; exact Calls.quiet_of_same (byte_any _ _ _ _ _ HC.out (by rw [HL.out]; decide))))
    go_wp2_with fail
    go_ret
    exact ⟨rfl, below_drew B2.out _⟩
set_option maxRecDepth 100000 in
theorem cardTells_lifted (os : Os) (started : os.Started) (H : Type) (enc : TypeId × Value → H) :
    ReturnsInHanded {} Tryd.checked os 7 .any (fun w args => (Rows.cardTellsSpec.pre enc Tryd.prog Tryd.f7 [] false w args ∧ laidMetH Tryd.prog laidBoth w) ∧ sizedMet enc Tryd.prog Tryd.f7 (OpenSpec.ofChange Rows.cardTellsSpec) false w args)
      (Rows.cardTellsSpec.post enc Tryd.prog Tryd.f7 false true false false) := by
  refine returnsInHanded_of_change_and (C := Tryd.checked) (X := fun w _ => laidMetH Tryd.prog laidBoth w) (fun _ _ _ hh h => h.of_heap hh) own started (by kernel_rfl) Tryd.func7
    (ChangeSpec.witness_at (enc := enc) (C := Tryd.checked) (os := os) (X := fun w _ => laidMetH Tryd.prog laidBoth w) false (laidWorld os) #[.slice none 0 0, .int .i64 0] 8 rfl (by kernel_rfl) (by kernel_rfl) (by kernel_rfl) (by kernel_rfl) (by kernel_rfl) (laidWorld_both os _)) ?_
  intro W base args ds gs before hval0 hW _ _ hL _
  have hval : ∀ (j : Nat) t v, Tryd.f7.params[j]? = some t → args[j]? = some v → Value.okWide Tryd.prog W .any base t v := hval0
  have hW' := hW
  obtain ⟨p, q, hA0, hV, rfl, hfz, hnd⟩ := hW
  have hA : DataW.TrodAll enc Tryd.prog W 0 (fun _ => true) true Tryd.f7.params.toList args.toList ds p := hA0
  rw [Tryd.params7] at hA hval
  obtain ⟨v0, vs0, d0, ds0, p0, q0, hargs, rfl, rfl, h0, r0⟩ := trodAll_cons hA
  obtain ⟨v1, vs1, d1, ds1, p1, q1, rfl, rfl, rfl, h1, r1⟩ := trodAll_cons r0
  obtain ⟨rfl, rfl, rfl⟩ := trodAll_nil r1
  obtain rfl : args = #[v0, v1] := by cases args; simp_all
  obtain ⟨rfl, rfl⟩ := trodVars_none hV
  obtain ⟨a0, len0, cap0, rfl⟩ := okWide_slice Tryd.underlying22 (hval 0 22 v0 rfl rfl)
  have k0 := h0
  have lt0 : ∀ x ∈ p0, x.block < W.heap.size := by obtain ⟨m, hm⟩ := k0; exact DataW.trod_lt m _ _ _ hm
  obtain ⟨z0, w0⟩ : ∃ zs, IsRow .u8 W a0 len0 cap0 zs := by
    obtain ⟨fuel, hf⟩ := h0
    rcases open_ints Tryd.underlying22 Tryd.underlying5 (by kernel_rfl) hf with ⟨hcs, _⟩ | ⟨x, l, c, zs, hcs, _, hl, hm, hz, _, hcell, hwz⟩
    · simp [Value.cells] at hcs
      obtain ⟨rfl, rfl, rfl⟩ := hcs
      exact ⟨[], .inl ⟨rfl, rfl, rfl, rfl⟩⟩
    · simp [Value.cells] at hcs
      obtain ⟨rfl, rfl, rfl⟩ := hcs
      exact ⟨zs, .inr ⟨_, rfl, hl, hm, by simpa using hz, hcell, hwz⟩⟩
  obtain ⟨a1, rfl, rfl, rfl, w1⟩ := open_int Tryd.underlying3 (hval 1 3 v1 rfl rfl) h1
  clear hA0 hval0
  refine (cardTells_walk a0 len0 cap0 z0 a1 W w0 w1 (laid_both hL)).mono fun e W' ⟨he, bel⟩ => ?_
  subst he
  exact ⟨_, rfl, _, _, _, [], _, [], hW', trodAll_mk1 (shut_bool Tryd.underlying4 _), (trodAll_cons_mk (Below.trod laidOut (by kernel_rfl) (of_decide_eq_true (by kernel_rfl)) k0 bel lt0) (trodAll_cons_mk (shut_int Tryd.underlying3 w1) trodAll_mk0)), rfl, bel.frame _, fun h => by cases h⟩

theorem cardTells_over : Rows.cardTellsRow.holds Tryd.pinned (OpenSpec.ofChange Rows.cardTellsSpec) :=
  OpenClaim.holds_of_wide 7 Tryd.f7 rfl rfl rfl rfl rfl rfl rfl ⟨rfl, rfl, rfl, rfl, rfl⟩ rfl rfl rfl rfl rfl (by kernel_rfl) Tryd.func7 (by kernel_rfl)
    (of_decide_eq_true (by kernel_rfl)) (by unfold Func.isWrapper; first | (rw [if_pos (by decide +kernel)]; kernel_rfl) | (rw [if_neg (by decide +kernel)]; exact ⟨rfl, rfl⟩))
    (fun os started H enc _ => cardTells_lifted os started H enc)

theorem cardTells_row : Rows.CardTellsSaid := cardTells_over

theorem cardTells_holds : Rows.CardTellsCardSaid :=
  Claim7.holds_tied_plain_at .later [] [.handle, .data] true (true, "fa813e7ee2e711e421d121c85e3db63a12c0d559205366ec6eb0bff58998939a") true
    cardTells_row (fun _ h => by cases h) (by kernel_rfl) (fun _ h => by cases h) cardTells_row_tie rfl ⟨rfl, rfl⟩ (by kernel_rfl) rfl
    (fun f fn hf hfn => by
      obtain rfl : f = 7 := Option.some.inj ((show Tryd.prog.funcNamed "phosphor/phosphorlaw03.CardTells" = some 7 by kernel_rfl).symm.trans hf) |>.symm
      obtain rfl : fn = Tryd.f7 := (Option.some.inj (Tryd.func7.symm.trans hfn)).symm
      exact ⟨by kernel_rfl, fun j t ht => by
        rw [Tryd.params7] at ht
        rcases j with _ | _ | j
        · obtain rfl : t = 22 := by simpa using ht.symm
          exact (show Tryd.prog.wantsStandIn 22 = false by kernel_rfl)
        · obtain rfl : t = 3 := by simpa using ht.symm
          exact (show Tryd.prog.wantsStandIn 3 = false by kernel_rfl)
        · simp at ht⟩)
    (by kernel_rfl)
#print axioms cardTells_holds
end Go.Proofs.YtlildknlkjoidaaDoor
