/- RegsTells, at the landed commit: whatever registers and numbers come in, the call returns true: any registers are the document's behind any write, that brings about what it says; and they tell their step, bits, map and line. No condition but what the card says. -/
import Derived.Test.YtbgbedkmggefpaaDoorTellsX15
import Derived.Test.YtbgbedkmggefpaaDoorOpen15
import Derived.Test.YtbgbedkmggefpaaDoorMaskLaid
import Derived.Test.YtbgbedkmggefpaaDoorTie
import Derived.Test.YtbgbedkmggefpaaDoorCards
import Derived.SevenTiedAt
import Derived.OpenShut
import Derived.ShutString
import Derived.ChangeOld
namespace Go.Proofs.YtbgbedkmggefpaaDoor
open Go.ChangeShapes Go.WideShapes Go.ChangeAt Go.RowKit
open Go.ChangeMaps (open_string shut_string)
set_option linter.unusedVariables false
theorem own : ownKnob Tryd.prog.godebug = none := by kernel_rfl

theorem write_both (s a b : Int) (f : Nat → Int) : ∃ (s' : Int) (f' : Nat → Int) (x : Int),
    (∀ w, HasMask w → Calls Tryd.prog 7 #[.agg (rowG s f), .int .i64 a, .int .i64 b] w fun e w' => e = .returned (.tuple #[.agg (rowG s' f'), .int .i64 x]) ∧ Below w.heap.size w w') ∧
    (∀ w, Calls Tryd.prog 8 #[.agg (rowG s f), .int .i64 a, .int .i64 b] w fun e w' => e = .returned (.tuple #[.agg (rowG s' f'), .int .i64 x]) ∧ Below w.heap.size w w') := by
  by_cases h0 : a = 0
  · subst h0
    exact ⟨b % 32, f, 0, fun w _ => write_sel s b _ f rfl w, fun w => rwrite_sel s b _ f rfl w⟩
  · by_cases hs : (a = 2 ∨ a = 3) ∧ 0 ≤ s ∧ s < 20
    · obtain ⟨ha, h2, hs⟩ := hs
      obtain ⟨i, rfl⟩ := Int.eq_ofNat_of_zero_le h2
      have hi : i < 20 := by omega
      exact ⟨(i : Int), upd f i (andW (halfOf (f i) a b) (mk i)), _, fun w hM => write_at i hi a b _ _ _ _ f ha rfl rfl (and_word _ _ (mk_mask i)) rfl w hM, fun w => rwrite_at i hi a b _ _ _ _ f ha rfl rfl (and_word _ _ (mk_mask i)) rfl w⟩
    · exact ⟨s, f, 0, fun w _ => write_no a s b f ⟨h0, fun k => by omega⟩ w, fun w => rwrite_no a s b f ⟨h0, fun k => by omega⟩ w⟩
theorem bit_shift (n k : Int) (h0 : 0 ≤ k) (h1 : k < 16) : bits .and .i64 (n / 2 ^ k.toNat) 1 = bitOf n k := by
  rw [and_1, bitOf_in n k h0 h1]
  rcases cases16 h0 h1 with rfl | rfl | rfl | rfl | rfl | rfl | rfl | rfl | rfl | rfl | rfl | rfl | rfl | rfl | rfl | rfl <;> simp <;> omega
theorem four_of (l : List Int) (h : l.length = 4) : ∃ a b c d, l = [a, b, c, d] := by
  match l, h with
  | [a, b, c, d], _ => exact ⟨a, b, c, d, rfl⟩
theorem regsTells_walk (s : Int) (f : Nat → Int) (z : List Int) (w : World) (w0 : (Lit.int .i64 s).wf = true) (g0 : ∀ j, j < 20 → (Lit.int .i64 (f j)).wf = true) (l1 : z.length = 4) (w1 : ∀ x ∈ z, (Lit.int .i64 x).wf = true) (hL : HasMask w) :
    Calls Tryd.prog 3 #[.agg (rowG s f), .agg (z.map (Value.int .i64)).toArray] w fun e w' => e = .returned (.bool true) ∧ Below w.heap.size w w' := by
  obtain ⟨n0, n1, n2, n3, rfl⟩ := four_of z l1
  clear w0 w1 l1
  obtain ⟨s', f', x, cw, rw⟩ := write_both s n0 n1 f
  obtain ⟨p, hp⟩ : ∃ p, pairOf (f 9) 4 = p := ⟨_, rfl⟩
  obtain ⟨q, hq⟩ : ∃ q : Nat, bitOf (f 9) 6 = (q : Int) := ⟨(bitOf (f 9) 6).toNat, by have := bitOf_01 (f 9) 6; omega⟩
  obtain ⟨r, hr⟩ : ∃ r, pairOf (f 5) 11 = r := ⟨_, rfl⟩
  have V0 := hide (valid_any 0 (fun _ => 0) (okR_wf okR_0))
  rw [okR_0, ← zero_lit] at V0
  have C0 := hide (fun w => fresh_any w)
  rw [← zero_lit] at C0
  by_cases h0 : 0 ≤ n2
  · by_cases h1 : n2 < 16
    · exact tells_in s f n0 n1 n2 n3 s' x (wideOf p) (highOf2 q) (farOf r) (f 5) f' (bitOf (f 5) n2 == 1) (rasOf (f 6 % 65536) n3) (okR s f) w hL rfl h0 h1 (by rw [bit_shift (f 5) n2 h0 h1]) (hide cw) (hide rw) (hide (map_any s f p q hp hq)) (hide (rmap_any s f p q hp hq)) (hide (far_any s f r hr)) (hide (rfar_any s f r hr)) (hide (on_any s f n2)) (hide (raster_any s f n3 _ rfl)) (hide (rraster_any s f n3 _ rfl)) (hide (valid_any s f g0)) (hide (rvalid_any s f)) C0 V0
    · exact tells_high s f n0 n1 n2 n3 s' x (wideOf p) (highOf2 q) (farOf r) (f 5) f' (bitOf (f 5) n2 == 1) (rasOf (f 6 % 65536) n3) (okR s f) w hL rfl (by rw [bitOf_out _ _ (by omega)]; rfl) (by omega) (hide cw) (hide rw) (hide (map_any s f p q hp hq)) (hide (rmap_any s f p q hp hq)) (hide (far_any s f r hr)) (hide (rfar_any s f r hr)) (hide (on_any s f n2)) (hide (raster_any s f n3 _ rfl)) (hide (rraster_any s f n3 _ rfl)) (hide (valid_any s f g0)) (hide (rvalid_any s f)) C0 V0
  · exact tells_low s f n0 n1 n2 n3 s' x (wideOf p) (highOf2 q) (farOf r) (f 5) f' (bitOf (f 5) n2 == 1) (rasOf (f 6 % 65536) n3) (okR s f) w hL rfl (by rw [bitOf_out _ _ (by omega)]; rfl) (by omega) (hide cw) (hide rw) (hide (map_any s f p q hp hq)) (hide (rmap_any s f p q hp hq)) (hide (far_any s f r hr)) (hide (rfar_any s f r hr)) (hide (on_any s f n2)) (hide (raster_any s f n3 _ rfl)) (hide (rraster_any s f n3 _ rfl)) (hide (valid_any s f g0)) (hide (rvalid_any s f)) C0 V0

set_option maxRecDepth 100000 in
theorem regsTells_lifted (os : Os) (started : os.Started) (H : Type) (enc : TypeId × Value → H) :
    ReturnsInHanded {} Tryd.checked os 3 .any (fun w args => (Rows.regsTellsSpec.pre enc Tryd.prog Tryd.f3 [] false w args ∧ laidMetH Tryd.prog laidMask w) ∧ sizedMet enc Tryd.prog Tryd.f3 (OpenSpec.ofChange Rows.regsTellsSpec) false w args)
      (Rows.regsTellsSpec.post enc Tryd.prog Tryd.f3 false true false false) := by
  refine returnsInHanded_of_change_and (C := Tryd.checked) (X := fun w _ => laidMetH Tryd.prog laidMask w) (fun _ _ _ hh h => h.of_heap hh) own started (by kernel_rfl) Tryd.func3
    (ChangeSpec.witness_at (enc := enc) (C := Tryd.checked) (os := os) (X := fun w _ => laidMetH Tryd.prog laidMask w) false (laidWorld os) #[.agg #[.int .i64 0, .int .i64 0, .int .i64 0, .int .i64 0, .int .i64 0, .int .i64 0, .int .i64 0, .int .i64 0, .int .i64 0, .int .i64 0, .int .i64 0, .int .i64 0, .int .i64 0, .int .i64 0, .int .i64 0, .int .i64 0, .int .i64 0, .int .i64 0, .int .i64 0, .int .i64 0, .int .i64 0], .agg #[.int .i64 0, .int .i64 0, .int .i64 0, .int .i64 0]] 8 rfl (by kernel_rfl) (by kernel_rfl) (by kernel_rfl) (by kernel_rfl) (by kernel_rfl) (laidWorld_mask os _)) ?_
  intro W base args ds gs before hval0 hW _ _ hL _
  have hval : ∀ (j : Nat) t v, Tryd.f3.params[j]? = some t → args[j]? = some v → Value.okWide Tryd.prog W .any base t v := hval0
  have hW' := hW
  obtain ⟨p, q, hA0, hV, rfl, hfz, hnd⟩ := hW
  have hA : DataW.TrodAll enc Tryd.prog W 0 (fun _ => true) true Tryd.f3.params.toList args.toList ds p := hA0
  rw [Tryd.params3] at hA hval
  obtain ⟨v0, vs0, d0, ds0, p0, q0, hargs, rfl, rfl, h0, r0⟩ := trodAll_cons hA
  obtain ⟨v1, vs1, d1, ds1, p1, q1, rfl, rfl, rfl, h1, r1⟩ := trodAll_cons r0
  obtain ⟨rfl, rfl, rfl⟩ := trodAll_nil r1
  obtain rfl : args = #[v0, v1] := by cases args; simp_all
  obtain ⟨rfl, rfl⟩ := trodVars_none hV
  have k0 := h0
  have lt0 : ∀ x ∈ p0, x.block < W.heap.size := by obtain ⟨m, hm⟩ := k0; exact DataW.trod_lt m _ _ _ hm
  obtain ⟨s0, f0, rfl, w0, g0⟩ := open_regs Tryd.underlying24 (by kernel_rfl) rfl rfl Tryd.underlying3 (by kernel_rfl) rfl rfl Tryd.underlying22 (by kernel_rfl) Tryd.underlying3 (by kernel_rfl) (hval 0 24 v0 rfl rfl) h0
  have k1 := h1
  have lt1 : ∀ x ∈ p1, x.block < W.heap.size := by obtain ⟨m, hm⟩ := k1; exact DataW.trod_lt m _ _ _ hm
  obtain ⟨z1, l1, rfl, w1⟩ := open_array_ints Tryd.underlying25 Tryd.underlying3 (by kernel_rfl) (by kernel_rfl) (hval 1 25 v1 rfl rfl) h1
  clear hA0 hval0
  refine (regsTells_walk s0 f0 z1 W w0 g0 l1 w1 (laid_mask hL)).mono fun e W' ⟨he, bel⟩ => ?_
  subst he
  exact ⟨_, rfl, _, _, _, [], _, [], hW', trodAll_mk1 (shut_bool Tryd.underlying4 _), (trodAll_cons_mk (Below.trod laidOut (by kernel_rfl) (of_decide_eq_true (by kernel_rfl)) k0 bel lt0) (trodAll_cons_mk (Below.trod laidOut (by kernel_rfl) (of_decide_eq_true (by kernel_rfl)) k1 bel lt1) trodAll_mk0)), rfl, bel.frame _, fun h => by cases h⟩

theorem regsTells_over : Rows.regsTellsRow.holds Tryd.pinned (OpenSpec.ofChange Rows.regsTellsSpec) :=
  OpenClaim.holds_of_wide 3 Tryd.f3 rfl rfl rfl rfl rfl rfl rfl ⟨rfl, rfl, rfl, rfl, rfl⟩ rfl rfl rfl rfl rfl (by kernel_rfl) Tryd.func3 (by kernel_rfl)
    (of_decide_eq_true (by kernel_rfl)) (by unfold Func.isWrapper; first | (rw [if_pos (by decide +kernel)]; kernel_rfl) | (rw [if_neg (by decide +kernel)]; exact ⟨rfl, rfl⟩))
    (fun os started H enc _ => regsTells_lifted os started H enc)

theorem regsTells_row : Rows.RegsTellsSaid := regsTells_over

theorem regsTells_holds : Rows.RegsTellsCardSaid :=
  Claim7.holds_tied_plain_at .later [] [.data] true (true, "59ef52cc746e8c26c16d4abe50a86ce5d85f02911841ee7c261a6b4b0c85cb8b") false
    regsTells_row (fun _ h => by cases h) (by kernel_rfl) (fun _ h => by cases h) regsTells_row_tie rfl ⟨rfl, rfl⟩ (by kernel_rfl) rfl
    (fun f fn hf hfn => by
      obtain rfl : f = 3 := Option.some.inj ((show Tryd.prog.funcNamed "phosphor/phosphorlaw15.RegsTells" = some 3 by kernel_rfl).symm.trans hf) |>.symm
      obtain rfl : fn = Tryd.f3 := (Option.some.inj (Tryd.func3.symm.trans hfn)).symm
      exact ⟨by kernel_rfl, fun j t ht => by
        rw [Tryd.params3] at ht
        rcases j with _ | _ | j
        · obtain rfl : t = 24 := by simpa using ht.symm
          exact (show Tryd.prog.wantsStandIn 24 = false by kernel_rfl)
        · obtain rfl : t = 25 := by simpa using ht.symm
          exact (show Tryd.prog.wantsStandIn 25 = false by kernel_rfl)
        · simp at ht⟩)
    (by kernel_rfl)
#print axioms regsTells_holds
end Go.Proofs.YtbgbedkmggefpaaDoor
