/- LineMixes, at the landed commit: whatever slice of integers and picture come in, the call returns true: any background and any sprites are mixed as the document says. No condition. -/
import Derived.Test.YtnhjhmfiapjenaaRMix19
import Derived.Test.YtnhjhmfiapjenaaFacts
import Derived.Test.YtnhjhmfiapjenaaFields
import Derived.Test.YtnhjhmfiapjenaaRows
import Derived.Test.YtnhjhmfiapjenaaArrays
import Derived.OpenShut
import Derived.ShutString
import Derived.ChangeOld
namespace Go.Proofs.Ytnhjhmfiapjenaa
open Go.ChangeShapes Go.WideShapes Go.ChangeAt Go.RowKit
open Go.ChangeMaps (open_string shut_string)
set_option linter.unusedVariables false

theorem own : ownKnob Try.prog.godebug = none := by kernel_rfl
def exB : Nat → Int := fun j => [0, 5, 5].getD j 0
def exC : Nat → Int := fun j => [3, 3, 3].getD j 0
def exF : Nat → Bool := fun j => [false, false, true].getD j false
def exW : Nat → Int := fun j => [259, 5, 259].getD j 0
theorem ex_mix (j : Nat) (h : j < 3) : mixOf exB 3 exC exF j = exW j := by
  rcases (show j = 0 ∨ j = 1 ∨ j = 2 by omega) with rfl | rfl | rfl <;> decide
def mxR (z : Nat) (a0 a1 a2 : Option Addr) (N k0 l1 k1 l2 k2 : Nat) (M : Nat → Int) (i : Nat) (v : Value) (w : World) : Prop :=
  match i with
  | 0 => v = .slice a0 N k0
  | 1 => v = .agg #[.slice a1 l1 k1, .slice a2 l2 k2]
  | 2 => ∃ g, v = .slice (some ⟨g, 0, none⟩) N N ∧ IntsAt w (some ⟨g, 0, none⟩) N M
  | 3 => v = .slice a0 N k0
  | 4 => v = .pointer (some ⟨z, 0, none⟩)
  | 5 => v = .slice a1 l1 k1
  | 6 => v = .pointer (some ⟨z, 1, none⟩)
  | 7 => v = .slice a2 l2 k2
  | 8 => ∃ a c, v = .slice a N c ∧ IntsAt w a N M
  | 9 => v = .bool true
  | 10 => v = .bool true
  | 11 => ∃ g, v = .slice (some ⟨g, 0, none⟩) 3 3 ∧ IntsAt w (some ⟨g, 0, none⟩) 3 exB
  | 12 => ∃ g, v = .slice (some ⟨g, 0, none⟩) 3 3 ∧ IntsAt w (some ⟨g, 0, none⟩) 3 exC
  | 13 => ∃ g, v = .slice (some ⟨g, 0, none⟩) 3 3 ∧ FlagsAt w (some ⟨g, 0, none⟩) 3 exF
  | 14 => ∃ g h, v = .agg #[.slice (some ⟨g, 0, none⟩) 3 3, .slice (some ⟨h, 0, none⟩) 3 3] ∧ IntsAt w (some ⟨g, 0, none⟩) 3 exC ∧ FlagsAt w (some ⟨h, 0, none⟩) 3 exF
  | 15 => ∃ g, v = .slice (some ⟨g, 0, none⟩) 3 3 ∧ IntsAt w (some ⟨g, 0, none⟩) 3 exW
  | 16 => ∃ g, v = .slice (some ⟨g, 0, none⟩) 3 3 ∧ IntsAt w (some ⟨g, 0, none⟩) 3 exW
  | _ => v = .bool true
theorem mxR_next {z : Nat} {a0 a1 a2 : Option Addr} {N k0 l1 k1 l2 k2 : Nat} {M : Nat → Int} (i : Nat) (v : Value) (w w' : World) (h : mxR z a0 a1 a2 N k0 l1 k1 l2 k2 M i v w) (k : Below w.heap.size w w') : mxR z a0 a1 a2 N k0 l1 k1 l2 k2 M i v w' := by
  unfold mxR at h ⊢
  split at h
  all_goals first
    | exact h
    | (obtain ⟨g, e, r⟩ := h; exact ⟨g, e, r.next k⟩)
    | (obtain ⟨a, c, e, r⟩ := h; exact ⟨a, c, e, r.next k⟩)
    | (obtain ⟨a, c, e, r, q⟩ := h; exact ⟨a, c, e, r.next k, q.next k⟩)
set_option maxHeartbeats 4000000 in
theorem lm_small (a0 a1 a2 : Option Addr) (N k0 l1 k1 l2 k2 P : Nat) (B : Nat → Int) (C : Nat → Int) (F : Nat → Bool) (w : World) (H0 : Hid (IntsAt w a0 N B)) (H1 : Hid (IntsAt w a1 l1 C)) (H2 : Hid (FlagsAt w a2 l2 F)) (HC : Hid (∀ j, j < l1 → -9223372036854775808 ≤ C j)) (HP : Hid (P = min l1 l2)) (hs : (N : Int) + (l1 : Int) + (l2 : Int) ≤ 2000) : Calls Try.prog 3 #[.slice a0 N k0, .agg #[.slice a1 l1 k1, .slice a2 l2 k2]] w fun e w' => e = .returned (.bool true) ∧ Below w.heap.size w w' := by
  have hN : N ≤ 65536 := by omega
  have hl1 : (l1 : Int) ≤ 1099511627776 := by omega
  have hl2 : (l2 : Int) ≤ 1099511627776 := by omega
  go_enter Try.func3, Try.ntmps3
  go_wp2_with fail
  refine under_name fun wa hwa => ?_
  have A0 := hide (show wa.heap[w.heap.size]? = some (.cells #[.slice a1 l1 k1, .slice a2 l2 k2] 25 (0, 0)) by rw [hwa]; exact heap_alloc_new _ _)
  have B0 := hide (show Below w.heap.size w wa by rw [hwa]; exact (Below.refl _ w).alloc (Nat.le_refl _) _)
  clear hwa
  obtain ⟨z, hz⟩ : ∃ z, w.heap.size = z := ⟨_, rfl⟩
  rw [hz] at A0 ⊢
  clear hz
  have c0 := (cell_of_row wa z 0 _ _ _ A0.out).trans rfl
  have c1 := (cell_of_row wa z 1 _ _ _ A0.out).trans rfl
  go_loopw [5] (fun si wr => ∃ k : Nat, k ≤ l1 ∧ si = .int .i64 (k : Int) ∧ wr = wa ∧ ∀ j, j < k → C j ≤ 1099511627776) (fun si _ => l1 - (intOf si).toNat)
  case atStart => exact ⟨0, Nat.zero_le _, rfl, rfl, fun j hj => absurd hj (Nat.not_lt_zero _)⟩
  case round =>
    obtain ⟨k, hk, rfl, rfl, hcs⟩ := hrel
    have KC := hide hcs
    clear hcs
    by_cases hlt : k < l1
    · obtain ⟨b1, o1, rfl, hb1, e1⟩ := (H1.out.next B0.out) k hlt
      obtain ⟨y, hy⟩ : ∃ y, C k = y := ⟨_, rfl⟩
      rw [hy] at e1
      have HY := hide hy
      clear hy hb1
      by_cases hg : 1099511627776 < y
      · go_wp2_with fail
        go_ret
        exact ⟨rfl, B0.out⟩
      · go_wp2_with fail
        go_roundw
        case rel => exact ⟨k + 1, by omega, by go_num, by trivial, fun j hj => by
          by_cases e : j = k
          · rw [e, HY.out]; omega
          · exact KC.out j (by omega)⟩
        case measure => simp [intOf]; omega
    · obtain rfl : k = l1 := by omega
      go_wp2_with fail
      have HCC := hide (show ∀ j, j < P → -9223372036854775808 ≤ C j ∧ C j ≤ 1099511627776 from fun j hj => ⟨HC.out j (by have := HP.out; omega), KC.out j (by have := HP.out; omega)⟩)
      have A1 := hide (show IntsAt wr a1 P C from (H1.out.next B0.out).less (by have := HP.out; omega))
      have A2 := hide (show FlagsAt wr a2 P F from (H2.out.next B0.out).less (by have := HP.out; omega))
      have A3 := hide (H0.out.next B0.out)
      have KM := hide (fun (u : World) (hu : Below wr.heap.size wr u) => mix_is a0 a1 a2 N k0 k k1 l2 k2 P B C F u (hide (A3.out.next hu)) (hide (A1.out.next hu)) (hide (A2.out.next hu)) hN hl1 hl2 HCC HP.out)
      have KR := hide (fun (u : World) (hu : Below wr.heap.size wr u) => rmix_is a0 a1 a2 N k0 k k1 l2 k2 P B C F u (hide (A3.out.next hu)) (hide (A1.out.next hu)) (hide (A2.out.next hu)) hN hl1 hl2 HCC HP.out)
      have KE := hide (fun (u : World) (g h i : Nat) (q1 : IntsAt u (some ⟨g, 0, none⟩) 3 exB) (q2 : IntsAt u (some ⟨h, 0, none⟩) 3 exC) (q3 : FlagsAt u (some ⟨i, 0, none⟩) 3 exF) => mix_is (some ⟨g, 0, none⟩) (some ⟨h, 0, none⟩) (some ⟨i, 0, none⟩) 3 3 3 3 3 3 3 exB exC exF u (hide q1) (hide q2) (hide q3) (by omega) (by omega) (by omega) (hide fun j hj => by rcases (show j = 0 ∨ j = 1 ∨ j = 2 by omega) with rfl | rfl | rfl <;> exact ⟨by decide, by decide⟩) rfl)
      obtain ⟨M, hM⟩ : ∃ M, mixOf B P C F = M := ⟨_, rfl⟩
      rw [hM] at KM KR
      clear hM
      refine wp_region_facts (mxR z a0 a1 a2 N k0 k k1 l2 k2 M) _ (fun vals => by simp only [putAll, Act.put, List.setIfInBounds_toArray, List.set_cons_succ, List.set_cons_zero, Nat.reduceAdd]; rfl) (by kernel_rfl) (by kernel_rfl) (by kernel_rfl) mxR_next ?_ ?_
      · refine steps_cons (fun vals u hb hf => ?_) (steps_cons (fun vals u hb hf => ?_) (steps_cons (fun vals u hb hf => ?_) (steps_cons (fun vals u hb hf => ?_) (steps_cons (fun vals u hb hf => ?_) (steps_cons (fun vals u hb hf => ?_) (steps_cons (fun vals u hb hf => ?_) (steps_cons (fun vals u hb hf => ?_) (steps_cons (fun vals u hb hf => ?_) (steps_cons (fun vals u hb hf => ?_) ?_)))))))))
        · go_wp2_with fail
          exact stepPost_mk _ rfl rfl (Below.refl _ _)
        · have q0 := (cell_of_row u z 0 _ _ _ ((hb.block z (lt_of_block A0.out)).trans A0.out)).trans rfl
          have q1 := (cell_of_row u z 1 _ _ _ ((hb.block z (lt_of_block A0.out)).trans A0.out)).trans rfl
          go_wp2_with fail
          exact stepPost_mk _ rfl rfl (Below.refl _ _)
        · obtain ⟨(h0 : vals 0 = .slice a0 N k0), (h1 : vals 1 = .agg #[.slice a1 k k1, .slice a2 l2 k2]), _⟩ := hf
          simp only [h0, h1]
          clear h0 h1
          go_wp2_with (first | (go_at_call 6; refine (KM.out u hb).mono ?_; rintro e u2 ⟨g, hg, rfl, r2, b2⟩))
          exact stepPost_mk _ rfl ⟨g, rfl, r2.ints⟩ b2
        · go_wp2_with fail
          exact stepPost_mk _ rfl rfl (Below.refl _ _)
        · go_wp2_with fail
          exact stepPost_mk _ rfl rfl (Below.refl _ _)
        · obtain ⟨(h4 : vals 4 = .pointer (some ⟨z, 0, none⟩)), _⟩ := hf
          simp only [h4]
          clear h4
          have q0 := (cell_of_row u z 0 _ _ _ ((hb.block z (lt_of_block A0.out)).trans A0.out)).trans rfl
          go_wp2_with fail
          exact stepPost_mk _ rfl rfl (Below.refl _ _)
        · go_wp2_with fail
          exact stepPost_mk _ rfl rfl (Below.refl _ _)
        · obtain ⟨(h6 : vals 6 = .pointer (some ⟨z, 1, none⟩)), _⟩ := hf
          simp only [h6]
          clear h6
          have q1 := (cell_of_row u z 1 _ _ _ ((hb.block z (lt_of_block A0.out)).trans A0.out)).trans rfl
          go_wp2_with fail
          exact stepPost_mk _ rfl rfl (Below.refl _ _)
        · obtain ⟨(h3 : vals 3 = .slice a0 N k0), (h5 : vals 5 = .slice a1 k k1), (h7 : vals 7 = .slice a2 l2 k2), _⟩ := hf
          simp only [h3, h5, h7]
          clear h3 h5 h7
          go_wp2_with (first | (go_at_call 7; refine (KR.out u hb).mono ?_; rintro e u2 ⟨v, rfl, r2, b2⟩))
          obtain ⟨a, c, rfl, _, _, ri⟩ := owns_ints r2
          exact stepPost_mk _ rfl ⟨a, c, rfl, ri⟩ b2
        · obtain ⟨⟨g, h2, i2⟩, ⟨a, c, h8, i8⟩, _⟩ := hf
          simp only [h2, h8]
          clear h2 h8
          go_wp2_with (first | (go_at_call 5; refine (ints_same _ _ N N c M u (hide i2) (hide i8) hN).mono ?_; rintro e u2 ⟨rfl, b2⟩))
          exact stepPost_mk _ rfl rfl b2
        refine steps_cons (fun vals u hb hf => ?_) (steps_cons (fun vals u hb hf => ?_) (steps_cons (fun vals u hb hf => ?_) (steps_cons (fun vals u hb hf => ?_) (steps_cons (fun vals u hb hf => ?_) (steps_cons (fun vals u hb hf => ?_) (steps_cons (fun vals u hb hf => ?_) (steps_cons (fun vals u hb hf => ?_) (steps_cons (fun vals u hb hf => ?_) (steps_cons (fun vals u hb hf => ?_) steps_nil)))))))))
        · obtain ⟨(h9 : vals 9 = .bool true), _⟩ := hf
          simp only [h9]
          clear h9
          go_wp2_with fail
          exact stepPost_mk _ rfl rfl (Below.refl _ _)
        · obtain ⟨(h10 : vals 10 = .bool true), _⟩ := hf
          simp only [h10]
          clear h10
          go_wp2_with fail
          exact stepPost_mk _ rfl ⟨_, rfl, ints_lit [0, 5, 5] (heap_alloc_new _ _)⟩ ((Below.refl _ _).alloc (Nat.le_refl _) _)
        · obtain ⟨(h10 : vals 10 = .bool true), _⟩ := hf
          simp only [h10]
          clear h10
          go_wp2_with fail
          exact stepPost_mk _ rfl ⟨_, rfl, ints_lit [3, 3, 3] (heap_alloc_new _ _)⟩ ((Below.refl _ _).alloc (Nat.le_refl _) _)
        · obtain ⟨(h10 : vals 10 = .bool true), _⟩ := hf
          simp only [h10]
          clear h10
          go_wp2_with fail
          exact stepPost_mk _ rfl ⟨_, rfl, flags_lit [false, false, true] (heap_alloc_new _ _)⟩ ((Below.refl _ _).alloc (Nat.le_refl _) _)
        · obtain ⟨⟨g, h12, i12⟩, ⟨h, h13, i13⟩, (h10 : vals 10 = .bool true), _⟩ := hf
          simp only [h10, h12, h13]
          clear h10 h12 h13
          have I1 := hide i12
          have I2 := hide i13
          clear i12 i13
          go_wp2_with fail
          exact stepPost_mk _ rfl ⟨g, h, rfl, I1.out, I2.out⟩ (Below.refl _ _)
        · obtain ⟨⟨g, h11, i11⟩, ⟨h, i, h14, i14, f14⟩, (h10 : vals 10 = .bool true), _⟩ := hf
          simp only [h10, h11, h14]
          clear h10 h11 h14
          go_wp2_with (first | (go_at_call 6; refine (KE.out u g h i i11 i14 f14).mono ?_; rintro e u2 ⟨g2, _, rfl, r2, b2⟩))
          exact stepPost_mk _ rfl ⟨g2, rfl, r2.ints.ext ex_mix⟩ b2
        · obtain ⟨(h10 : vals 10 = .bool true), _⟩ := hf
          simp only [h10]
          clear h10
          go_wp2_with fail
          exact stepPost_mk _ rfl ⟨_, rfl, ints_lit [259, 5, 259] (heap_alloc_new _ _)⟩ ((Below.refl _ _).alloc (Nat.le_refl _) _)
        · obtain ⟨⟨g, h15, i15⟩, ⟨h, h16, i16⟩, _, (h10 : vals 10 = .bool true), _⟩ := hf
          simp only [h10, h15, h16]
          clear h10 h15 h16
          go_wp2_with (first | (go_at_call 5; refine (ints_same _ _ 3 3 3 exW u (hide i15) (hide i16) (by omega)).mono ?_; rintro e u2 ⟨rfl, b2⟩))
          exact stepPost_mk _ rfl rfl b2
        · obtain ⟨(h10 : vals 10 = .bool true), (h17 : vals 17 = .bool true), _⟩ := hf
          simp only [h10, h17]
          clear h10 h17
          go_wp2_with fail
          exact stepPost_mk _ rfl rfl (Below.refl _ _)
        · obtain ⟨(h18 : vals 18 = .bool true), _⟩ := hf
          simp only [h18]
          clear h18
          go_wp2_with fail
          exact stepPost_mk _ rfl rfl (Below.refl _ _)
      · intro vals u hb hf
        obtain ⟨_, _, _, _, _, _, _, _, _, _, _, _, _, _, _, _, _, _, _, (h19 : vals 19 = .bool true), _⟩ := hf
        simp only [h19]
        clear h19
        have B1 := hide (bnext B0.out hb)
        clear hb
        go_wp2_with fail
        go_ret
        exact ⟨rfl, B1.out⟩
theorem lineMixes_walk (a0 : Option Addr) (len0 cap0 : Nat) (z0 : List Int) (a1 : Option Addr) (l1 c1 : Nat) (z1 : List Int) (a2 : Option Addr) (l2 c2 : Nat) (z2 : Nat → Bool) (w : World) (w0 : IsRow .i64 w a0 len0 cap0 z0) (w1 : IsRow .i64 w a1 l1 c1 z1) (w2 : IsFlags w a2 l2 c2 z2)
    (n0 : cap0 * 8 ≤ 140737488351232) (n1 : c1 * 8 ≤ 140737488351232) (n2 : c2 * 1 ≤ 140737488351232) :
    Calls Try.prog 3 #[.slice a0 len0 cap0, .agg #[.slice a1 l1 c1, .slice a2 l2 c2]] w fun e w' => e = .returned (.bool true) ∧ Below w.heap.size w w' := by
  have q0 := w0.max.1
  have q1 := w1.max.1
  have q2 := w2.1
  by_cases hs : (len0 : Int) + (l1 : Int) + (l2 : Int) ≤ 2000
  · exact lm_small a0 a1 a2 len0 cap0 l1 c1 l2 c2 (min l1 l2) _ _ z2 w (hide w0.ints) (hide w1.ints) (hide w2.2.2) (hide fun j hj => (w1.wf j hj).1) (hide rfl) hs
  · clear w0 w1 w2
    have r0 : (len0 : Int) ≤ 140737488351232 := by omega
    have r1 : (l1 : Int) ≤ 140737488351232 := by omega
    have r2 : (l2 : Int) ≤ 140737488351232 := by omega
    clear n0 n1 n2 q0 q1 q2
    go_enter Try.func3, Try.ntmps3
    go_wp2_with fail
    go_ret
    exact ⟨rfl, (Below.refl _ w).alloc (Nat.le_refl _) _⟩
set_option maxRecDepth 100000 in
theorem lineMixes_lifted (os : Os) (started : os.Started) (H : Type) (enc : TypeId × Value → H) :
    ReturnsInHanded {} Try.checked os 3 .any (Rows.lineMixesSpec.pre6 enc Try.prog Try.f3 Rows.lineMixesRow.domain false) (Rows.lineMixesSpec.post enc Try.prog Try.f3 false true false false) := by
  refine returnsInHanded_of_change_sized (C := Try.checked) own started (by kernel_rfl) Try.func3
    (ChangeSpec.witness6 (enc := enc) (C := Try.checked) false ⟨#[], #[.slice none 0 0, .agg #[.slice none 0 0, .slice none 0 0]], []⟩ 8 (by kernel_rfl) (by kernel_rfl) (by kernel_rfl) (by kernel_rfl)) ?_
  intro W base args ds gs before hval0 hW hcnd hsz _
  have hval : ∀ (j : Nat) t v, Try.f3.params[j]? = some t → args[j]? = some v → Value.okWide Try.prog W .any base t v := hval0
  have hW' := hW
  obtain ⟨p, q, hA0, hV, rfl, hfz, hnd⟩ := hW
  have hA : DataW.TrodAll enc Try.prog W 0 (fun _ => true) true Try.f3.params.toList args.toList ds p := hA0
  rw [Try.params3] at hA hval
  obtain ⟨v0, vs0, d0, ds0, p0, q0, hargs, rfl, rfl, h0, r0⟩ := trodAll_cons hA
  obtain ⟨v1, vs1, d1, ds1, p1, q1, rfl, rfl, rfl, h1, r1⟩ := trodAll_cons r0
  obtain ⟨rfl, rfl, rfl⟩ := trodAll_nil r1
  obtain rfl : args = #[v0, v1] := by cases args; simp_all
  obtain ⟨rfl, rfl⟩ := trodVars_none hV
  obtain ⟨a0, len0, cap0, rfl⟩ := okWide_slice Try.underlying22 (hval 0 22 v0 rfl rfl)
  have k0 := h0
  have lt0 : ∀ x ∈ p0, x.block < W.heap.size := by obtain ⟨m, hm⟩ := k0; exact DataW.trod_lt m _ _ _ hm
  obtain ⟨z0, w0⟩ : ∃ zs, IsRow .i64 W a0 len0 cap0 zs := by
    obtain ⟨fuel, hf⟩ := h0
    rcases open_ints Try.underlying22 Try.underlying3 (by kernel_rfl) hf with ⟨hcs, _⟩ | ⟨x, l, c, zs, hcs, _, hl, hm, hz, _, hcell, hwz⟩
    · simp [Value.cells] at hcs
      obtain ⟨rfl, rfl, rfl⟩ := hcs
      exact ⟨[], .inl ⟨rfl, rfl, rfl, rfl⟩⟩
    · simp [Value.cells] at hcs
      obtain ⟨rfl, rfl, rfl⟩ := hcs
      exact ⟨zs, .inr ⟨_, rfl, hl, hm, by simpa using hz, hcell, hwz⟩⟩
  have n0 : cap0 * 8 ≤ 140737488351232 := by
    obtain ⟨fuel, hf⟩ := k0
    exact slice_reach (k := 8) Try.underlying22 (by kernel_rfl) (by simpa [Value.cells] using hf) (each_reach (j := 0) hsz rfl rfl)
  have k1 := h1
  have lt1 : ∀ x ∈ p1, x.block < W.heap.size := by obtain ⟨m, hm⟩ := k1; exact DataW.trod_lt m _ _ _ hm
  obtain ⟨cs1, fu1, pt1, rfl, sz1, dq1, hf1⟩ := open_struct_parts (n := 2) Try.underlying25 (by kernel_rfl) (hval 1 25 v1 rfl rfl) h1
  obtain ⟨y1f0, hy1f0, hp1f0⟩ := hf1 0 _ rfl
  obtain ⟨a1f0, l1f0, c1f0, z1f0, g1f0, w1f0⟩ := open_field_ints Try.underlying22 Try.underlying3 (by kernel_rfl) hy1f0
  rw [g1f0] at hy1f0
  have n1f0 := slice_reach (k := 8) Try.underlying22 (by kernel_rfl) hy1f0 (part_reach (j := 0) Try.underlying25 (each_reach (j := 1) hsz rfl (by rw [dq1]; rfl)) rfl hp1f0)
  have e1f0 := cell_at (by kernel_rfl) g1f0
  obtain ⟨y1f1, hy1f1, hp1f1⟩ := hf1 1 _ rfl
  obtain ⟨a1f1, l1f1, c1f1, z1f1, g1f1, w1f1⟩ := open_field_bools Try.underlying23 Try.underlying4 (by kernel_rfl) hy1f1
  rw [g1f1] at hy1f1
  have n1f1 := slice_reach (k := 1) Try.underlying23 (by kernel_rfl) hy1f1 (part_reach (j := 1) Try.underlying25 (each_reach (j := 1) hsz rfl (by rw [dq1]; rfl)) rfl hp1f1)
  have e1f1 := cell_at (by kernel_rfl) g1f1
  obtain rfl : cs1 = #[.slice a1f0 l1f0 c1f0, .slice a1f1 l1f1 c1f1] := cells_are [.slice a1f0 l1f0 c1f0, .slice a1f1 l1f1 c1f1] sz1 (fun j hj => by
    rcases j with _ | _ | j
    · exact e1f0
    · exact e1f1
    · exact absurd hj (by simp only [List.length_cons, List.length_nil]; omega))
  clear hy1f0 g1f0 e1f0 hy1f1 g1f1 e1f1 sz1 hf1
  clear hA0 hval0
  refine (lineMixes_walk a0 len0 cap0 z0 a1f0 l1f0 c1f0 z1f0 a1f1 l1f1 c1f1 z1f1 W w0 w1f0 w1f1 n0 n1f0 n1f1).mono fun e W' ⟨he, bel⟩ => ?_
  subst he
  exact ⟨_, rfl, _, _, _, [], _, [], hW', trodAll_mk1 (shut_bool Try.underlying4 _), (trodAll_cons_mk (Below.trod laidOut (by kernel_rfl) (of_decide_eq_true (by kernel_rfl)) k0 bel lt0) (trodAll_cons_mk (Below.trod laidOut (by kernel_rfl) (of_decide_eq_true (by kernel_rfl)) k1 bel lt1) trodAll_mk0)), rfl, bel.frame _, fun h => by cases h⟩

theorem lineMixes_over : Rows.lineMixesRow.holds Try.pinned (OpenSpec.ofChange Rows.lineMixesSpec) :=
  OpenClaim.holds_of_wide 3 Try.f3 rfl rfl rfl rfl rfl rfl rfl ⟨rfl, rfl, rfl, rfl, rfl⟩ rfl rfl rfl rfl rfl (by kernel_rfl) Try.func3 (by kernel_rfl)
    (of_decide_eq_true (by kernel_rfl)) (by unfold Func.isWrapper; first | (rw [if_pos (by decide +kernel)]; kernel_rfl) | (rw [if_neg (by decide +kernel)]; exact ⟨rfl, rfl⟩))
    (fun os started H enc _ => lineMixes_lifted os started H enc)

theorem lineMixes_holds : Rows.LineMixesSaid := lineMixes_over
#print axioms lineMixes_holds
end Go.Proofs.Ytnhjhmfiapjenaa
