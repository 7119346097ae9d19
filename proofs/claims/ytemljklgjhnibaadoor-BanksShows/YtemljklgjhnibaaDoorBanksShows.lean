/- Each page of a card is shown by some page of the bus, with some latch. -/
import Derived.Test.YtemljklgjhnibaaDoorPlainBanks
import Derived.Test.YtemljklgjhnibaaDoorBools
import Derived.Test.YtemljklgjhnibaaDoorTabLaid
import Derived.Test.YtemljklgjhnibaaDoorTie
import Derived.Test.YtemljklgjhnibaaDoorCards
import Derived.SevenTiedAt
import Derived.OpenShut
import Derived.ShutString
import Derived.ChangeOld
import Derived.Below
namespace Go.Proofs.YtemljklgjhnibaaDoor
open Go.ChangeShapes Go.WideShapes Go.ChangeAt Go.RowKit
open Go.ChangeMaps (open_string shut_string)
set_option linter.unusedVariables false
theorem own : ownKnob Tryd.prog.godebug = none := by kernel_rfl

/-- The pages that are seen behind the first m looks. -/
def seenTo (n : Int) : Nat → List Bool
  | 0 => List.replicate n.toNat false
  | m + 1 => (seenTo n m).set (pageOf n ((m / 128 : Nat) : Int) ((m % 128 : Nat) : Int)).toNat true
theorem seen_length (n : Int) : ∀ m, (seenTo n m).length = n.toNat
  | 0 => by simp [seenTo]
  | m + 1 => by unfold seenTo; rw [List.length_set]; exact seen_length n m
theorem seen_step (n : Int) (l p : Nat) (hp : p < 128) : seenTo n (l * 128 + p + 1) = (seenTo n (l * 128 + p)).set (pageOf n (l : Int) (p : Int)).toNat true := by
  show (seenTo n (l * 128 + p)).set (pageOf n (((l * 128 + p) / 128 : Nat) : Int) (((l * 128 + p) % 128 : Nat) : Int)).toNat true = _
  rw [show (l * 128 + p) / 128 = l by omega, show (l * 128 + p) % 128 = p by omega]
theorem seen_of (n : Int) (l p : Nat) (hp : p < 128) (x : Nat) (hx : x < n.toNat) (e : pageOf n (l : Int) (p : Int) = (x : Int)) : ∀ m, l * 128 + p < m → (seenTo n m).getD x false = true
  | 0, h => by omega
  | m + 1, h => by
    by_cases hm : l * 128 + p = m
    · subst hm
      rw [seen_step n l p hp, e]
      simp [List.getD_eq_getElem?_getD, seen_length, hx]
    · have ih := seen_of n l p hp x hx e m (by omega)
      unfold seenTo
      rw [List.getD_eq_getElem?_getD, List.getElem?_set]
      split
      · rw [if_pos (by rw [seen_length]; omega)]; rfl
      · rw [← List.getD_eq_getElem?_getD]; exact ih
theorem page_low {n l p : Int} (h : known n = true) (p0 : 0 ≤ p) (p1 : p < 64) : pageOf n l p = p % lowSize (kindOf n) n := by
  unfold pageOf; rw [if_pos ⟨h, p0⟩, if_pos p1]
theorem page_up {n l p : Int} (h : known n = true) (p0 : 64 ≤ p) (p1 : p < 128) : pageOf n l p = upFirst (kindOf n) n l + p % upSize (kindOf n) n := by
  unfold pageOf; rw [if_pos ⟨h, by omega⟩, if_neg (by omega), if_pos p1]
theorem seen_all {n : Int} (hn : known n = true) (x : Nat) (hx : x < n.toNat) : (seenTo n 512).getD x false = true := by
  have h0 := known_le hn
  have hk := kind_cases hn
  have low : ∀ (s : Int), lowSize (kindOf n) n = s → x < 64 → (x : Int) < s → (seenTo n 512).getD x false = true := by
    intro s hs h1 h2
    refine seen_of n 0 x (by omega) x hx ?_ 512 (by omega)
    rw [page_low hn (by omega) (by omega), hs]
    exact Int.emod_eq_of_lt (by omega) h2
  rcases hk with ⟨hk, hb⟩ | ⟨hk, rfl | rfl⟩ | ⟨hk, rfl⟩
  · by_cases h1 : x < 64
    · exact low n (by rw [hk]; rfl) h1 (by omega)
    · refine seen_of n 0 x (by omega) x hx ?_ 512 (by omega)
      rw [page_up hn (by omega) (by omega), hk]
      show 0 + (x : Int) % n = x
      rw [Int.zero_add]
      exact Int.emod_eq_of_lt (by omega) (by omega)
  · by_cases h1 : x < 32
    · exact low 32 rfl (by omega) (by omega)
    · refine seen_of 48 0 (x + 32) (by omega) x hx ?_ 512 (by omega)
      rw [page_up hn (by omega) (by omega)]
      have e1 : upFirst (kindOf 48) 48 ((0 : Nat) : Int) = 32 := by decide
      have e2 : upSize (kindOf 48) 48 = 16 := by decide
      rw [e1, e2]; omega
  · by_cases h1 : x < 64
    · exact low 64 rfl h1 (by omega)
    · refine seen_of 96 0 x (by omega) x hx ?_ 512 (by omega)
      rw [page_up hn (by omega) (by omega)]
      have e1 : upFirst (kindOf 96) 96 ((0 : Nat) : Int) = 64 := by decide
      have e2 : upSize (kindOf 96) 96 = 32 := by decide
      rw [e1, e2]; omega
  · by_cases h1 : x < 64
    · exact low 64 rfl h1 (by omega)
    · refine seen_of 320 ((x - 64) / 64) (64 + x % 64) (by omega) x hx ?_ 512 (by omega)
      rw [page_up hn (by omega) (by omega)]
      have e1 : upFirst (kindOf 320) 320 (((x - 64) / 64 : Nat) : Int) = 64 + 64 * ((((x - 64) / 64 : Nat) : Int) % 4) := rfl
      have e2 : upSize (kindOf 320) 320 = 64 := by decide
      rw [e1, e2]; omega

set_option maxRecDepth 20000 in
set_option maxHeartbeats 1600000 in
theorem banksShows_walk (a0 : Int) (w : World) (w0 : (Lit.int .i64 a0).wf = true) (hL : HasTab w) :
    Calls Tryd.prog 5 #[.int .i64 a0] w fun e w' => e = .returned (.bool true) ∧ Below w.heap.size w w' := by
  have HT := hide hL
  obtain ⟨i, i1, i2, i3, i4⟩ := which_any a0
  obtain ⟨r, hr⟩ : ∃ r, Int.tmod a0 11 = r := ⟨_, rfl⟩
  rw [hr] at i2 i3 i4
  have hc := cards_cell i i1 w
  obtain ⟨n, hn⟩ : ∃ n, pageAt i = n := ⟨_, rfl⟩
  have kn : known n = true := by rw [← hn]; exact (known_at i i1).1
  rw [hn] at hc
  have KN := hide kn
  have nb := known_le kn
  obtain ⟨N, rfl⟩ : ∃ N : Nat, n = (N : Int) := ⟨n.toNat, by omega⟩
  clear hL w0 hn kn
  obtain ⟨wa, hwa⟩ : ∃ wa, wa = w.alloc (.cells cards11 3) := ⟨_, rfl⟩
  have hm := mk_bools N (by omega) wa
  obtain ⟨wb, hwb⟩ : ∃ wb, wb = wa.alloc (.cells ((List.replicate N false).map Value.bool).toArray 4) := ⟨_, rfl⟩
  have B1 : Hid (Bools 4 wb wa.heap.size (seenTo N 0)) := hide (by rw [hwb]; exact Bools.made)
  have L1 : Hid (Below wa.heap.size wa wb) := hide (by rw [hwb]; exact (Below.refl _ wa).alloc (Nat.le_refl _) _)
  have L0 : Hid (Below w.heap.size w wa) := hide (by rw [hwa]; exact (Below.refl _ w).alloc (Nat.le_refl _) _)
  rw [← hwb] at hm
  clear hwb
  rw [hwa] at hm
  unfold cards11 at hc hm
  go_enter Tryd.func5, Tryd.ntmps5
  go_wp2_with fail
  have ew : wa.heap.size = w.heap.size + 1 := by rw [hwa]; simp
  rw [ew] at B1 L1
  have LB : Hid (Below w.heap.size w wb) := hide (L0.out.trans (L1.out.mono (by omega)))
  clear hwa hm hc L0 L1 ew
  generalize hg : w.heap.size + 1 = g at *
  have hgw : w.heap.size ≤ g := by omega
  clear hg
  go_loopw [5] (fun si wr => ∃ j : Nat, j ≤ 4 ∧ si = .int .i64 (j : Int) ∧ Bools 4 wr g (seenTo N (j * 128)) ∧ Below w.heap.size w wr) (fun si _ => 4 - (intOf si).toNat)
  case atStart => exact ⟨0, by omega, rfl, B1.out, LB.out⟩
  case round =>
    obtain ⟨j, hj, rfl, bb, bel⟩ := hrel
    have BB := hide bb
    have BL := hide bel
    clear bb bel B1 LB
    by_cases h : j < 4
    · have hd : decide ((j : Int) < 4) = true := by simp; omega
      go_wp2_with fail
      try simp only [hd]
      go_loopw [6] (fun si wr => ∃ p : Nat, p ≤ 128 ∧ si = .int .i64 (p : Int) ∧ Bools 4 wr g (seenTo N (j * 128 + p)) ∧ Below w.heap.size w wr) (fun si _ => 128 - (intOf si).toNat)
      case atStart => exact ⟨0, by omega, rfl, BB.out, BL.out⟩
      case round =>
        obtain ⟨p, hp, rfl, bb, bel⟩ := hrel
        have BB := hide bb
        have BL := hide bel
        clear bb bel
        by_cases h2 : p < 128
        · have hb := page_in KN.out (j : Int) p h2
          have c1 := hide (fun w hT => page_any (N : Int) (j : Int) (p : Int) w hT)
          obtain ⟨x, hx⟩ : ∃ x : Nat, pageOf (N : Int) (j : Int) (p : Int) = (x : Int) := ⟨(pageOf (N : Int) (j : Int) (p : Int)).toNat, by omega⟩
          have hs := seen_step (N : Int) j p h2
          rw [hx] at c1 hb hs
          have HS := hide hs
          have hxN : x < N := by omega
          clear hs hx hb
          go_wp2_with fail
          refine (c1.out _ (HT.out.next BL.out)).mono ?_
          rintro e w2 ⟨rfl, b2⟩
          have B2 := hide (bnext BL.out b2)
          have bb := BB.out.next b2
          have hcell := bb.cell x (by rw [seen_length]; simpa using hxN)
          have hfree := bb.free x
          have BB2 := hide bb
          clear b2 BL BB bb c1
          obtain ⟨y, hy⟩ : ∃ y, y = (seenTo (↑N) (j * 128 + p)).getD x false := ⟨_, rfl⟩
          rw [← hy] at hcell
          clear hy
          go_wp2_with fail
          go_roundw
          case rel =>
            refine ⟨p + 1, by omega, by go_num, ?_, B2.out.setCell hgw _⟩
            have := BB2.out.put x true
            rw [show j * 128 + (p + 1) = j * 128 + p + 1 by omega, HS.out]
            simpa using this
          case measure => simp [intOf]; omega
        · obtain rfl : p = 128 := by omega
          go_wp2_with fail
          go_roundw
          case rel => exact ⟨j + 1, by omega, by go_num, by rw [show (j + 1) * 128 = j * 128 + 128 by omega]; exact BB.out, BL.out⟩
          case measure => simp [intOf]; omega
    · obtain rfl : j = 4 := by omega
      go_wp2_with fail
      go_loopw [8] (fun si wr => ∃ x : Nat, x ≤ N ∧ si = .int .i64 (x : Int) ∧ Bools 4 wr g (seenTo N 512) ∧ Below w.heap.size w wr) (fun si _ => N - (intOf si).toNat)
      case atStart => exact ⟨0, by omega, rfl, BB.out, BL.out⟩
      case round =>
        obtain ⟨x, hx, rfl, bb, bel⟩ := hrel
        by_cases h2 : x < N
        · have hcell := bb.cell x (by rw [seen_length]; simpa using h2)
          rw [seen_all KN.out x (by simpa using h2)] at hcell
          have BB := hide bb
          have BL := hide bel
          clear bb bel
          go_wp2_with fail
          go_roundw
          case rel => exact ⟨x + 1, by omega, by go_num, BB.out, BL.out⟩
          case measure => simp [intOf]; omega
        · obtain rfl : x = N := by omega
          have c1 := hide (fun w hT => latch_any 320 0 8178 w hT)
          have c2 := hide (fun w hT => latch_any 128 0 8178 w hT)
          rw [show latchOf 320 0 8178 = 2 by decide] at c1
          rw [show latchOf 128 0 8178 = 0 by decide] at c2
          have BL := hide bel
          clear bb bel
          go_wp2_with fail
          refine (c1.out _ (HT.out.next BL.out)).mono ?_
          rintro e w2 ⟨rfl, b2⟩
          have B2 := hide (bnext BL.out b2)
          clear b2
          go_wp2_with fail
          refine (c2.out _ (HT.out.next B2.out)).mono ?_
          rintro e w3 ⟨rfl, b3⟩
          have B3 := hide (bnext B2.out b3)
          clear b3
          go_wp2_with fail
          go_ret
          exact ⟨rfl, B3.out⟩

set_option maxRecDepth 100000 in
theorem banksShows_lifted (os : Os) (started : os.Started) (H : Type) (enc : TypeId × Value → H) :
    ReturnsInHanded {} Tryd.checked os 5 .any (fun w args => (Rows.banksShowsSpec.pre enc Tryd.prog Tryd.f5 [] false w args ∧ laidMetH Tryd.prog laidTab w) ∧ sizedMet enc Tryd.prog Tryd.f5 (OpenSpec.ofChange Rows.banksShowsSpec) false w args)
      (Rows.banksShowsSpec.post enc Tryd.prog Tryd.f5 false true false false) := by
  refine returnsInHanded_of_change_and (C := Tryd.checked) (X := fun w _ => laidMetH Tryd.prog laidTab w) (fun _ _ _ hh h => h.of_heap hh) own started (by kernel_rfl) Tryd.func5
    (ChangeSpec.witness_at (enc := enc) (C := Tryd.checked) (os := os) (X := fun w _ => laidMetH Tryd.prog laidTab w) false (laidWorld os) #[.int .i64 0] 8 rfl (by kernel_rfl) (by kernel_rfl) (by kernel_rfl) (by kernel_rfl) (by kernel_rfl) (laidWorld_tab os _)) ?_
  intro W base args ds gs before hval0 hW _ _ hL _
  have hval : ∀ (j : Nat) t v, Tryd.f5.params[j]? = some t → args[j]? = some v → Value.okWide Tryd.prog W .any base t v := hval0
  have hW' := hW
  obtain ⟨p, q, hA0, hV, rfl, hfz, hnd⟩ := hW
  have hA : DataW.TrodAll enc Tryd.prog W 0 (fun _ => true) true Tryd.f5.params.toList args.toList ds p := hA0
  rw [Tryd.params5] at hA hval
  obtain ⟨v0, vs0, d0, ds0, p0, q0, hargs, rfl, rfl, h0, r0⟩ := trodAll_cons hA
  obtain ⟨rfl, rfl, rfl⟩ := trodAll_nil r0
  obtain rfl : args = #[v0] := by cases args; simp_all
  obtain ⟨rfl, rfl⟩ := trodVars_none hV
  obtain ⟨a0, rfl, rfl, rfl, w0⟩ := open_int Tryd.underlying3 (hval 0 3 v0 rfl rfl) h0
  clear hA0 hval0
  refine (banksShows_walk a0 W w0 (laid_tab hL)).mono fun e W' ⟨he, bel⟩ => ?_
  subst he
  exact ⟨_, rfl, _, _, _, [], _, [], hW', trodAll_mk1 (shut_bool Tryd.underlying4 _), (trodAll_cons_mk (shut_int Tryd.underlying3 w0) trodAll_mk0), rfl, bel.frame _, fun h => by cases h⟩

theorem banksShows_over : Rows.banksShowsRow.holds Tryd.pinned (OpenSpec.ofChange Rows.banksShowsSpec) :=
  OpenClaim.holds_of_wide 5 Tryd.f5 rfl rfl rfl rfl rfl rfl rfl ⟨rfl, rfl, rfl, rfl, rfl⟩ rfl rfl rfl rfl rfl (by kernel_rfl) Tryd.func5 (by kernel_rfl)
    (of_decide_eq_true (by kernel_rfl)) (by unfold Func.isWrapper; first | (rw [if_pos (by decide +kernel)]; kernel_rfl) | (rw [if_neg (by decide +kernel)]; exact ⟨rfl, rfl⟩))
    (fun os started H enc _ => banksShows_lifted os started H enc)

theorem banksShows_row : Rows.BanksShowsSaid := banksShows_over

theorem banksShows_holds : Rows.BanksShowsCardSaid :=
  Claim7.holds_tied_plain_at .later [] [.data] true (true, "09638623dd0b79a456352dfdc5209dee7d5c6a873dd66b07b91f0fc533326a88") false
    banksShows_row (fun _ h => by cases h) (by kernel_rfl) (fun _ h => by cases h) banksShows_row_tie rfl ⟨rfl, rfl⟩ (by kernel_rfl) rfl
    (fun f fn hf hfn => by
      obtain rfl : f = 5 := Option.some.inj ((show Tryd.prog.funcNamed "phosphor/phosphorlaw04.BanksShows" = some 5 by kernel_rfl).symm.trans hf) |>.symm
      obtain rfl : fn = Tryd.f5 := (Option.some.inj (Tryd.func5.symm.trans hfn)).symm
      exact ⟨by kernel_rfl, fun j t ht => by
        rw [Tryd.params5] at ht
        rcases j with _ | j
        · obtain rfl : t = 3 := by simpa using ht.symm
          exact (show Tryd.prog.wantsStandIn 3 = false by kernel_rfl)
        · simp at ht⟩)
    (by kernel_rfl)
#print axioms banksShows_holds
end Go.Proofs.YtemljklgjhnibaaDoor
