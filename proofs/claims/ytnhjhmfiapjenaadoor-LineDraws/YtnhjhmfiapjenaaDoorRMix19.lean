/- The document's own Mix, and the law's comparison of two slices: contracts. -/
import Derived.Test.YtnhjhmfiapjenaaDoorMix19
import Derived.Test.YtnhjhmfiapjenaaDoorGenA
namespace Go.Proofs.YtnhjhmfiapjenaaDoor
open Go.RowKit
set_option linter.unusedVariables false

theorem rmix_is (a0 a1 a2 : Option Addr) (N k0 l1 k1 l2 k2 P : Nat) (B : Nat → Int) (C : Nat → Int) (F : Nat → Bool) (w : World) (H0 : Hid (IntsAt w a0 N B)) (H1 : Hid (IntsAt w a1 P C)) (H2 : Hid (FlagsAt w a2 P F)) (hN : N ≤ 65536) (hl1 : (l1 : Int) ≤ 1099511627776) (hl2 : (l2 : Int) ≤ 1099511627776) (HC : Hid (∀ j, j < P → -9223372036854775808 ≤ C j ∧ C j ≤ 1099511627776)) (hP : P = min l1 l2) : Calls Tryd.prog 26 #[.slice a0 N k0, .slice a1 l1 k1, .slice a2 l2 k2] w fun e w' => ∃ v, e = .returned v ∧ w'.ownsRow w.heap.size 3 1 v N (rowN (mixOf B P C F) N) ∧ Below w.heap.size w w' := by
  have HP := hide hP
  clear hP
  go_enter Tryd.func26, Tryd.ntmps26
  go_wp2_with fail
  go_loopw [7, 8] (fun sv si wr => ∃ k : Nat, k ≤ N ∧ si = .int .i64 (k : Int) ∧ wr.ownsRow w.heap.size 3 1 sv k (rowN (mixOf B P C F) k) ∧ Below w.heap.size w wr) (fun _ si _ => N - (intOf si).toNat)
  case atStart => exact ⟨0, Nat.zero_le _, rfl, ⟨rfl, .inl ⟨rfl, rfl⟩⟩, Below.refl _ _⟩
  case round =>
    obtain ⟨k, hk, rfl, own, bel⟩ := hrel
    have OW := hide own
    have BL := hide bel
    clear own bel
    generalize u7 = sv at *
    by_cases hlt : k < N
    · obtain ⟨b0, o0, rfl, hb0, e0⟩ := (H0.out.next BL.out) k hlt
      obtain ⟨x, hx⟩ : ∃ x, B k = x := ⟨_, rfl⟩
      rw [hx] at e0
      have HX := hide hx
      clear hx hb0
      by_cases q1 : k < l1
      · have d1 : decide ((k : Int) < (l1 : Int)) = true := decide_eq_true (by omega)
        by_cases q2 : k < l2
        · have d2 : decide ((k : Int) < (l2 : Int)) = true := decide_eq_true (by omega)
          have hkP : k < P := by have := HP.out; omega
          have HK := hide hkP
          obtain ⟨b1, o1, rfl, hb1, e1⟩ := (H1.out.next BL.out) k hkP
          obtain ⟨b2, o2, rfl, hb2, e2⟩ := (H2.out.next BL.out) k hkP
          have hc1 := (HC.out k hkP).1
          have hc2 := (HC.out k hkP).2
          obtain ⟨y, hy⟩ : ∃ y, C k = y := ⟨_, rfl⟩
          obtain ⟨f, hf⟩ : ∃ f, F k = f := ⟨_, rfl⟩
          rw [hy] at e1 hc1 hc2
          rw [hf] at e2
          have HY := hide (And.intro hy hf)
          clear hy hf hkP hb1 hb2
          by_cases z : y = 0
          · have z1 : (y != 0) = false := by simpa using z
            have HV := hide (show mixOf B P C F k = x from by unfold mixOf; rw [HY.out.1, HX.out, if_neg (fun h => h.2.1 z)])
            have HN := hide (show (wr.alloc (.cells #[.int .i64 (x)] 3)).cell? ⟨wr.heap.size, 0, none⟩ = some (.int .i64 (x)) by simp)
            have HO := hide (OW.out.alloc (.cells #[.int .i64 (x)] 3))
            have BA := hide (BL.out.alloc BL.out.size (.cells #[.int .i64 (x)] 3))
            have LB := hide (show w.heap.size ≤ (wr.alloc (.cells #[.int .i64 (x)] 3)).heap.size by have := BL.out.size; simp; omega)
            go_wp2_with (first
              | (at_builtin; refine wpList_append_int rfl (.tmp 55) (.tmp 57) rfl w.heap.size wr.heap.size k sv _ (x) rfl rfl HO.out HN.out LB.out (by omega) ?_; intro v6 w6 o6 b6))
            have O6 := hide o6
            have B6 := hide (BA.out.trans b6)
            clear o6 b6
            go_roundw
            case rel =>
              refine ⟨k + 1, by omega, by go_num, ?_, B6.out⟩
              have h := O6.out
              rw [← HV.out, rowN_next] at h
              exact h
            case measure => simp [intOf]; omega
          · have z1 : (y != 0) = true := by simpa using z
            cases f
            · by_cases q : x = 0
              · have r1 : (x == 0) = true := by simpa using q
                have HV := hide (show mixOf B P C F k = 256 + y from by unfold mixOf; rw [HY.out.1, HX.out, if_pos ⟨HK.out, z, .inr q⟩])
                have HN := hide (show (wr.alloc (.cells #[.int .i64 (256 + y)] 3)).cell? ⟨wr.heap.size, 0, none⟩ = some (.int .i64 (256 + y)) by simp)
                have HO := hide (OW.out.alloc (.cells #[.int .i64 (256 + y)] 3))
                have BA := hide (BL.out.alloc BL.out.size (.cells #[.int .i64 (256 + y)] 3))
                have LB := hide (show w.heap.size ≤ (wr.alloc (.cells #[.int .i64 (256 + y)] 3)).heap.size by have := BL.out.size; simp; omega)
                go_wp2_with (first
                  | (at_builtin; refine wpList_append_int rfl (.tmp 55) (.tmp 57) rfl w.heap.size wr.heap.size k sv _ (256 + y) rfl rfl HO.out HN.out LB.out (by omega) ?_; intro v6 w6 o6 b6))
                have O6 := hide o6
                have B6 := hide (BA.out.trans b6)
                clear o6 b6
                go_roundw
                case rel =>
                  refine ⟨k + 1, by omega, by go_num, ?_, B6.out⟩
                  have h := O6.out
                  rw [← HV.out, rowN_next] at h
                  exact h
                case measure => simp [intOf]; omega
              · have r1 : (x == 0) = false := by simpa using q
                have HV := hide (show mixOf B P C F k = x from by unfold mixOf; rw [HY.out.1, HY.out.2, HX.out, if_neg (fun h => by rcases h.2.2 with h | h; cases h; exact q h)])
                have HN := hide (show (wr.alloc (.cells #[.int .i64 (x)] 3)).cell? ⟨wr.heap.size, 0, none⟩ = some (.int .i64 (x)) by simp)
                have HO := hide (OW.out.alloc (.cells #[.int .i64 (x)] 3))
                have BA := hide (BL.out.alloc BL.out.size (.cells #[.int .i64 (x)] 3))
                have LB := hide (show w.heap.size ≤ (wr.alloc (.cells #[.int .i64 (x)] 3)).heap.size by have := BL.out.size; simp; omega)
                go_wp2_with (first
                  | (at_builtin; refine wpList_append_int rfl (.tmp 55) (.tmp 57) rfl w.heap.size wr.heap.size k sv _ (x) rfl rfl HO.out HN.out LB.out (by omega) ?_; intro v6 w6 o6 b6))
                have O6 := hide o6
                have B6 := hide (BA.out.trans b6)
                clear o6 b6
                go_roundw
                case rel =>
                  refine ⟨k + 1, by omega, by go_num, ?_, B6.out⟩
                  have h := O6.out
                  rw [← HV.out, rowN_next] at h
                  exact h
                case measure => simp [intOf]; omega
            · have z2 := z1
              have HV := hide (show mixOf B P C F k = 256 + y from by unfold mixOf; rw [HY.out.1, HY.out.2, if_pos ⟨HK.out, z, .inl rfl⟩])
              have HN := hide (show (wr.alloc (.cells #[.int .i64 (256 + y)] 3)).cell? ⟨wr.heap.size, 0, none⟩ = some (.int .i64 (256 + y)) by simp)
              have HO := hide (OW.out.alloc (.cells #[.int .i64 (256 + y)] 3))
              have BA := hide (BL.out.alloc BL.out.size (.cells #[.int .i64 (256 + y)] 3))
              have LB := hide (show w.heap.size ≤ (wr.alloc (.cells #[.int .i64 (256 + y)] 3)).heap.size by have := BL.out.size; simp; omega)
              go_wp2_with (first
                | (at_builtin; refine wpList_append_int rfl (.tmp 55) (.tmp 57) rfl w.heap.size wr.heap.size k sv _ (256 + y) rfl rfl HO.out HN.out LB.out (by omega) ?_; intro v6 w6 o6 b6))
              have O6 := hide o6
              have B6 := hide (BA.out.trans b6)
              clear o6 b6
              go_roundw
              case rel =>
                refine ⟨k + 1, by omega, by go_num, ?_, B6.out⟩
                have h := O6.out
                rw [← HV.out, rowN_next] at h
                exact h
              case measure => simp [intOf]; omega
        · have d2 : decide ((k : Int) < (l2 : Int)) = false := decide_eq_false (by omega)
          have HV := hide (show mixOf B P C F k = x from by unfold mixOf; rw [if_neg (fun h => by have := HP.out; omega)]; exact HX.out)
          have HN := hide (show (wr.alloc (.cells #[.int .i64 (x)] 3)).cell? ⟨wr.heap.size, 0, none⟩ = some (.int .i64 (x)) by simp)
          have HO := hide (OW.out.alloc (.cells #[.int .i64 (x)] 3))
          have BA := hide (BL.out.alloc BL.out.size (.cells #[.int .i64 (x)] 3))
          have LB := hide (show w.heap.size ≤ (wr.alloc (.cells #[.int .i64 (x)] 3)).heap.size by have := BL.out.size; simp; omega)
          go_wp2_with (first
            | (at_builtin; refine wpList_append_int rfl (.tmp 55) (.tmp 57) rfl w.heap.size wr.heap.size k sv _ (x) rfl rfl HO.out HN.out LB.out (by omega) ?_; intro v6 w6 o6 b6))
          have O6 := hide o6
          have B6 := hide (BA.out.trans b6)
          clear o6 b6
          go_roundw
          case rel =>
            refine ⟨k + 1, by omega, by go_num, ?_, B6.out⟩
            have h := O6.out
            rw [← HV.out, rowN_next] at h
            exact h
          case measure => simp [intOf]; omega
      · have d1 : decide ((k : Int) < (l1 : Int)) = false := decide_eq_false (by omega)
        have HV := hide (show mixOf B P C F k = x from by unfold mixOf; rw [if_neg (fun h => by have := HP.out; omega)]; exact HX.out)
        have HN := hide (show (wr.alloc (.cells #[.int .i64 (x)] 3)).cell? ⟨wr.heap.size, 0, none⟩ = some (.int .i64 (x)) by simp)
        have HO := hide (OW.out.alloc (.cells #[.int .i64 (x)] 3))
        have BA := hide (BL.out.alloc BL.out.size (.cells #[.int .i64 (x)] 3))
        have LB := hide (show w.heap.size ≤ (wr.alloc (.cells #[.int .i64 (x)] 3)).heap.size by have := BL.out.size; simp; omega)
        go_wp2_with (first
          | (at_builtin; refine wpList_append_int rfl (.tmp 55) (.tmp 57) rfl w.heap.size wr.heap.size k sv _ (x) rfl rfl HO.out HN.out LB.out (by omega) ?_; intro v6 w6 o6 b6))
        have O6 := hide o6
        have B6 := hide (BA.out.trans b6)
        clear o6 b6
        go_roundw
        case rel =>
          refine ⟨k + 1, by omega, by go_num, ?_, B6.out⟩
          have h := O6.out
          rw [← HV.out, rowN_next] at h
          exact h
        case measure => simp [intOf]; omega
    · obtain rfl : k = N := by omega
      go_wp2_with fail
      go_ret
      exact ⟨_, rfl, OW.out, BL.out⟩
/-- The law's comparison, of two slices that are alike. -/
theorem ints_same (a0 a1 : Option Addr) (N k0 k1 : Nat) (M : Nat → Int) (w : World) (H0 : Hid (IntsAt w a0 N M)) (H1 : Hid (IntsAt w a1 N M)) (hN : N ≤ 65536) : Calls Tryd.prog 11 #[.slice a0 N k0, .slice a1 N k1] w fun e w' => e = .returned (.bool true) ∧ Below w.heap.size w w' := by
  go_enter Tryd.func11, Tryd.ntmps11
  go_wp2_with fail
  go_loopw [5] (fun si wr => ∃ k : Nat, k ≤ N ∧ si = .int .i64 (k : Int) ∧ Below w.heap.size w wr) (fun si _ => N - (intOf si).toNat)
  case atStart => exact ⟨0, Nat.zero_le _, rfl, Below.refl _ _⟩
  case round =>
    obtain ⟨k, hk, rfl, bel⟩ := hrel
    have BL := hide bel
    clear bel
    by_cases hlt : k < N
    · obtain ⟨b0, o0, rfl, hb0, e0⟩ := (H0.out.next BL.out) k hlt
      obtain ⟨b1, o1, rfl, hb1, e1⟩ := (H1.out.next BL.out) k hlt
      generalize M k = x at *
      go_wp2_with fail
      go_quiet (fail)
      go_wp2_with fail
      exact ⟨⟨k + 1, by omega, by go_num, bnext BL.out (below_drew (Below.refl _ _) _)⟩, by simp [intOf]; omega⟩
    · obtain rfl : k = N := by omega
      go_wp2_with fail
      go_ret
      exact ⟨rfl, BL.out⟩
end Go.Proofs.YtnhjhmfiapjenaaDoor
