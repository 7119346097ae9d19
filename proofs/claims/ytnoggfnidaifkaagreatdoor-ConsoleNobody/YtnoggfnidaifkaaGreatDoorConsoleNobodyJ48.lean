/- Texts put together. -/
import Derived.Test.YtnoggfnidaifkaaGreatDoorConsoleNobodyJ14
import Derived.Test.YtnoggfnidaifkaaGreatDoorConsoleNobodyJ04
import Derived.OwnWalk
import Derived.Test.YtnoggfnidaifkaaGreatDoorConsoleNobodyJ45
import Derived.Laws.StructEq
import Derived.WalkMore
namespace Go.Proofs.YtnoggfnidaifkaaGreatDoor.M5
set_option maxRecDepth 20000
open Go.RowKit
set_option linter.unusedVariables false
theorem rphys_any (f : Nat → Int) (a : Int) (w : World) : Calls Tryz.prog 158 #[.agg #[.int .i64 (f 0), .int .i64 (f 1), .int .i64 (f 2), .int .i64 (f 3), .int .i64 (f 4), .int .i64 (f 5), .int .i64 (f 6), .int .i64 (f 7)], .int .i64 a] w fun e w' => e = .returned (.int .i64 (physOf f a)) ∧ Below w.heap.size w w' := by
  have e : physOf f a = f (a % 65536 / 8192).toNat % 256 * 8192 + a % 8192 := rfl
  have h : a % 65536 / 8192 = 0 ∨ a % 65536 / 8192 = 1 ∨ a % 65536 / 8192 = 2 ∨ a % 65536 / 8192 = 3 ∨ a % 65536 / 8192 = 4 ∨ a % 65536 / 8192 = 5 ∨ a % 65536 / 8192 = 6 ∨ a % 65536 / 8192 = 7 := by omega
  rcases h with h | h | h | h | h | h | h | h
  all_goals
    have E := hide e
    rw [h] at E
    clear e
    go_enter Tryz.func158, Tryz.ntmps158
    go_wp2_with (first
      | (go_at_call 118; refine (rword_any _ _).mono ?_; rintro e w' ⟨rfl, rfl⟩)
      | (go_at_call 159; refine (rbyte_any _ _).mono ?_; rintro e w' ⟨rfl, rfl⟩))
    go_ret
    exact ⟨ret_int E.out.symm, (Below.refl _ w).alloc (Nat.le_refl _) _⟩
end Go.Proofs.YtnoggfnidaifkaaGreatDoor.M5
namespace Go.Proofs.YtnoggfnidaifkaaGreatDoor.G6
set_option maxRecDepth 20000
open Go.RowKit
set_option linter.unusedVariables false
theorem ret_three {a b c x y z : Int} (h : a = x) (k : b = y) (l : c = z) : Ending.returned (.tuple #[.int .i64 a, .int .i64 b, .int .i64 c]) = .returned (.tuple #[.int .i64 x, .int .i64 y, .int .i64 z]) := by rw [h, k, l]
theorem rwhere_any (p : Int) (w : World) : Calls Tryz.prog 213 #[.int .i64 p] w fun e w' => e = .returned (.tuple #[.int .i64 (kindW p), .int .i64 (pageW p), .int .i64 (atW p)]) ∧ w' = w := by
  by_cases h1 : p < 0 ∨ 2097152 ≤ p
  · have ek : kindW p = 8 := by unfold kindW; rw [if_pos h1]
    have eg : pageW p = 0 := by unfold pageW; rw [if_neg (by omega)]
    have ea : atW p = 0 := by unfold atW; rw [ek]; rfl
    rw [ek, eg, ea]
    by_cases k1 : p < 0
    · clear h1 ek eg ea
      go_enter Tryz.func213, Tryz.ntmps213
      go_wp2
      go_ret3
      exact ⟨ret_three (by first | rfl | omega) (by first | rfl | omega) (by first | rfl | omega), rfl⟩
    · have k2 : 2097151 < p := by omega
      clear h1 ek eg ea
      go_enter Tryz.func213, Tryz.ntmps213
      go_wp2
      go_ret3
      exact ⟨ret_three (by first | rfl | omega) (by first | rfl | omega) (by first | rfl | omega), rfl⟩
  · obtain ⟨g, hg⟩ : ∃ g, g = p / 8192 := ⟨_, rfl⟩
    obtain ⟨r, hr⟩ : ∃ r, r = p % 8192 := ⟨_, rfl⟩
    have p0 : 0 ≤ p := by omega
    have p1 : p ≤ 2097151 := by omega
    have fg : p / 8192 = g := hg.symm
    have fr : p % 8192 = r := hr.symm
    by_cases h2 : p < 1048576
    · have ek : kindW p = 0 := by unfold kindW; rw [if_neg h1, if_pos h2]
      have eg : pageW p = p / 8192 := by unfold pageW; rw [if_pos (by omega)]
      have ea : atW p = p % 8192 := by unfold atW; rw [ek]; rfl
      rw [ek, eg, ea, fg, fr]
      have l1 : g < 128 := by omega
      clear hg hr h1 ek eg ea
      go_enter Tryz.func213, Tryz.ntmps213
      go_wp2
      go_ret3
      exact ⟨ret_three (by first | rfl | omega) (by first | rfl | omega) (by first | rfl | omega), rfl⟩
    · have eg : pageW p = 0 := by unfold pageW; rw [if_neg (by omega)]
      by_cases h3 : 2031616 ≤ p ∧ p < 2064384
      · have ek : kindW p = 1 := by unfold kindW; rw [if_neg h1, if_neg h2, if_pos h3]
        have ea : atW p = p % 8192 := by unfold atW; rw [ek]; rfl
        rw [ek, eg, ea, fr]
        have l1 : 248 ≤ g := by omega
        have l2 : g ≤ 251 := by omega
        clear hg hr h1 ek eg ea h3
        go_enter Tryz.func213, Tryz.ntmps213
        go_wp2
        go_ret3
        exact ⟨ret_three (by first | rfl | omega) (by first | rfl | omega) (by first | rfl | omega), rfl⟩
      · by_cases h4 : p < 2088960
        · have ek : kindW p = 8 := by unfold kindW; rw [if_neg h1, if_neg h2, if_neg h3, if_pos (by omega)]
          have ea : atW p = 0 := by unfold atW; rw [ek]; rfl
          rw [ek, eg, ea]
          have l1 : 128 ≤ g := by omega
          have l2 : ¬ g = 255 := by omega
          by_cases l3 : 248 ≤ g
          · have l4 : 251 < g := by omega
            clear hg hr h1 ek eg ea h3
            go_enter Tryz.func213, Tryz.ntmps213
            go_wp2
            go_ret3
            exact ⟨ret_three (by first | rfl | omega) (by first | rfl | omega) (by first | rfl | omega), rfl⟩
          · clear hg hr h1 ek eg ea h3
            go_enter Tryz.func213, Tryz.ntmps213
            go_wp2
            go_ret3
            exact ⟨ret_three (by first | rfl | omega) (by first | rfl | omega) (by first | rfl | omega), rfl⟩
        · have g5 : g = 255 := by omega
          obtain ⟨q, hq⟩ : ∃ q, q = r / 1024 := ⟨_, rfl⟩
          have fq : r / 1024 = q := hq.symm
          have r0 : 0 ≤ r := by omega
          by_cases h5 : 2095104 ≤ p
          · have ek : kindW p = 8 := by unfold kindW; rw [if_neg h1, if_neg h2, if_neg h3, if_pos (by omega)]
            have ea : atW p = 0 := by unfold atW; rw [ek]; rfl
            rw [ek, eg, ea]
            have l2 : 5 < q := by omega
            clear hg hr h1 ek eg ea h3 hq
            subst g5
            go_enter Tryz.func213, Tryz.ntmps213
            go_wp2
            go_ret3
            exact ⟨ret_three (by first | rfl | omega) (by first | rfl | omega) (by first | rfl | omega), rfl⟩
          · have ek : kindW p = 2 + q := by unfold kindW; rw [if_neg h1, if_neg h2, if_neg h3, if_neg (by omega)]; omega
            have q6 : q = 0 ∨ q = 1 ∨ q = 2 ∨ q = 3 ∨ q = 4 ∨ q = 5 := by omega
            rw [eg]
            clear hg h1 eg h3 hq
            subst g5
            rcases q6 with rfl | rfl | rfl | rfl | rfl | rfl
            · have ea : atW p = r % 4 := by unfold atW; rw [ek]; show p % 4 = r % 4; omega
              rw [ek, ea]; clear ek ea hr
              go_enter Tryz.func213, Tryz.ntmps213
              go_wp2
              go_ret3
              exact ⟨ret_three (by first | rfl | omega) (by first | rfl | omega) (by first | rfl | omega), rfl⟩
            · have ea : atW p = r % 8 := by unfold atW; rw [ek]; show p % 8 = r % 8; omega
              rw [ek, ea]; clear ek ea hr
              go_enter Tryz.func213, Tryz.ntmps213
              go_wp2
              go_ret3
              exact ⟨ret_three (by first | rfl | omega) (by first | rfl | omega) (by first | rfl | omega), rfl⟩
            · have ea : atW p = r % 16 := by unfold atW; rw [ek]; show p % 16 = r % 16; omega
              rw [ek, ea]; clear ek ea hr
              go_enter Tryz.func213, Tryz.ntmps213
              go_wp2
              go_ret3
              exact ⟨ret_three (by first | rfl | omega) (by first | rfl | omega) (by first | rfl | omega), rfl⟩
            · have ea : atW p = r % 2 := by unfold atW; rw [ek]; show p % 2 = r % 2; omega
              rw [ek, ea]; clear ek ea hr
              go_enter Tryz.func213, Tryz.ntmps213
              go_wp2
              go_ret3
              exact ⟨ret_three (by first | rfl | omega) (by first | rfl | omega) (by first | rfl | omega), rfl⟩
            · have ea : atW p = 0 := by unfold atW; rw [ek]; rfl
              rw [ek, ea]; clear ek ea hr
              go_enter Tryz.func213, Tryz.ntmps213
              go_wp2
              go_ret3
              exact ⟨ret_three (by first | rfl | omega) (by first | rfl | omega) (by first | rfl | omega), rfl⟩
            · have ea : atW p = r % 4 := by unfold atW; rw [ek]; show p % 4 = r % 4; omega
              rw [ek, ea]; clear ek ea hr
              go_enter Tryz.func213, Tryz.ntmps213
              go_wp2
              go_ret3
              exact ⟨ret_three (by first | rfl | omega) (by first | rfl | omega) (by first | rfl | omega), rfl⟩
end Go.Proofs.YtnoggfnidaifkaaGreatDoor.G6
namespace Go.Proofs.YtnoggfnidaifkaaGreatDoor
set_option maxRecDepth 20000
open Go.RowKit
set_option linter.unusedVariables false
theorem clamp_any (n a b : Int) (hab : a ≤ b) (w : World) : Calls Tryz.prog 117 #[.int .i64 n, .int .i64 a, .int .i64 b] w fun e w' => e = .returned (.int .i64 (inB a b n)) ∧ w' = w := by
  by_cases h1 : n < a
  · go_enter Tryz.func117, Tryz.ntmps117
    go_wp2
    go_ret
    exact ⟨ret_int (by unfold inB; omega), rfl⟩
  · by_cases h2 : b < n
    all_goals
      go_enter Tryz.func117, Tryz.ntmps117
      go_wp2
      go_ret
      exact ⟨ret_int (by unfold inB; omega), rfl⟩
theorem clamp_is (n a b r : Int) (hab : a ≤ b) (h : inB a b n = r) (w : World) : Calls Tryz.prog 117 #[.int .i64 n, .int .i64 a, .int .i64 b] w fun e w' => e = .returned (.int .i64 r) ∧ w' = w := by
  subst h
  exact clamp_any n a b hab w
theorem rof_walk (a b c d f g : Int) (w : World) (p l q c' d' f' cm dm dq fm o1 x t v k : Int) (CP : Hid (∀ w, Calls Tryz.prog 117 #[.int .i64 a, .int .i64 2, .int .i64 4] w fun e w' => e = .returned (.int .i64 p) ∧ w' = w)) (CL : Hid (∀ w, Calls Tryz.prog 117 #[.int .i64 b, .int .i64 262, .int .i64 263] w fun e w' => e = .returned (.int .i64 l) ∧ w' = w))
    (CO : Hid (∀ w, Calls Tryz.prog 117 #[.int .i64 (8 * (cm + 1)), .int .i64 0, .int .i64 512] w fun e w' => e = .returned (.int .i64 o1) ∧ w' = w)) (CX : Hid (∀ w, Calls Tryz.prog 117 #[.int .i64 o1, .int .i64 0, .int .i64 q] w fun e w' => e = .returned (.int .i64 x) ∧ w' = w))
    (CT : Hid (∀ w, Calls Tryz.prog 117 #[.int .i64 (dm + dq + 3), .int .i64 0, .int .i64 l] w fun e w' => e = .returned (.int .i64 t) ∧ w' = w)) (CV : Hid (∀ w, Calls Tryz.prog 117 #[.int .i64 (t + fm + 1), .int .i64 0, .int .i64 l] w fun e w' => e = .returned (.int .i64 v) ∧ w' = w))
    (CK : Hid (∀ w, Calls Tryz.prog 117 #[.int .i64 v, .int .i64 0, .int .i64 (l - 1)] w fun e w' => e = .returned (.int .i64 k) ∧ w' = w))
    (WC : Hid (∀ w, Calls Tryz.prog 118 #[.int .i64 c] w fun e w' => e = .returned (.int .i64 c') ∧ w' = w)) (WD : Hid (∀ w, Calls Tryz.prog 118 #[.int .i64 d] w fun e w' => e = .returned (.int .i64 d') ∧ w' = w)) (WF : Hid (∀ w, Calls Tryz.prog 118 #[.int .i64 f] w fun e w' => e = .returned (.int .i64 f') ∧ w' = w))
    (ec : Int.tmod c' 128 = cm) (ed : Int.tmod d' 32 = dm) (eq : Int.tdiv d' 256 = dq) (ef : Int.tmod f' 512 = fm) (eQ : Int.tdiv 1365 p = q) (p0 : 2 ≤ p) (p1 : p ≤ 4) (l0 : 262 ≤ l) (l1 : l ≤ 263) (q0 : 341 ≤ q) (q1 : q ≤ 682)
    (c0 : 0 ≤ cm) (c1 : cm < 128) (d0 : 0 ≤ dm) (d1 : dm < 32) (d2 : 0 ≤ dq) (d3 : dq < 256) (f0 : 0 ≤ fm) (f1 : fm < 512) (t0 : 0 ≤ t) (t1 : t ≤ 263) :
    Calls Tryz.prog 74 #[.agg #[.int .i64 a, .int .i64 b, .int .i64 c, .int .i64 d, .int .i64 f, .int .i64 g]] w fun e w' => e = .returned (.agg #[.int .i64 x, .int .i64 t, .int .i64 v, .int .i64 k, .int .i64 l]) ∧ Below w.heap.size w w' := by
  go_enter Tryz.func74, Tryz.ntmps74
  go_wp2_with fail
  refine (CP.out _).mono ?_
  rintro e w' ⟨rfl, rfl⟩
  go_wp2_with fail
  refine (CL.out _).mono ?_
  rintro e w' ⟨rfl, rfl⟩
  go_wp2_with fail
  refine (WC.out _).mono ?_
  rintro e w' ⟨rfl, rfl⟩
  go_wp2_with fail
  refine (WD.out _).mono ?_
  rintro e w' ⟨rfl, rfl⟩
  go_wp2_with fail
  refine (WF.out _).mono ?_
  rintro e w' ⟨rfl, rfl⟩
  go_wp2_with fail
  refine (CO.out _).mono ?_
  rintro e w' ⟨rfl, rfl⟩
  go_wp2_with fail
  refine (CX.out _).mono ?_
  rintro e w' ⟨rfl, rfl⟩
  go_wp2_with fail
  refine (CT.out _).mono ?_
  rintro e w' ⟨rfl, rfl⟩
  go_wp2_with fail
  refine (CV.out _).mono ?_
  rintro e w' ⟨rfl, rfl⟩
  go_wp2_with fail
  refine (CK.out _).mono ?_
  rintro e w' ⟨rfl, rfl⟩
  go_wp2
  go_returns
  exact ⟨rfl, ((Below.refl _ w).alloc (Nat.le_refl _) _).alloc (by simp) _⟩
theorem rof_any (a b c d f g : Int) (w : World) : Calls Tryz.prog 74 #[.agg #[.int .i64 a, .int .i64 b, .int .i64 c, .int .i64 d, .int .i64 f, .int .i64 g]] w fun e w' =>
      e = .returned (.agg #[.int .i64 (wideOf a c), .int .i64 (topOf b d), .int .i64 (botOf b d f), .int .i64 (blkOf b d f), .int .i64 (linOf b)]) ∧ Below w.heap.size w w' := by
  have h1 := quo_dot a
  have h2 := inB_le 2 4 a (by decide)
  have h3 := lin_le b
  have h4 := top_le b d
  have h5 := bot_le b d f
  have h6 := widthOf_le c
  have m0 : mostOf a = min 512 (1365 / inB 2 4 a) := rfl
  have ew : inB 0 (1365 / inB 2 4 a) (inB 0 512 (8 * (c % 128 + 1))) = wideOf a c := by
    unfold wideOf widthOf at *
    generalize mostOf a = u at *
    generalize 1365 / inB 2 4 a = q at *
    unfold inB
    omega
  have et : inB 0 (linOf b) (d % 32 + d / 256 % 256 + 3) = topOf b d := rfl
  have ev : inB 0 (linOf b) (topOf b d + f % 512 + 1) = botOf b d f := by unfold botOf heightOf; rw [Int.add_assoc]
  have ek : inB 0 (linOf b - 1) (botOf b d f) = blkOf b d f := by unfold blkOf inB; omega
  exact rof_walk a b c d f g w (inB 2 4 a) (linOf b) (1365 / inB 2 4 a) (c % 65536) (d % 65536) (f % 65536) (c % 128) (d % 32) (d / 256 % 256) (f % 512) _ (wideOf a c) (topOf b d) (botOf b d f) (blkOf b d f)
    (hide (clamp_any a 2 4 (by decide))) (hide (clamp_any b 262 263 (by decide))) (hide (clamp_any _ 0 512 (by decide))) (hide (clamp_is _ 0 _ _ (by omega) ew)) (hide (clamp_is _ 0 _ _ (by omega) et)) (hide (clamp_is _ 0 _ _ (by omega) ev)) (hide (clamp_is _ 0 _ _ (by omega) ek))
    (hide (rword_any c)) (hide (rword_any d)) (hide (rword_any f))
    (by rw [Int.tmod_eq_emod_of_nonneg (by omega)]; omega) (by rw [Int.tmod_eq_emod_of_nonneg (by omega)]; omega) (by rw [Int.tdiv_eq_ediv_of_nonneg (by omega)]; omega) (by rw [Int.tmod_eq_emod_of_nonneg (by omega)]; omega) (Int.tdiv_eq_ediv_of_nonneg (by decide))
    h2.1 h2.2 h3.1 h3.2 h1.1 h1.2.1 (by omega) (by omega) (by omega) (by omega) (by omega) (by omega) (by omega) (by omega) (by omega) (by omega)
def HasR (w : World) (b : Nat) (x t v k l : Int) : Prop := w.heap[b]? = some (.cells #[.int .i64 x, .int .i64 t, .int .i64 v, .int .i64 k, .int .i64 l] 126 (0, 0))
theorem HasR.next {w w' : World} {b : Nat} {x t v k l : Int} (h : HasR w b x t v k l) (q : Below w.heap.size w w') : HasR w' b x t v k l := (q.block b (lt_of_block h)).trans h
theorem HasR.lt {w : World} {b : Nat} {x t v k l : Int} (h : HasR w b x t v k l) : b < w.heap.size := lt_of_block h
theorem HasR.at {w : World} {b : Nat} {x t v k l : Int} (h : HasR w b x t v k l) (j : Nat) : w.cell? ⟨b, j, none⟩ = (#[.int .i64 x, .int .i64 t, .int .i64 v, .int .i64 k, .int .i64 l] : Array Value)[j]? := cell_of_row w b j _ _ _ h
end Go.Proofs.YtnoggfnidaifkaaGreatDoor
