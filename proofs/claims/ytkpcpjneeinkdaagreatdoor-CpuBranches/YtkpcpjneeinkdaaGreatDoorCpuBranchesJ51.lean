/- A branch goes on behind itself, or as far as it says: the walk. -/
import Derived.Test.YtkpcpjneeinkdaaGreatDoorCpuBranchesJ50
namespace Go.Proofs.YtkpcpjneeinkdaaGreatDoor
open Go.Proofs.YtkpcpjneeinkdaaGreatDoor.A2 Go.Proofs.YtkpcpjneeinkdaaGreatDoor.B4 Go.Proofs.YtkpcpjneeinkdaaGreatDoor.C3 Go.Proofs.YtkpcpjneeinkdaaGreatDoor.D24 Go.Proofs.YtkpcpjneeinkdaaGreatDoor.G6 Go.Proofs.YtkpcpjneeinkdaaGreatDoor.I11 Go.Proofs.YtkpcpjneeinkdaaGreatDoor.J23 Go.Proofs.YtkpcpjneeinkdaaGreatDoor.K9 Go.Proofs.YtkpcpjneeinkdaaGreatDoor.L24 Go.Proofs.YtkpcpjneeinkdaaGreatDoor.L25 Go.Proofs.YtkpcpjneeinkdaaGreatDoor.M5 Go.Proofs.YtkpcpjneeinkdaaGreatDoor.N8 Go.Proofs.YtkpcpjneeinkdaaGreatDoor.O7 Go.Proofs.YtkpcpjneeinkdaaGreatDoor.P22 Go.Proofs.YtkpcpjneeinkdaaGreatDoor.R15 Go.Proofs.YtkpcpjneeinkdaaGreatDoor.T10 Go.Proofs.YtkpcpjneeinkdaaGreatDoor.V12 Go.Proofs.YtkpcpjneeinkdaaGreatDoor.W13
open Go.RowKit
set_option linter.unusedVariables false
def flK (K : Nat) : Int := if K / 2 = 0 then 128 else if K / 2 = 1 then 64 else if K / 2 = 2 then 1 else 2
theorem br_all (K : Nat) (hK : K < 8) : (modeOf (32 * K + 16) = 14 ∧ lenOf (32 * K + 16) = 2 ∧ cycOf (32 * K + 16) = 2) ∧ ∀ {bs : List Int} {I B : Nat → Int} {t : Bool} {Z : Nat → Nat → Int}, DoZ bs (nameOf (32 * K + 16)) I B t Z (brS I (hasF (Z 20 4) (flK K)) (K % 2 == 1) Z) := by
  rcases K with _ | _ | _ | _ | _ | _ | _ | _ | K
  · exact ⟨⟨by kernel_rfl, by kernel_rfl, by kernel_rfl⟩, by rw [show nameOf (32 * 0 + 16) = ⟨#[66, 80, 76]⟩ by kernel_rfl]; exact do_BPL⟩
  · exact ⟨⟨by kernel_rfl, by kernel_rfl, by kernel_rfl⟩, by rw [show nameOf (32 * 1 + 16) = ⟨#[66, 77, 73]⟩ by kernel_rfl]; exact do_BMI⟩
  · exact ⟨⟨by kernel_rfl, by kernel_rfl, by kernel_rfl⟩, by rw [show nameOf (32 * 2 + 16) = ⟨#[66, 86, 67]⟩ by kernel_rfl]; exact do_BVC⟩
  · exact ⟨⟨by kernel_rfl, by kernel_rfl, by kernel_rfl⟩, by rw [show nameOf (32 * 3 + 16) = ⟨#[66, 86, 83]⟩ by kernel_rfl]; exact do_BVS⟩
  · exact ⟨⟨by kernel_rfl, by kernel_rfl, by kernel_rfl⟩, by rw [show nameOf (32 * 4 + 16) = ⟨#[66, 67, 67]⟩ by kernel_rfl]; exact do_BCC⟩
  · exact ⟨⟨by kernel_rfl, by kernel_rfl, by kernel_rfl⟩, by rw [show nameOf (32 * 5 + 16) = ⟨#[66, 67, 83]⟩ by kernel_rfl]; exact do_BCS⟩
  · exact ⟨⟨by kernel_rfl, by kernel_rfl, by kernel_rfl⟩, by rw [show nameOf (32 * 6 + 16) = ⟨#[66, 78, 69]⟩ by kernel_rfl]; exact do_BNE⟩
  · exact ⟨⟨by kernel_rfl, by kernel_rfl, by kernel_rfl⟩, by rw [show nameOf (32 * 7 + 16) = ⟨#[66, 69, 81]⟩ by kernel_rfl]; exact do_BEQ⟩
  · omega
theorem fl_and (K : Nat) (hK : K < 8) {P : Int} (hP : IsByte P) : hasF (anP P 32) (flK K) = hasF P (flK K) := by
  rcases K with _ | _ | _ | _ | _ | _ | _ | _ | K
  · exact fin_of (P := fun x => hasF (anP x 32) 128 = hasF x 128) (by unfold hasF anP; decide +kernel) hP
  · exact fin_of (P := fun x => hasF (anP x 32) 128 = hasF x 128) (by unfold hasF anP; decide +kernel) hP
  · exact fin_of (P := fun x => hasF (anP x 32) 64 = hasF x 64) (by unfold hasF anP; decide +kernel) hP
  · exact fin_of (P := fun x => hasF (anP x 32) 64 = hasF x 64) (by unfold hasF anP; decide +kernel) hP
  · exact fin_of (P := fun x => hasF (anP x 32) 1 = hasF x 1) (by unfold hasF anP; decide +kernel) hP
  · exact fin_of (P := fun x => hasF (anP x 32) 1 = hasF x 1) (by unfold hasF anP; decide +kernel) hP
  · exact fin_of (P := fun x => hasF (anP x 32) 2 = hasF x 2) (by unfold hasF anP; decide +kernel) hP
  · exact fin_of (P := fun x => hasF (anP x 32) 2 = hasF x 2) (by unfold hasF anP; decide +kernel) hP
  · omega
theorem br_goes (K : Nat) (hK : K < 8) {P t : Int} (hP : IsByte P) (ht : IsByte t) {M : Nat → Int} (h0 : M 1024 = ((32 * K + 16 : Nat) : Int)) (h1 : M 1025 = t) (bs : List Int) :
    Goes bs Yp M 0 0 0 255 P 1024 false 0 M 0 0 0 255 (anP P 32) (if hasF P (flK K) = (K % 2 == 1) then (1026 + signOf t).toNat else 1026) false 0 (if hasF P (flK K) = (K % 2 == 1) then 4 else 2) := by
  obtain ⟨⟨m, l, c⟩, d⟩ := br_all K hK
  have ef := fl_and K hK hP
  have hs : -128 ≤ signOf t ∧ signOf t ≤ 127 := by unfold signOf; split <;> omega
  by_cases on : hasF P (flK K) = (K % 2 == 1)
  · rw [if_pos on, if_pos on]
    exact go_br_yes calm_p zB zB zB mB hP (by decide) h0 (by omega) m l c (flK K) (K % 2 == 1) d (by rw [ef]; exact on) (by rw [show M (1024 + 1) = t from h1]; omega) (by omega)
  · rw [if_neg on, if_neg on]
    exact go_br_no calm_p zB zB zB mB hP (by decide) h0 (by omega) m l c (flK K) (K % 2 == 1) d (by rw [ef]; exact on)
theorem fl_index (K : Nat) (hK : K < 8) (w : World) : (Instr.index 71 (.agg #[.int .i64 128, .int .i64 64, .int .i64 1, .int .i64 2]) (.int .i64 ((K : Int) / 2))).run Tryz.prog w = .ok (.int .i64 (flK K)) w := by
  rcases K with _ | _ | _ | _ | _ | _ | _ | _ | K
  · kernel_rfl
  · kernel_rfl
  · kernel_rfl
  · kernel_rfl
  · kernel_rfl
  · kernel_rfl
  · kernel_rfl
  · kernel_rfl
  · omega
theorem i8_sign (a : Int) : IntKind.i8.wrap a = signOf a := by
  simp [IntKind.wrap, IntKind.bits, IntKind.signed, signOf]
theorem anP_223 (a : Int) : anP (bits .and .i64 a 255) 32 = bits .and .i64 a 223 := by
  have h : IsByte (a % 256) := by unfold IsByte; omega
  rw [and_255, fin_of (P := fun x => anP x 32 = bits .and .i64 x 223) (by unfold anP; decide +kernel) h, and_low a 223 ⟨by decide, by decide⟩, and_low (a % 256) 223 ⟨by decide, by decide⟩, Int.emod_emod_of_dvd a (by decide)]
theorem flK_in (K : Nat) (hK : K < 8) : IsByte (flK K) := by
  unfold flK IsByte
  repeat' split
  all_goals decide
theorem hasF_255 (K : Nat) (hK : K < 8) (a : Int) : hasF (bits .and .i64 a 255) (flK K) = (bits .and .i64 a (flK K) != 0) := by
  unfold hasF
  rw [and_255, and_low a _ (flK_in K hK), and_low (a % 256) _ (flK_in K hK), Int.emod_emod_of_dvd a (by decide)]
set_option maxHeartbeats 2000000 in
theorem cpuBranches_walk (a0 a1 a2 : Int) (W : World) (w0 : (Lit.int .i64 a0).wf = true) (w1 : (Lit.int .i64 a1).wf = true) (w2 : (Lit.int .u8 a2).wf = true) (hL : Tabs W ∧ HasErr W ∧ CT W) :
    Calls Tryz.prog 8 #[.int .i64 a0, .int .i64 a1, .int .u8 a2] W fun e w' => e = .returned (.bool true) ∧ Below W.heap.size W w' := by
  obtain ⟨t0, t1⟩ := u8_range w2
  obtain ⟨K, hK, eK⟩ : ∃ K : Nat, K < 8 ∧ bits .and .i64 a0 7 = (K : Int) := ⟨(a0 % 8).toNat, by omega, by rw [show bits .and .i64 a0 7 = a0 % 8 from and_mask 3 (by decide) a0]; omega⟩
  obtain ⟨P, hP⟩ : ∃ P, bits .and .i64 a1 255 = P := ⟨_, rfl⟩
  have HL := hide hL
  clear hL w0 w1 w2
  set_option maxRecDepth 20000 in
  go_enter Tryz.func8, Tryz.ntmps8
  set_option maxRecDepth 20000 in
  go_wp2_with fail
  have en : bits .or .i64 ((K : Int) * 32) 16 % 256 = ((32 * K + 16 : Nat) : Int) := by
    rcases K with _ | _ | _ | _ | _ | _ | _ | _ | K
    all_goals first | decide +kernel | omega
  rw [en]
  obtain ⟨wa, hwa⟩ : ∃ wa, W.alloc (.cells #[.int .u8 ((32 * K + 16 : Nat) : Int), .int .u8 a2] 5) = wa := ⟨_, rfl⟩
  rw [hwa]
  have B0 := hide (show Below W.heap.size W wa by rw [← hwa]; exact (Below.refl _ W).alloc (Nat.le_refl _) _)
  have SL := hide (show SlB wa (some ⟨W.heap.size, 0, none⟩) 2 (fun i => [((32 * K + 16 : Nat) : Int), a2].getD i 0) from lit_slb (l := [((32 * K + 16 : Nat) : Int), a2]) (by rw [← hwa]; exact heap_alloc_new _ _) (show 2 ≤ 9223372036854775807 by decide) (fun x hx => by rcases List.mem_cons.1 hx with rfl | hx; omega; rcases List.mem_cons.1 hx with rfl | hx; omega; cases hx))
  clear hwa en
  refine (put_is ⟨HL.out.1.next B0.out, HL.out.2.1.next B0.out, HL.out.2.2.next B0.out⟩ SL.out (nil_slb wa fun _ => 0) (by decide) (by decide)).mono ?_
  rintro e w1 ⟨b, v, c, d, bs, rfl, hc, ⟨lb, lv⟩, b1⟩
  have H1 := hide hc
  have B1 := hide (bnext B0.out b1)
  have NB := hide (show ∀ k, EX b v k → W.heap.size ≤ k from fun k e => by have := B0.out.size; rcases e with rfl | rfl; omega; omega)
  have NE := hide (show ¬ EX b v w1.heap.size from fun e => by obtain ⟨_, _, _, _, m1⟩ := hc; have := m1.lts; rcases e with e | e <;> omega)
  clear hc lb lv b1 SL
  have IX := fl_index K hK
  set_option maxRecDepth 20000 in
  go_wp2_with fail
  obtain ⟨w2, hw2⟩ : ∃ w2, w1.alloc (.cells #[.int .i64 0, .int .i64 0, .int .i64 0, .int .i64 255, .int .i64 P, .int .i64 9216, .bool false, .int .i64 0] 58) = w2 := ⟨_, rfl⟩
  rw [hw2]
  have G2 := hide (show w2.heap[w1.heap.size]? = some (.cells #[.int .i64 0, .int .i64 0, .int .i64 0, .int .i64 255, .int .i64 P, .int .i64 9216, .bool false, .int .i64 0] 58 (0, 0)) by rw [← hw2]; exact heap_alloc_new _ _)
  have b2 : Below w1.heap.size w1 w2 := by rw [← hw2]; exact (Below.refl _ w1).alloc (Nat.le_refl _) _
  have B2 := hide (bnext B1.out b2)
  have H2 := hide (H1.out.next b2)
  have M0 := hide (show putM (fun i => [((32 * K + 16 : Nat) : Int), a2].getD i 0) (fun _ => 0) 2 0 1024 = ((32 * K + 16 : Nat) : Int) from rfl)
  have M1 := hide (show putM (fun i => [((32 * K + 16 : Nat) : Int), a2].getD i 0) (fun _ => 0) 2 0 1025 = a2 from rfl)
  generalize putM (fun i => [((32 * K + 16 : Nat) : Int), a2].getD i 0) (fun _ => 0) 2 0 = M at *
  have PB : IsByte P := by rw [← hP, and_255]; unfold IsByte; omega
  have KG := br_goes K hK PB ⟨t0, by omega⟩ M0.out M1.out bs w2 b v c d H2.out
  obtain ⟨X, hX⟩ : ∃ X, bits .and .i64 a1 (flK K) = X := ⟨_, rfl⟩
  obtain ⟨Q, hQ⟩ : ∃ Q, bits .and .i64 a1 223 = Q := ⟨_, rfl⟩
  have eQ : anP P 32 = Q := by rw [← hQ, ← hP]; exact anP_223 a1
  have eX : hasF P (flK K) = (X != 0) := by rw [← hX, ← hP]; exact hasF_255 K hK a1
  obtain ⟨T, hT⟩ : ∃ T, wrap64 (9218 + wrap64 (IntKind.i8.wrap a2)) = T := ⟨_, rfl⟩
  have eT : 8192 + (((1026 + signOf a2).toNat : Nat) : Int) = T := by
    have hs : -128 ≤ signOf a2 ∧ signOf a2 ≤ 127 := by unfold signOf; split <;> omega
    rw [← hT, i8_sign a2]
    unfold wrap64
    omega
  rw [eQ, eX] at KG
  clear hw2 b2 B1 H1 IX eQ eX hP PB M0 M1 H2
  rcases Nat.mod_two_eq_zero_or_one K with ek | ek
  · rw [ek] at KG
    have eK1 : bits .and .i64 (K : Int) 1 = 0 := by rw [and_1]; omega
    by_cases hx : X = 0
    · skip
      have on : (X != 0) = (0 == 1) := by simp [hx]
      rw [if_pos on, if_pos on] at KG
      rw [eT] at KG
      refine KG.mono ?_
      rintro e w3 ⟨rfl, h3, o3⟩
      clear KG
      have c3 : w3.cell? ⟨w1.heap.size, 3, none⟩ = some (.int .i64 255) := (cell_of_row w3 w1.heap.size 3 _ _ _ (o3.obj G2.out NE.out)).trans rfl
      have l3 : w1.heap.size < w3.heap.size := lt_of_block (o3.obj G2.out NE.out)
      have B3 := hide (B2.out.trans (o3.below NB.out B2.out.size))
      clear h3 o3
      set_option maxRecDepth 20000 in
      go_wp2_with fail
      go_ret
      exact ⟨rfl, B3.out.alloc B3.out.size _⟩
    · skip
      have on : ¬ (X != 0) = (0 == 1) := by simp [hx]
      rw [if_neg on, if_neg on] at KG
      rw [show (8192 + ((1026 : Nat) : Int)) = 9218 from rfl] at KG
      refine KG.mono ?_
      rintro e w3 ⟨rfl, h3, o3⟩
      clear KG
      have c3 : w3.cell? ⟨w1.heap.size, 3, none⟩ = some (.int .i64 255) := (cell_of_row w3 w1.heap.size 3 _ _ _ (o3.obj G2.out NE.out)).trans rfl
      have l3 : w1.heap.size < w3.heap.size := lt_of_block (o3.obj G2.out NE.out)
      have B3 := hide (B2.out.trans (o3.below NB.out B2.out.size))
      clear h3 o3
      set_option maxRecDepth 20000 in
      go_wp2_with fail
      all_goals first | (go_ret; exact ⟨rfl, B3.out.alloc B3.out.size _⟩) | (exfalso; simp_all; done) | trace_state
  · rw [ek] at KG
    have eK1 : bits .and .i64 (K : Int) 1 = 1 := by rw [and_1]; omega
    by_cases hx : X = 0
    · skip
      have on : ¬ (X != 0) = (1 == 1) := by simp [hx]
      rw [if_neg on, if_neg on] at KG
      rw [show (8192 + ((1026 : Nat) : Int)) = 9218 from rfl] at KG
      refine KG.mono ?_
      rintro e w3 ⟨rfl, h3, o3⟩
      clear KG
      have c3 : w3.cell? ⟨w1.heap.size, 3, none⟩ = some (.int .i64 255) := (cell_of_row w3 w1.heap.size 3 _ _ _ (o3.obj G2.out NE.out)).trans rfl
      have l3 : w1.heap.size < w3.heap.size := lt_of_block (o3.obj G2.out NE.out)
      have B3 := hide (B2.out.trans (o3.below NB.out B2.out.size))
      clear h3 o3
      set_option maxRecDepth 20000 in
      go_wp2_with fail
      all_goals first | (go_ret; exact ⟨rfl, B3.out.alloc B3.out.size _⟩) | (exfalso; simp_all; done) | trace_state
    · skip
      have on : (X != 0) = (1 == 1) := by simp [hx]
      rw [if_pos on, if_pos on] at KG
      rw [eT] at KG
      refine KG.mono ?_
      rintro e w3 ⟨rfl, h3, o3⟩
      clear KG
      have c3 : w3.cell? ⟨w1.heap.size, 3, none⟩ = some (.int .i64 255) := (cell_of_row w3 w1.heap.size 3 _ _ _ (o3.obj G2.out NE.out)).trans rfl
      have l3 : w1.heap.size < w3.heap.size := lt_of_block (o3.obj G2.out NE.out)
      have B3 := hide (B2.out.trans (o3.below NB.out B2.out.size))
      clear h3 o3
      set_option maxRecDepth 20000 in
      go_wp2_with fail
      go_ret
      exact ⟨rfl, B3.out.alloc B3.out.size _⟩
end Go.Proofs.YtkpcpjneeinkdaaGreatDoor
