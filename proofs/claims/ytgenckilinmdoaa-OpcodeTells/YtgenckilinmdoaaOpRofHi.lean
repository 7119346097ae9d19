/- The document's answer to what a byte from 128 on is, as an instruction. -/
import Derived.Test.YtgenckilinmdoaaOpRof
namespace Go.Proofs.Ytgenckilinmdoaa
open Go.RowKit
set_option linter.unusedVariables false
set_option maxRecDepth 20000

set_option maxHeartbeats 1000000 in
theorem rof_high (n : Int) (b q r : Nat) (s S ms d : ByteArray) (m l c : Int) (w : World) (e1 : (b : Int) / 8 = (q : Int)) (e2 : (b : Int) % 8 = (r : Int)) (hr : r < 8) (hd2 : d.size ≤ 2) (hd : ∀ k (hk : k < d.size), 48 ≤ d[k].toNat ∧ d[k].toNat ≤ 57) (hc : numTo d d.size = c) (cb : ∀ w, Calls Try.prog 16 #[.int .i64 n] w fun e w' => e = .returned (.int .i64 (b : Int)) ∧ w' = w) (cw : ∀ w, Calls Try.prog 19 #[.string S] w fun e w' => ∃ g cap, e = .returned (.slice (some ⟨g, 0, none⟩) 3 cap) ∧ g < w'.heap.size ∧ w'.cell? ⟨g, 0, none⟩ = some (.string s) ∧ w'.cell? ⟨g, 1, none⟩ = some (.string ms) ∧ w'.cell? ⟨g, 2, none⟩ = some (.string d) ∧ Below w.heap.size w w') (cm : ∀ w, Calls Try.prog 20 #[.string ms] w fun e w' => e = .returned (.tuple #[.int .i64 m, .int .i64 l]) ∧ Below w.heap.size w w') (hhi : 128 ≤ b) (hb2 : b < 256) (cl : ∀ w, Calls Try.prog 17 #[.int .i64 (q : Int)] w fun e w' => ∃ gy, e = .returned (.slice (some ⟨gy, 0, none⟩) 8 8) ∧ Below w.heap.size w w')
    (ch : ∀ w, Calls Try.prog 18 #[.int .i64 (q : Int)] w fun e w' => ∃ gy, e = .returned (.slice (some ⟨gy, 0, none⟩) 8 8) ∧ w'.cell? ⟨gy, r, none⟩ = some (.string S) ∧ Below w.heap.size w w') : Calls Try.prog 11 #[.int .i64 n] w fun e w' => e = .returned (.agg #[.string s, .int .i64 m, .int .i64 l, .int .i64 c]) ∧ Below w.heap.size w w' := by
  have CH := hide ch
  clear ch
  have CB := hide cb
  have KW := hide cw
  have KM := hide cm
  have CL := hide cl
  have HD := hide hd
  have HC := hide hc
  clear cb cw cm cl hd hc
  go_enter Try.func11, Try.ntmps11
  go_wp2_with fail
  refine (CB.out _).mono ?_
  rintro e w1 ⟨rfl, hw⟩
  subst w1
  go_wp2_with fail
  have bz := (Below.refl w.heap.size w).alloc (Nat.le_refl _) (.cells #[.string ⟨#[]⟩, .int .i64 0, .int .i64 0, .int .i64 0] 26)
  have rz := heap_alloc_new w (.cells #[.string ⟨#[]⟩, .int .i64 0, .int .i64 0, .int .i64 0] 26)
  have BZ := hide bz
  have RZ := hide rz
  clear bz rz
  refine (CL.out _).mono ?_
  rintro e w2 ⟨gz, rfl, b1⟩
  have B2 := hide (bnext BZ.out b1)
  have RY := hide ((b1.block w.heap.size (lt_of_block RZ.out)).trans RZ.out)
  clear b1 BZ RZ CL CB
  go_wp2_with fail
  refine (CH.out _).mono ?_
  rintro e wy ⟨gy, rfl, cS, b1⟩
  have BY := hide (bnext B2.out b1)
  have R2 := hide ((b1.block w.heap.size (lt_of_block RY.out)).trans RY.out)
  clear b1 B2 RY CH
  go_wp2_with fail
  refine (KW.out _).mono ?_
  rintro e w4 ⟨g4, cap4, rfl, lt4, x0, x1, x2, b4⟩
  have R4 := hide ((b4.block w.heap.size (lt_of_block R2.out)).trans R2.out)
  have B4 := hide (bnext BY.out b4)
  clear b4 R2 BY cS KW
  have L4 := hide lt4
  clear lt4
  go_wp2_with fail
  refine (KM.out _).mono ?_
  rintro e w5 ⟨rfl, b5⟩
  have y0 := (b5.cell (p := ⟨g4, 0, none⟩) L4.out).trans x0
  have y2 := (b5.cell (p := ⟨g4, 2, none⟩) L4.out).trans x2
  have R5 := hide ((b5.block w.heap.size (lt_of_block R4.out)).trans R4.out)
  have B5 := hide (bnext B4.out b5)
  clear b5 R4 B4 x0 x1 x2 L4 KM
  go_wp2_with fail
  go_loop [7, 8] (fun sc si => ∃ k : Nat, k ≤ d.size ∧ si = .int .i64 (k : Int) ∧ sc = .int .i64 (numTo d k)) (fun _ si => d.size - (intOf si).toNat)
  case atStart => exact ⟨0, by omega, rfl, rfl⟩
  case round =>
    obtain ⟨k, hk, rfl, rfl⟩ := hrel
    obtain ⟨q0, q1⟩ := numTo_in d HD.out hd2 k hk
    by_cases hlt : k < d.size
    · obtain ⟨x, hx⟩ : ∃ x : UInt8, d[k] = x := ⟨_, rfl⟩
      have hx1 := HD.out k hlt
      rw [hx] at hx1
      have hn : numTo d (k + 1) = numTo d k * 10 + ((x.toNat : Int) - 48) := by
        have e : d[k]?.getD 0 = d[k] := by rw [ByteArray.getElem?_lt' d k hlt]; rfl
        rw [numTo, e, hx]
      have HN := hide hn
      clear hn
      generalize numTo d k = nk at *
      go_wp2_with fail
      go_round
      case rel => exact ⟨k + 1, by omega, by go_num, by rw [HN.out]⟩
      case measure => simp [intOf]; omega
    · have ek : k = d.size := by omega
      subst ek
      rw [HC.out]
      go_wp2_with (first
        | (refine wpList_store_row rfl 26 (.tmp 2) (.tmp 56) rfl w.heap.size _ rfl rfl 26 _ R5.out (by kernel_rfl) rfl (by kernel_rfl) ?_))
      (try simp only [Exit.inBlock, Exit.then])
      refine bodyPost_ret (results_cell_row rfl _ _ w.heap.size 26 _ (0, 0) _ rfl (setRow_heap _ _ _ _ _ _ R5.out) Try.underlying26 rfl (by kernel_rfl)) rfl ?_
      exact ⟨rfl, below_setRow B5.out (Nat.le_refl _) _⟩

theorem rowC_at (q r : Nat) (hr : r < 8) : (rowC q)[r]? = some (.string (rowStr (8 * q + r))) := by
  have h : r = 0 ∨ r = 1 ∨ r = 2 ∨ r = 3 ∨ r = 4 ∨ r = 5 ∨ r = 6 ∨ r = 7 := by omega
  rcases h with rfl | rfl | rfl | rfl | rfl | rfl | rfl | rfl
  all_goals rfl
theorem slice_of {f q : Nat} {r : Nat} (hr : r < 8) {w : World} {arg : Value} (h : Calls Try.prog f #[arg] w fun e w' => e = .returned (.slice (some ⟨w.heap.size, 0, none⟩) 8 8) ∧ w' = w.alloc (.cells (rowC q) 9)) :
    Calls Try.prog f #[arg] w fun e w' => ∃ gy, e = .returned (.slice (some ⟨gy, 0, none⟩) 8 8) ∧ w'.cell? ⟨gy, r, none⟩ = some (.string (rowStr (8 * q + r))) ∧ Below w.heap.size w w' := by
  refine h.mono ?_
  rintro e w' ⟨rfl, rfl⟩
  exact ⟨w.heap.size, rfl, (cell_of_row _ _ _ _ 9 (0, 0) (heap_alloc_new w _)).trans (rowC_at q r hr), (Below.refl _ w).alloc (Nat.le_refl _) _⟩

/-- What the document says of a number modulo 256, as an instruction. -/
theorem rof_any (n : Int) (w : World) : Calls Try.prog 11 #[.int .i64 n] w fun e w' => e = .returned (.agg (infoC (n % 256).toNat)) ∧ Below w.heap.size w w' := by
  obtain ⟨b, hb⟩ : ∃ b : Nat, b = (n % 256).toNat := ⟨_, rfl⟩
  have eb : (b : Int) = n % 256 := by omega
  have lt : b < 256 := by omega
  rw [← hb]
  obtain ⟨d1, d2, d3⟩ := digs_of b lt
  obtain ⟨m0, m1⟩ := mode_in b lt
  have em : (((modeOf b).toNat : Nat) : Int) = modeOf b := by omega
  have cb : ∀ w, Calls Try.prog 16 #[.int .i64 n] w fun e w' => e = .returned (.int .i64 (b : Int)) ∧ w' = w := fun w => by rw [eb]; exact rbyte_any n w
  have cm : ∀ w, Calls Try.prog 20 #[.string (nmB (modeOf b).toNat)] w fun e w' => e = .returned (.tuple #[.int .i64 (modeOf b), .int .i64 (lenOf b)]) ∧ Below w.heap.size w w' := by
    intro w
    have k := mode_at (modeOf b).toNat (by omega) w
    rw [em] at k
    exact k
  have es : 8 * (b / 8) + b % 8 = b := by omega
  by_cases h : b < 128
  · refine rof_low n b (b / 8) (b % 8) (nameOf b) (rowStr b) (nmB (modeOf b).toNat) (digB b) (modeOf b) (lenOf b) (cycOf b) w (by omega) (by omega) (by omega) d2 d1 d3 cb (words_row b lt) cm h ?_
    intro w
    have k := slice_of (r := b % 8) (by omega) (low_any (b / 8) (by omega) w)
    rw [es] at k
    exact k
  · refine rof_high n b (b / 8) (b % 8) (nameOf b) (rowStr b) (nmB (modeOf b).toNat) (digB b) (modeOf b) (lenOf b) (cycOf b) w (by omega) (by omega) (by omega) d2 d1 d3 cb (words_row b lt) cm (by omega) lt ?_ ?_
    · intro w
      refine (low_far ((b / 8 : Nat) : Int) w (by omega)).mono ?_
      rintro e w' ⟨rfl, rfl⟩
      exact ⟨_, rfl, (Below.refl _ w).alloc (Nat.le_refl _) _⟩
    · intro w
      have k := slice_of (r := b % 8) (by omega) (high_any (b / 8) (by omega) (by omega) w)
      rw [es] at k
      exact k
end Go.Proofs.Ytgenckilinmdoaa
