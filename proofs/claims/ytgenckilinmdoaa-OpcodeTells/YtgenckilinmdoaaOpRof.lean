/- The document's answer to what a byte is, as an instruction. -/
import Derived.Test.YtgenckilinmdoaaOpMode
import Derived.Laws.DeepStrings4
namespace Go.Proofs.Ytgenckilinmdoaa
open Go.RowKit
set_option linter.unusedVariables false
set_option maxRecDepth 20000

def digB (b : Nat) : ByteArray := ⟨⟨digL (cycOf b).toNat⟩⟩
theorem ba_ext {a b : ByteArray} (h : a.data.toList = b.data.toList) : a = b := by
  apply ByteArray.ext
  exact Array.toList_inj.1 h
theorem words_ok : (List.range 256).all (fun b => ((wst (rowStr b) (strL b).length).1.map (fun x => x.data.toList) == [nameL b, mName (modeOf b).toNat]) && ((wst (rowStr b) (strL b).length).2.data.toList == digL (cycOf b).toNat) && decide ((strL b).length ≤ 100)) = true := by decide +kernel
theorem words_of (b : Nat) (hb : b < 256) : wst (rowStr b) (rowStr b).size = ([nameOf b, nmB (modeOf b).toNat], digB b) ∧ (rowStr b).size ≤ 100 := by
  have k := for_all words_ok b hb
  rw [Bool.and_eq_true, Bool.and_eq_true] at k
  obtain ⟨⟨k1, k2⟩, k3⟩ := k
  have e1 := eq_of_beq k1
  have e2 := eq_of_beq k2
  have es : (rowStr b).size = (strL b).length := rfl
  refine ⟨?_, by rw [es]; simpa using k3⟩
  rw [es]
  obtain ⟨ws, c, hw⟩ : ∃ ws c, wst (rowStr b) (strL b).length = (ws, c) := ⟨_, _, rfl⟩
  rw [hw] at e1 e2 ⊢
  rcases ws with _ | ⟨x, _ | ⟨y, _ | ⟨z, ws⟩⟩⟩
  · simp at e1
  · simp at e1
  · simp only [List.map_cons, List.map_nil, List.cons.injEq, and_true] at e1
    have a1 : x = nameOf b := ba_ext e1.1
    have a2 : y = nmB (modeOf b).toNat := ba_ext e1.2
    have a3 : c = digB b := ba_ext e2
    rw [a1, a2, a3]
  · simp at e1
theorem words_row (b : Nat) (hb : b < 256) (w : World) : Calls Try.prog 19 #[.string (rowStr b)] w fun e w' => ∃ g cap, e = .returned (.slice (some ⟨g, 0, none⟩) 3 cap) ∧ g < w'.heap.size ∧
    w'.cell? ⟨g, 0, none⟩ = some (.string (nameOf b)) ∧ w'.cell? ⟨g, 1, none⟩ = some (.string (nmB (modeOf b).toNat)) ∧ w'.cell? ⟨g, 2, none⟩ = some (.string (digB b)) ∧ Below w.heap.size w w' := by
  obtain ⟨hw, hs⟩ := words_of b hb
  refine (words_any (rowStr b) w hs).mono ?_
  rintro e w' ⟨v, rfl, own, bel⟩
  rw [hw] at own
  obtain ⟨hl, ⟨_, h0⟩ | ⟨g, cap, cur, rfl, hB, hg, hc, hm, hsz, ht⟩⟩ := own
  · simp at h0
  · have hcell : ∀ j u, j < 3 → ([nameOf b, nmB (modeOf b).toNat, digB b].map Value.string)[j]? = some u → w'.cell? ⟨g, j, none⟩ = some u := by
      intro j u hj hu
      rw [cell_of_row w' g j cur 9 (0, 0) hg, ← hu]
      have e2 : (cur.toList.take 3)[j]? = cur[j]? := by
        rw [List.getElem?_take, if_pos hj]
        simp
      rw [← e2]
      exact congrArg (fun l => l[j]?) ht
    exact ⟨g, cap, rfl, lt_of_block hg, hcell 0 _ (by omega) rfl, hcell 1 _ (by omega) rfl, hcell 2 _ (by omega) rfl, bel⟩

/-- The number that the first k digits tell. -/
def numTo (d : ByteArray) : Nat → Int
  | 0 => 0
  | k + 1 => numTo d k * 10 + ((d[k]?.getD 0).toNat - 48 : Int)
theorem digs_ok : (List.range 256).all (fun b => (digL (cycOf b).toNat).all (fun x => decide (48 ≤ x.toNat ∧ x.toNat ≤ 57)) && decide ((digL (cycOf b).toNat).length ≤ 2) && (numTo (digB b) (digL (cycOf b).toNat).length == cycOf b)) = true := by decide +kernel
theorem digs_of (b : Nat) (hb : b < 256) : (∀ k (hk : k < (digB b).size), 48 ≤ (digB b)[k].toNat ∧ (digB b)[k].toNat ≤ 57) ∧ (digB b).size ≤ 2 ∧ numTo (digB b) (digB b).size = cycOf b := by
  have k := for_all digs_ok b hb
  rw [Bool.and_eq_true, Bool.and_eq_true] at k
  obtain ⟨⟨k1, k2⟩, k3⟩ := k
  refine ⟨fun j hj => ?_, of_decide_eq_true k2, eq_of_beq k3⟩
  have hm : (digB b)[j] ∈ digL (cycOf b).toNat := List.getElem_mem (l := digL (cycOf b).toNat) (n := j) hj
  have := List.all_eq_true.1 k1 _ hm
  simpa using this
theorem numTo_in (d : ByteArray) (h : ∀ k (hk : k < d.size), 48 ≤ d[k].toNat ∧ d[k].toNat ≤ 57) (hs : d.size ≤ 2) : ∀ k, k ≤ d.size → 0 ≤ numTo d k ∧ numTo d k ≤ 1000 * k
  | 0, _ => by simp [numTo]
  | k + 1, hk => by
    have ih := numTo_in d h hs k (by omega)
    have hd := h k (by omega)
    have e : d[k]?.getD 0 = d[k] := by rw [ByteArray.getElem?_lt' d k (by omega)]; rfl
    rw [numTo, e]
    have : numTo d k ≤ 9 * k := by
      rcases k with _ | _ | k
      · simp [numTo]
      · have h0 := h 0 (by omega)
        have e0 : d[0]?.getD 0 = d[0] := by rw [ByteArray.getElem?_lt' d 0 (by omega)]; rfl
        simp only [numTo, e0]
        omega
      · omega
    omega

set_option maxHeartbeats 1000000 in
theorem rof_low (n : Int) (b q r : Nat) (s S ms d : ByteArray) (m l c : Int) (w : World) (e1 : (b : Int) / 8 = (q : Int)) (e2 : (b : Int) % 8 = (r : Int)) (hr : r < 8) (hd2 : d.size ≤ 2) (hd : ∀ k (hk : k < d.size), 48 ≤ d[k].toNat ∧ d[k].toNat ≤ 57) (hc : numTo d d.size = c) (cb : ∀ w, Calls Try.prog 16 #[.int .i64 n] w fun e w' => e = .returned (.int .i64 (b : Int)) ∧ w' = w) (cw : ∀ w, Calls Try.prog 19 #[.string S] w fun e w' => ∃ g cap, e = .returned (.slice (some ⟨g, 0, none⟩) 3 cap) ∧ g < w'.heap.size ∧ w'.cell? ⟨g, 0, none⟩ = some (.string s) ∧ w'.cell? ⟨g, 1, none⟩ = some (.string ms) ∧ w'.cell? ⟨g, 2, none⟩ = some (.string d) ∧ Below w.heap.size w w') (cm : ∀ w, Calls Try.prog 20 #[.string ms] w fun e w' => e = .returned (.tuple #[.int .i64 m, .int .i64 l]) ∧ Below w.heap.size w w') (hlo : b < 128) (cl : ∀ w, Calls Try.prog 17 #[.int .i64 (q : Int)] w fun e w' => ∃ gy, e = .returned (.slice (some ⟨gy, 0, none⟩) 8 8) ∧ w'.cell? ⟨gy, r, none⟩ = some (.string S) ∧ Below w.heap.size w w') : Calls Try.prog 11 #[.int .i64 n] w fun e w' => e = .returned (.agg #[.string s, .int .i64 m, .int .i64 l, .int .i64 c]) ∧ Below w.heap.size w w' := by
  have CB := hide cb
  have KW := hide cw
  have KM := hide cm
  have CL := hide cl
  have HD := hide hd
  have HC := hide hc
  clear cb cw cm cl hd hc
  go_enter Try.func11, Try.ntmps11
  go_wp2_with fail
  refine (CB.out _).mono ?_
  rintro e w1 ⟨rfl, hw⟩
  subst w1
  go_wp2_with fail
  have bz := (Below.refl w.heap.size w).alloc (Nat.le_refl _) (.cells #[.string ⟨#[]⟩, .int .i64 0, .int .i64 0, .int .i64 0] 26)
  have rz := heap_alloc_new w (.cells #[.string ⟨#[]⟩, .int .i64 0, .int .i64 0, .int .i64 0] 26)
  have BZ := hide bz
  have RZ := hide rz
  clear bz rz
  refine (CL.out _).mono ?_
  rintro e wy ⟨gy, rfl, cS, b1⟩
  have BY := hide (bnext BZ.out b1)
  have R2 := hide ((b1.block w.heap.size (lt_of_block RZ.out)).trans RZ.out)
  clear b1 BZ RZ CL CB
  go_wp2_with fail
  refine (KW.out _).mono ?_
  rintro e w4 ⟨g4, cap4, rfl, lt4, x0, x1, x2, b4⟩
  have R4 := hide ((b4.block w.heap.size (lt_of_block R2.out)).trans R2.out)
  have B4 := hide (bnext BY.out b4)
  clear b4 R2 BY cS KW
  have L4 := hide lt4
  clear lt4
  go_wp2_with fail
  refine (KM.out _).mono ?_
  rintro e w5 ⟨rfl, b5⟩
  have y0 := (b5.cell (p := ⟨g4, 0, none⟩) L4.out).trans x0
  have y2 := (b5.cell (p := ⟨g4, 2, none⟩) L4.out).trans x2
  have R5 := hide ((b5.block w.heap.size (lt_of_block R4.out)).trans R4.out)
  have B5 := hide (bnext B4.out b5)
  clear b5 R4 B4 x0 x1 x2 L4 KM
  go_wp2_with fail
  go_loop [7, 8] (fun sc si => ∃ k : Nat, k ≤ d.size ∧ si = .int .i64 (k : Int) ∧ sc = .int .i64 (numTo d k)) (fun _ si => d.size - (intOf si).toNat)
  case atStart => exact ⟨0, by omega, rfl, rfl⟩
  case round =>
    obtain ⟨k, hk, rfl, rfl⟩ := hrel
    obtain ⟨q0, q1⟩ := numTo_in d HD.out hd2 k hk
    by_cases hlt : k < d.size
    · obtain ⟨x, hx⟩ : ∃ x : UInt8, d[k] = x := ⟨_, rfl⟩
      have hx1 := HD.out k hlt
      rw [hx] at hx1
      have hn : numTo d (k + 1) = numTo d k * 10 + ((x.toNat : Int) - 48) := by
        have e : d[k]?.getD 0 = d[k] := by rw [ByteArray.getElem?_lt' d k hlt]; rfl
        rw [numTo, e, hx]
      have HN := hide hn
      clear hn
      generalize numTo d k = nk at *
      go_wp2_with fail
      go_round
      case rel => exact ⟨k + 1, by omega, by go_num, by rw [HN.out]⟩
      case measure => simp [intOf]; omega
    · have ek : k = d.size := by omega
      subst ek
      rw [HC.out]
      go_wp2_with (first
        | (refine wpList_store_row rfl 26 (.tmp 2) (.tmp 56) rfl w.heap.size _ rfl rfl 26 _ R5.out (by kernel_rfl) rfl (by kernel_rfl) ?_))
      (try simp only [Exit.inBlock, Exit.then])
      refine bodyPost_ret (results_cell_row rfl _ _ w.heap.size 26 _ (0, 0) _ rfl (setRow_heap _ _ _ _ _ _ R5.out) Try.underlying26 rfl (by kernel_rfl)) rfl ?_
      exact ⟨rfl, below_setRow B5.out (Nat.le_refl _) _⟩
end Go.Proofs.Ytgenckilinmdoaa
