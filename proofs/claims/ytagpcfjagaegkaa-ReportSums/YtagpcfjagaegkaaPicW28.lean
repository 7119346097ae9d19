/- The program's picture, walked. -/
import Derived.Test.YtagpcfjagaegkaaPic28
import Derived.Deep.CutRange
namespace Go.Proofs.Ytagpcfjagaegkaa
open Go.RowKit
set_option linter.unusedVariables false
theorem side_index0 (x y : Int) (w : World) : (Instr.index 32 (.agg #[.int .i64 x, .int .i64 y]) (.int .i64 0)).run Try.prog w = .ok (.int .i64 x) w := by kernel_rfl
theorem side_index1 (x y : Int) (w : World) : (Instr.index 32 (.agg #[.int .i64 x, .int .i64 y]) (.int .i64 1)).run Try.prog w = .ok (.int .i64 y) w := by kernel_rfl
theorem pic_any (w : World) (a0 : Option Addr) (l0 c0 : Nat) (L : Nat → Option Addr × Nat × Nat) (V : Nat → Nat → Int) (a1 : Option Addr) (l1 c1 : Nat) (S : Nat → Nat → Int)
    (h0 : LinesAt w a0 l0 c0 L V) (h1 : SidesAt w a1 l1 c1 S) (ht : 2 * tot L l0 + 8 * l1 ≤ 100000) :
    Calls Try.prog 4 #[.agg #[.slice a0 l0 c0, .slice a1 l1 c1]] w fun e w' => e = .returned (.int .i64 (picOf L V l0 S l1)) ∧ Below w.heap.size w w' := by
  have HT := hide ht
  have H0 := hide (h0.next ((Below.refl w.heap.size w).alloc (Nat.le_refl _) (.cells #[.slice a0 l0 c0, .slice a1 l1 c1] 27)))
  have H1 := hide (h1.next ((Below.refl w.heap.size w).alloc (Nat.le_refl _) (.cells #[.slice a0 l0 c0, .slice a1 l1 c1] 27)))
  have BW := hide ((Below.refl w.heap.size w).alloc (Nat.le_refl _) (.cells #[.slice a0 l0 c0, .slice a1 l1 c1] 27))
  have HB := hide (heap_alloc_new w (.cells #[.slice a0 l0 c0, .slice a1 l1 c1] 27))
  have hm0 : l0 ≤ 140737488355328 := h0.1
  clear ht h0 h1
  go_enter Try.func4, Try.ntmps4
  go_upto_region 2 with fail
  generalize w.alloc (.cells #[.slice a0 l0 c0, .slice a1 l1 c1] 27) = w1 at *
  obtain ⟨g, hg⟩ : ∃ g, w.heap.size = g := ⟨_, rfl⟩
  rw [hg] at HB BW ⊢
  have cA := cell_of_row w1 g 0 _ _ _ HB.out
  have cB := cell_of_row w1 g 1 _ _ _ HB.out
  go_upto_region 3 with fail
  obtain ⟨B, hB⟩ : ∃ B, w1.heap.size = B := ⟨_, rfl⟩
  have gB : g < B := by rw [← hB]; exact lt_of_block HB.out
  go_loopw [3, 15] (fun sv si wr => ∃ i : Nat, i ≤ l0 ∧ si = .int .i64 (i : Int) ∧ wr.ownsRow B 5 1 sv (2 * tot L i) ((linB L V i).map (Value.int .u8)) ∧ Below B w1 wr) (fun _ si _ => l0 - (intOf si).toNat)
  case atStart => exact ⟨0, Nat.zero_le _, rfl, World.ownsRow_nil _ _ _ _, Below.refl _ _⟩
  case round =>
    obtain ⟨i, hi, rfl, o1, b1⟩ := hrel
    have O1 := hide o1
    have B1 := hide b1
    clear o1 b1 cA
    by_cases hlt : i < l0
    · obtain ⟨hmm, h | ⟨bb, off, rfl, hbb, hc⟩⟩ := H0.out
      · omega
      · obtain ⟨ci, hLm, HN⟩ := hc i hlt
        have HN := hide HN
        have ci := (B1.out.cell (p := ⟨bb, off + i, none⟩) (by rw [← hB]; exact hbb)).trans ci
        have htl := tot_le L hlt
        have hT := HT.out
        obtain ⟨la, hla⟩ : ∃ x, (L i).1 = x := ⟨_, rfl⟩
        obtain ⟨ln, hln⟩ : ∃ x, (L i).2.1 = x := ⟨_, rfl⟩
        obtain ⟨lc, hlc⟩ : ∃ x, (L i).2.2 = x := ⟨_, rfl⟩
        rw [hla, hln, hlc] at ci
        rw [hla, hln] at HN
        rw [hln] at hLm htl
        clear hc hmm hbb
        go_upto_region 6 with fail
        go_loopw [3, 21] (fun sv si wr => ∃ k : Nat, k ≤ ln ∧ si = .int .i64 (k : Int) ∧ wr.ownsRow B 5 1 sv (2 * tot L i + k * 2) ((linB L V i ++ rowB 2 (V i) k).map (Value.int .u8)) ∧ Below B w1 wr) (fun _ si _ => ln - (intOf si).toNat)
        case atStart => exact ⟨0, Nat.zero_le _, rfl, by simpa [rowB] using O1.out, B1.out⟩
        case round =>
          obtain ⟨k, hk, rfl, o2, b2⟩ := hrel
          have O2 := hide o2
          have B2 := hide b2
          clear o2 b2 O1 B1 ci
          by_cases hk2 : k < ln
          · obtain h | ⟨b3, o3, rfl, hb3, hc⟩ := HN.out
            · omega
            · obtain ⟨ck, wk⟩ := hc k hk2
              have ck := (B2.out.cell (p := ⟨b3, o3 + k, none⟩) (by rw [← hB]; exact hb3)).trans ck
              clear hc hb3
              have KA := hide (appnum B (2 * tot L i + k * 2) _ _ (V i k) wk 2 (by omega) _ O2.out (by rw [← hB]; exact B2.out.size) (by omega))
              go_wp2_with (first
                | (go_at_call 6; refine (KA.out).mono ?_; rintro e w3 ⟨v3, rfl, o3', b3'⟩))
              have O3 := hide o3'
              have B3 := hide (B2.out.trans b3')
              clear o3' b3'
              go_roundw
              case rel =>
                refine ⟨k + 1, by omega, by go_num, ?_, B3.out⟩
                have := own_next O3.out
                rw [List.append_assoc] at this
                rw [show 2 * tot L i + (k + 1) * 2 = 2 * tot L i + k * 2 + 2 by omega]
                exact this
              case measure => simp [intOf]; omega
          · obtain rfl : k = ln := by omega
            go_wp2_with fail
            go_roundw
            case rel =>
              refine ⟨i + 1, by omega, by go_num, ?_, B2.out⟩
              have := O2.out
              rw [linB, tot, hln, show 2 * (tot L i + k) = 2 * tot L i + k * 2 by omega]
              exact this
            case measure => simp [intOf]; omega
    · obtain rfl : i = l0 := by omega
      have cB := (B1.out.cell (p := ⟨g, 1, none⟩) (by rw [← hB]; exact lt_of_block HB.out)).trans cB
      clear H0 HB
      go_upto_region 12 with fail
      go_loopw [3, 33] (fun sv si wr => ∃ k : Nat, k ≤ l1 ∧ si = .int .i64 (k : Int) ∧ wr.ownsRow B 5 1 sv (2 * tot L i + 8 * k) ((linB L V i ++ sidB S k).map (Value.int .u8)) ∧ Below B w1 wr) (fun _ si _ => l1 - (intOf si).toNat)
      case atStart => exact ⟨0, Nat.zero_le _, rfl, by simpa [sidB] using O1.out, B1.out⟩
      case round =>
        obtain ⟨k, hk, rfl, o2, b2⟩ := hrel
        have O2 := hide o2
        have B2 := hide b2
        clear o2 b2 O1 B1 cB
        have hT := HT.out
        by_cases hk2 : k < l1
        · obtain ⟨hmm, h | ⟨b3, o3, rfl, hb3, hc⟩⟩ := H1.out
          · omega
          · obtain ⟨ca, wa⟩ := hc k hk2 0 (by omega)
            obtain ⟨cb, wb⟩ := hc k hk2 1 (by omega)
            have ca : wr.cell? ⟨b3, o3 + k * 2, none⟩ = some (.int .i64 (S k 0)) := (B2.out.cell (p := ⟨b3, o3 + (k * 2 + 0), none⟩) (by rw [← hB]; exact hb3)).trans ca
            have cb : wr.cell? ⟨b3, o3 + k * 2 + 1, none⟩ = some (.int .i64 (S k 1)) := (B2.out.cell (p := ⟨b3, o3 + (k * 2 + 1), none⟩) (by rw [← hB]; exact hb3)).trans cb
            clear hc hb3 hmm
            go_upto_region 15 with fail
            have O3 := hide (O2.out.alloc (.cells #[.int .i64 (S k 0), .int .i64 (S k 1)] 32))
            have B3 := hide (B2.out.alloc (by rw [← hB]; exact B2.out.size) (.cells #[.int .i64 (S k 0), .int .i64 (S k 1)] 32))
            clear O2 B2 ca cb
            generalize wr.alloc (.cells #[.int .i64 (S k 0), .int .i64 (S k 1)] 32) = w5 at *
            go_loopw [3, 38] (fun sv si wr => ∃ j : Nat, j ≤ 2 ∧ si = .int .i64 (j : Int) ∧ wr.ownsRow B 5 1 sv (2 * tot L i + 8 * k + j * 4) ((linB L V i ++ sidB S k ++ rowB 4 (S k) j).map (Value.int .u8)) ∧ Below B w1 wr) (fun _ si _ => 2 - (intOf si).toNat)
            case atStart => exact ⟨0, Nat.zero_le _, rfl, by simpa [rowB] using O3.out, B3.out⟩
            case round =>
              obtain ⟨j, hj, rfl, o4, b4⟩ := hrel
              have O4 := hide o4
              have B4 := hide b4
              clear o4 b4 O3 B3
              by_cases hj2 : j < 2
              · have wj : (Lit.int .i64 (S k j)).wf = true := by rcases j with _ | _ | j <;> first | exact wa | exact wb | omega
                have KA := hide (appnum B (2 * tot L i + 8 * k + j * 4) _ _ (S k j) wj 4 (by omega) _ O4.out (by rw [← hB]; exact B4.out.size) (by omega))
                have e4 : 2 * tot L i + 8 * k + j * 4 + 4 = 2 * tot L i + 8 * k + (j + 1) * 4 := by omega
                have E4 := hide e4
                clear e4 wj
                have IX : ∀ w : World, (Instr.index 32 (.agg #[.int .i64 (S k 0), .int .i64 (S k 1)]) (.int .i64 (j : Int))).run Try.prog w = .ok (.int .i64 (S k j)) w := by
                  intro w
                  rcases j with _ | _ | j
                  · exact side_index0 _ _ w
                  · exact side_index1 _ _ w
                  · omega
                go_wp2_with (first
                  | (go_at_call 6; refine (KA.out).mono ?_; rintro e w6 ⟨v6, rfl, o6, b6⟩))
                have O6 := hide (own_next o6)
                have B6 := hide (B4.out.trans b6)
                clear o6 b6
                go_roundw
                case rel =>
                  refine ⟨j + 1, by omega, by go_num, ?_, B6.out⟩
                  have := O6.out
                  rw [List.append_assoc (linB L V i ++ sidB S k), E4.out] at this
                  exact this
                case measure => simp [intOf]; omega
              · obtain rfl : j = 2 := by omega
                go_wp2_with fail
                go_roundw
                case rel =>
                  refine ⟨k + 1, by omega, by go_num, ?_, B4.out⟩
                  have := O4.out
                  rw [sidB, show 2 * tot L i + 8 * (k + 1) = 2 * tot L i + 8 * k + 2 * 4 by omega, ← List.append_assoc]
                  exact this
                case measure => simp [intOf]; omega
        · obtain rfl : k = l1 := by omega
          obtain ⟨v, cap, rfl, hl, HR⟩ := owns_bytes O2.out (by intro z hz; exact (List.mem_append.1 hz).elim (linB_range _ _ _ z) (sidB_range _ _ z)) (by omega)
          have KS := hide (fun w' hw => sum_any v (2 * tot L i + 8 * k) cap (fun j => (linB L V i ++ sidB S k).getD j 0) w' hw)
          have HR := hide HR
          go_wp2_with (first
            | (go_at_call 7; refine (KS.out _ HR.out).mono ?_; rintro e w3 ⟨rfl, hw3⟩; subst w3))
          go_ret
          exact ⟨rfl, by rw [hg]; exact BW.out.trans (B2.out.mono (by omega))⟩
end Go.Proofs.Ytagpcfjagaegkaa
