/- The document's picture, walked. -/
import Derived.Test.YtagpcfjagaegkaaPic28
import Derived.Deep.CutRange
namespace Go.Proofs.Ytagpcfjagaegkaa
open Go.RowKit
set_option linter.unusedVariables false
def two (z : Int) : List Int := [z % 256, z / 256 % 256]
def four (z : Int) : List Int := [z % 256, z / 256 % 256, z / 65536 % 256, z / 16777216 % 256]
theorem two_is (z : Int) : numBytes z 2 = two z := by simp [numBytes, List.range_succ, byteAt, two]
theorem four_is (z : Int) : numBytes z 4 = four z := by simp [numBytes, List.range_succ, byteAt, four]
theorem rpic_any (w : World) (a0 : Option Addr) (l0 c0 : Nat) (L : Nat → Option Addr × Nat × Nat) (V : Nat → Nat → Int) (a1 : Option Addr) (l1 c1 : Nat) (S : Nat → Nat → Int)
    (h0 : LinesAt w a0 l0 c0 L V) (h1 : SidesAt w a1 l1 c1 S) (ht : 2 * tot L l0 + 8 * l1 ≤ 100000) :
    Calls Try.prog 5 #[.slice a0 l0 c0, .slice a1 l1 c1] w fun e w' => e = .returned (.int .i64 (picOf L V l0 S l1)) ∧ Below w.heap.size w w' := by
  have HT := hide ht
  have hm0 : l0 ≤ 140737488355328 := h0.1
  have H0 := hide h0
  have H1 := hide h1
  clear ht h0 h1
  obtain ⟨B, hB⟩ : ∃ B, w.heap.size = B := ⟨_, rfl⟩
  go_enter Try.func5, Try.ntmps5
  go_upto_region 3 with fail
  go_loopw [5, 6] (fun sv si wr => ∃ i : Nat, i ≤ l0 ∧ si = .int .i64 (i : Int) ∧ wr.ownsRow B 5 1 sv (2 * tot L i) ((linB L V i).map (Value.int .u8)) ∧ Below B w wr) (fun _ si _ => l0 - (intOf si).toNat)
  case atStart => exact ⟨0, Nat.zero_le _, rfl, World.ownsRow_nil _ _ _ _, Below.refl _ _⟩
  case round =>
    obtain ⟨i, hi, rfl, o1, b1⟩ := hrel
    have O1 := hide o1
    have B1 := hide b1
    clear o1 b1
    by_cases hlt : i < l0
    · obtain ⟨hmm, h | ⟨bb, off, rfl, hbb, hc⟩⟩ := H0.out
      · omega
      · obtain ⟨ci, hLm, HN⟩ := hc i hlt
        have HN := hide HN
        have htl := tot_le L hlt
        have hT := HT.out
        obtain ⟨la, hla⟩ : ∃ x, (L i).1 = x := ⟨_, rfl⟩
        obtain ⟨ln, hln⟩ : ∃ x, (L i).2.1 = x := ⟨_, rfl⟩
        obtain ⟨lc, hlc⟩ : ∃ x, (L i).2.2 = x := ⟨_, rfl⟩
        rw [hla, hln, hlc] at ci
        rw [hla, hln] at HN
        rw [hln] at hLm htl
        have CI := hide (fun (x : World) (bx : Below B w x) => (bx.cell (p := ⟨bb, off + i, none⟩) (by rw [← hB]; exact hbb)).trans ci)
        clear hc hmm hbb ci
        go_upto_region 6 with fail
        go_loopw [5, 7] (fun sv si wr => ∃ k : Nat, k ≤ ln ∧ si = .int .i64 (k : Int) ∧ wr.ownsRow B 5 1 sv (2 * tot L i + k * 2) ((linB L V i ++ rowB 2 (V i) k).map (Value.int .u8)) ∧ Below B w wr) (fun _ si _ => ln - (intOf si).toNat)
        case atStart => exact ⟨0, Nat.zero_le _, rfl, by simpa [rowB] using O1.out, B1.out⟩
        case round =>
          obtain ⟨k, hk, rfl, o2, b2⟩ := hrel
          have ci := CI.out _ b2
          have O2 := hide o2
          have B2 := hide b2
          clear o2 b2 O1 B1
          by_cases hk2 : k < ln
          · obtain h | ⟨b3, o3, rfl, hb3, hc⟩ := HN.out
            · omega
            · obtain ⟨ck, wk⟩ := hc k hk2
              have ck := (B2.out.cell (p := ⟨b3, o3 + k, none⟩) (by rw [← hB]; exact hb3)).trans ck
              clear hc hb3
              obtain ⟨z, hz⟩ : ∃ z, V i k = z := ⟨_, rfl⟩
              rw [hz] at ck wk
              have HN2 := hide (show (wr.alloc (.cells #[.int .u8 (z % 256), .int .u8 (z / 256 % 256)] 5)).heap[wr.heap.size]? = some (.cells ((two z).map (Value.int .u8)).toArray 5 (0, 0)) from heap_alloc_new _ _)
              have HO := hide (O2.out.alloc (.cells #[.int .u8 (z % 256), .int .u8 (z / 256 % 256)] 5))
              have hBw : B ≤ wr.heap.size := by have := B2.out.size; omega
              have BA := hide (B2.out.alloc hBw (.cells #[.int .u8 (z % 256), .int .u8 (z / 256 % 256)] 5))
              have LB := hide (show B ≤ (wr.alloc (.cells #[.int .u8 (z % 256), .int .u8 (z / 256 % 256)] 5)).heap.size by simp; omega)
              go_wp2_with (first
                | (at_builtin; refine wpList_append_bytes rfl (.tmp 34) (.tmp 40) rfl B wr.heap.size (2 * tot L i + k * 2) 2 _ _ (two z) rfl rfl rfl HO.out HN2.out LB.out (by omega) ?_; intro v6 w6 o6 b6))
              have O3 := hide (own_next o6)
              have B3 := hide (BA.out.trans b6)
              clear o6 b6
              go_roundw
              case rel =>
                refine ⟨k + 1, by omega, by go_num, ?_, B3.out⟩
                have := O3.out
                rw [← two_is, ← hz, List.append_assoc] at this
                rw [show 2 * tot L i + (k + 1) * 2 = 2 * tot L i + k * 2 + 2 by omega]
                exact this
              case measure => simp [intOf]; omega
          · obtain rfl : k = ln := by omega
            go_wp2_with fail
            go_roundw
            case rel =>
              refine ⟨i + 1, by omega, by go_num, ?_, B2.out⟩
              have := O2.out
              rw [linB, tot, hln, show 2 * (tot L i + k) = 2 * tot L i + k * 2 by omega]
              exact this
            case measure => simp [intOf]; omega
    · obtain rfl : i = l0 := by omega
      clear H0
      have hm1 : l1 ≤ 140737488355328 := H1.out.1
      go_upto_region 11 with fail
      go_loopw [5, 9] (fun sv si wr => ∃ k : Nat, k ≤ l1 ∧ si = .int .i64 (k : Int) ∧ wr.ownsRow B 5 1 sv (2 * tot L i + 8 * k) ((linB L V i ++ sidB S k).map (Value.int .u8)) ∧ Below B w wr) (fun _ si _ => l1 - (intOf si).toNat)
      case atStart => exact ⟨0, Nat.zero_le _, rfl, by simpa [sidB] using O1.out, B1.out⟩
      case round =>
        obtain ⟨k, hk, rfl, o2, b2⟩ := hrel
        have O2 := hide o2
        have B2 := hide b2
        clear o2 b2 O1 B1
        have hT := HT.out
        by_cases hk2 : k < l1
        · obtain ⟨hmm, h | ⟨b3, o3, rfl, hb3, hc⟩⟩ := H1.out
          · omega
          · obtain ⟨ca, wa⟩ := hc k hk2 0 (by omega)
            obtain ⟨cb, wb⟩ := hc k hk2 1 (by omega)
            have CJ := hide (fun (x : World) (bx : Below B w x) (j : Nat) (hj : j < 2) => (bx.cell (p := ⟨b3, o3 + (k * 2 + j), none⟩) (by rw [← hB]; exact hb3)).trans (hc k hk2 j hj).1)
            clear hc hb3 hmm ca cb
            go_upto_region 14 with fail
            go_loopw [5, 10] (fun sv si wr => ∃ j : Nat, j ≤ 2 ∧ si = .int .i64 (j : Int) ∧ wr.ownsRow B 5 1 sv (2 * tot L i + 8 * k + j * 4) ((linB L V i ++ sidB S k ++ rowB 4 (S k) j).map (Value.int .u8)) ∧ Below B w wr) (fun _ si _ => 2 - (intOf si).toNat)
            case atStart => exact ⟨0, Nat.zero_le _, rfl, by simpa [rowB] using O2.out, B2.out⟩
            case round =>
              obtain ⟨j, hj, rfl, o4, b4⟩ := hrel
              have O4 := hide o4
              have B4 := hide b4
              clear o4 b4 O2 B2
              by_cases hj2 : j < 2
              · have wj : (Lit.int .i64 (S k j)).wf = true := by rcases j with _ | _ | j <;> first | exact wa | exact wb | omega
                have cj : wr.cell? ⟨b3, o3 + k * 2 + j, none⟩ = some (.int .i64 (S k j)) := by rw [Nat.add_assoc]; exact CJ.out _ B4.out j hj2
                obtain ⟨z, hz⟩ : ∃ z, S k j = z := ⟨_, rfl⟩
                rw [hz] at cj wj
                have HN2 := hide (show (wr.alloc (.cells #[.int .u8 (z % 256), .int .u8 (z / 256 % 256), .int .u8 (z / 65536 % 256), .int .u8 (z / 16777216 % 256)] 5)).heap[wr.heap.size]? = some (.cells ((four z).map (Value.int .u8)).toArray 5 (0, 0)) from heap_alloc_new _ _)
                have HO := hide (O4.out.alloc (.cells #[.int .u8 (z % 256), .int .u8 (z / 256 % 256), .int .u8 (z / 65536 % 256), .int .u8 (z / 16777216 % 256)] 5))
                have hBw : B ≤ wr.heap.size := by have := B4.out.size; omega
                have BA := hide (B4.out.alloc hBw (.cells #[.int .u8 (z % 256), .int .u8 (z / 256 % 256), .int .u8 (z / 65536 % 256), .int .u8 (z / 16777216 % 256)] 5))
                have LB := hide (show B ≤ (wr.alloc (.cells #[.int .u8 (z % 256), .int .u8 (z / 256 % 256), .int .u8 (z / 65536 % 256), .int .u8 (z / 16777216 % 256)] 5)).heap.size by simp; omega)
                clear wa wb
                go_wp2_with (first
                  | (at_builtin; refine wpList_append_bytes rfl (.tmp 58) (.tmp 70) rfl B wr.heap.size (2 * tot L i + 8 * k + j * 4) 4 _ _ (four z) rfl rfl rfl HO.out HN2.out LB.out (by omega) ?_; intro v6 w6 o6 b6))
                have O6 := hide (own_next o6)
                have B6 := hide (BA.out.trans b6)
                clear o6 b6
                go_roundw
                case rel =>
                  refine ⟨j + 1, by omega, by go_num, ?_, B6.out⟩
                  have := O6.out
                  rw [← four_is, ← hz, List.append_assoc (linB L V i ++ sidB S k), show 2 * tot L i + 8 * k + j * 4 + 4 = 2 * tot L i + 8 * k + (j + 1) * 4 by omega] at this
                  exact this
                case measure => simp [intOf]; omega
              · obtain rfl : j = 2 := by omega
                go_wp2_with fail
                go_roundw
                case rel =>
                  refine ⟨k + 1, by omega, by go_num, ?_, B4.out⟩
                  have := O4.out
                  rw [sidB, show 2 * tot L i + 8 * (k + 1) = 2 * tot L i + 8 * k + 2 * 4 by omega, ← List.append_assoc]
                  exact this
                case measure => simp [intOf]; omega
        · obtain rfl : k = l1 := by omega
          obtain ⟨v, cap, rfl, hl, HR⟩ := owns_bytes O2.out (by intro z hz; exact (List.mem_append.1 hz).elim (linB_range _ _ _ z) (sidB_range _ _ z)) (by omega)
          have KS := hide (fun w' hw => rsum_any v (2 * tot L i + 8 * k) cap (fun j => (linB L V i ++ sidB S k).getD j 0) w' hw)
          have HR := hide HR
          go_wp2_with (first
            | (go_at_call 8; refine (KS.out _ HR.out).mono ?_; rintro e w3 ⟨rfl, hw3⟩; subst w3))
          go_ret
          exact ⟨rfl, by rw [hB]; exact B2.out⟩
end Go.Proofs.Ytagpcfjagaegkaa
