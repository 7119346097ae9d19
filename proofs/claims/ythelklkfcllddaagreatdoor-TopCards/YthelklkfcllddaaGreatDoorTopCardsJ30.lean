/- Images are a card, or none; a card's bytes are read where the published map says: the walk. -/
import Derived.Test.YthelklkfcllddaaGreatDoorTopCardsJ07
import Derived.Test.YthelklkfcllddaaGreatDoorTopCardsJ17
import Derived.Test.YthelklkfcllddaaGreatDoorTopCardsJ22
import Derived.Test.YthelklkfcllddaaGreatDoorRows
import Derived.Laws.StructEq
import Derived.Laws.Rows
import Derived.Laws.Tables
import Derived.Laws.ResultCell
import Derived.Laws.CopyOwn
import Derived.WalkMore
import Derived.WalkKit
import Derived.Below
import Derived.OneCell
import Derived.Handy
import Derived.Test.YthelklkfcllddaaGreatDoorTopCardsJ09
import Derived.Test.YthelklkfcllddaaGreatDoorTopCardsJ23
import Derived.Test.YthelklkfcllddaaGreatDoorTopCardsJ24
import Derived.Test.YthelklkfcllddaaGreatDoorTopCardsJ25
import Derived.Test.YthelklkfcllddaaGreatDoorTopCardsJ04
import Derived.Test.YthelklkfcllddaaGreatDoorTopCardsJ16
import Derived.Test.YthelklkfcllddaaGreatDoorTopCardsJ01
import Derived.Test.YthelklkfcllddaaGreatDoorTopCardsJ27
import Derived.Test.YthelklkfcllddaaGreatDoorTopCardsJ29
import Derived.BigQuiet
import Derived.Deep.CutRange
namespace Go.Proofs.YthelklkfcllddaaGreatDoor
set_option maxRecDepth 20000
open B4 C3 G6 I11 L24 M5 P22 R15 W13
open Go.RowKit
set_option linter.unusedVariables false
set_option linter.unusedSimpArgs false
theorem IsRow.lens {k : IntKind} {w : World} {a : Option Addr} {len cap : Nat} {zs : List Int} (h : IsRow k w a len cap zs) : len ≤ cap ∧ cap ≤ maxLen := by
  rcases h with ⟨_, rfl, rfl, _⟩ | ⟨x, _, h1, h2, _⟩
  · exact ⟨Nat.le_refl _, Nat.zero_le _⟩
  · exact ⟨h1, h2⟩
theorem err_cases (m : Nat) : errOf m = 0 ∨ errOf m = 10 ∨ errOf m = 11 ∨ errOf m = 12 ∨ errOf m = 13 := by
  unfold errOf; repeat' split
  all_goals simp
theorem good_len {N : Nat} (h : errOf (N - fromOf N) = 0) (hN : N ≤ 131071) : known (((N - fromOf N) / 8192 : Nat) : Int) = true ∧ (N - fromOf N) % 8192 = 0 ∧ 1 ≤ (N - fromOf N) / 8192 ∧ (N - fromOf N) / 8192 ≤ 16 ∧ N % 8192 = fromOf N := by
  have hf : fromOf N = 0 ∨ (fromOf N = 512 ∧ N % 8192 = 512) := by unfold fromOf; split <;> simp_all
  generalize fromOf N = F at *
  unfold errOf at h
  split at h
  · cases h
  · split at h
    · cases h
    · split at h
      · cases h
      · split at h
        · rename_i hk
          refine ⟨hk, by omega, by omega, by omega, by omega⟩
        · cases h
theorem new_none (w : World) : Calls Tryz.prog 5 #[.pointer none] w fun e w' => e = Ending.returned (.pointer none) ∧ w' = w := by
  have KP := hide (pages_nil w)
  go_enter Tryz.func5, Tryz.ntmps5
  go_wp2_with (first | (go_at_call 6; refine KP.out.mono ?_; rintro e w' ⟨rfl, hw⟩; subst w'))
  go_ret
  exact ⟨rfl, rfl⟩
theorem arrs_two {w : World} {a : Option Addr} {len cap : Nat} (h : IsArrs .i64 2 w a len cap) (i : Nat) (hi : i < len) : ∃ b off x y, a = some ⟨b, off, none⟩ ∧ b < w.heap.size ∧ len ≤ cap ∧ cap < 9223372036854775808 ∧
    ∀ w', Below w.heap.size w w' → w'.cell? ⟨b, off + i * 2, none⟩ = some (.int .i64 x) ∧ w'.cell? ⟨b, off + i * 2 + 1, none⟩ = some (.int .i64 y) := by
  obtain ⟨b, off, e, hb, h1, h2, hc⟩ := h.cells (by omega) (by decide)
  obtain ⟨x, _, c0⟩ := hc i hi 0 (by decide)
  obtain ⟨y, _, c1⟩ := hc i hi 1 (by decide)
  exact ⟨b, off, x, y, e, hb, h1, by simp [maxLen] at h2; omega, fun w' bw => ⟨(bw.cell (p := ⟨b, _, none⟩) hb).trans c0, (bw.cell (p := ⟨b, _, none⟩) hb).trans c1⟩⟩
theorem x_latch {w : World} {b v c d : Nat} {f : Nat → Int} {bs : List Int} (h : HasX w b v c d ((LB v c).set 9 (8, iv f)) bs (fun _ => 0) 0 0 1 0 0) : w.cell? ⟨b, 282, none⟩ = some (.int .i64 0) ∧ w.cell? ⟨b, 9261, none⟩ = some (.int .i64 255) :=
  ⟨h.1.get1 7 rfl (a := 282) (h.isB.off 7 rfl) (by decide), h.1.get1 16 rfl (a := 9261) (h.isB.off 16 rfl) (by decide)⟩
theorem x_file {w : World} {b v c d : Nat} {L : List (Nat × (Nat → Value))} {bs : List Int} {f : Nat → Int} {wr rd st lo bu : Int} (h : HasX w b v c d L bs f wr rd st lo bu) {fl : Nat → Int} (h9 : L[9]? = some (8, iv fl)) (k : Nat) (hk : k < 8) (n : Int) :
    HasX (w.setCell ⟨b, 8475 + k, none⟩ (.int .i64 n)) b v c d (L.set 9 (8, iv (up fl k n))) bs f wr rd st lo bu ∧ OnlyE (EX b v) w (w.setCell ⟨b, 8475 + k, none⟩ (.int .i64 n)) ∧ w.cell? ⟨b, 8475 + k, none⟩ = some (.int .i64 (fl k)) ∧ w.frozen? ⟨b, 8475 + k, none⟩ = false := by
  have q := (But.refl b w).set (8475 + k) (.int .i64 n)
  have e : updC (iv fl) k (.int .i64 n) = iv (up fl k n) := by funext j; unfold updC iv up; split <;> rfl
  have p := h.1.put 9 h9 k hk (a := 8475 + k) (by rw [h.isB.off 9 (a := 8475) rfl]) (.int .i64 n)
  rw [e] at p
  exact ⟨h.lay q 9 h9 p (by decide) (by decide), ex_but q, h.1.get 9 h9 k hk (a := 8475 + k) (by rw [h.isB.off 9 (a := 8475) rfl]) (by omega), h.1.frozen _⟩
set_option maxHeartbeats 4000000 in
theorem topCards_walk (n0 : Int) (a1 : Option Addr) (l1 c1 : Nat) (z1 : List Int) (fl : List Int) (a2 : Option Addr) (l2 c2 : Nat) (W : World)
    (hw0 : (Lit.int .i64 n0).wf = true) (hb : IsRow .u8 W a1 l1 c1 z1) (hf : fl.length = 8) (hw1 : ∀ z ∈ fl, (Lit.int .i64 z).wf = true) (ha : IsArrs .i64 2 W a2 l2 c2) (hT : Tabs W ∧ HasErr W) :
    Calls Tryz.prog 3 #[.agg #[.int .i64 n0, .slice a1 l1 c1], .agg (fl.map (Value.int .i64)).toArray, .slice a2 l2 c2] W fun e w' => e = .returned (.bool true) ∧ Below W.heap.size W w' := by
  clear hw0 hw1
  have HA := hide ha
  have L2 := hide (show l2 < 9223372036854775808 by have := ha.max; simp [maxLen] at this; omega)
  clear ha
  have hcap := hb.lens.1
  have hmax : c1 < 9223372036854775808 := by have := hb.lens.2; simp [maxLen] at this; omega
  obtain ⟨n, hn⟩ : ∃ n, bits .and .i64 n0 131071 = n := ⟨_, rfl⟩
  have n01 : 0 ≤ n ∧ n ≤ 131071 := by rw [← hn, show bits .and .i64 n0 131071 = n0 % 131072 from and_mask 17 (by decide) n0]; omega
  obtain ⟨N, rfl⟩ := Int.eq_ofNat_of_zero_le n01.1
  go_enter Tryz.func3, Tryz.ntmps3
  go_upto_region 1 with fail
  refine under_name fun w1 hw1 => ?_
  have B1 := hide (show Below W.heap.size W w1 by rw [hw1]; exact bnext ((Below.refl _ W).alloc (Nat.le_refl _) _) ((Below.refl _ _).alloc (Nat.le_refl _) _))
  have k0 : w1.cell? ⟨W.heap.size, 0, none⟩ = some (.int .i64 n0) := by rw [hw1]; simp
  have k1 : w1.cell? ⟨W.heap.size, 1, none⟩ = some (.slice a1 l1 c1) := by rw [hw1]; simp
  have F1 := hide (show w1.heap[W.heap.size + 1]? = some (.cells (fl.map (Value.int .i64)).toArray 25 (0, 0)) by rw [hw1]; have := heap_alloc_new (w := W.alloc (.cells #[.int .i64 n0, .slice a1 l1 c1] 24)) (.cells (fl.map (Value.int .i64)).toArray 25); simpa using this)
  clear hw1
  go_quiet (fail)
  go_upto_if 28 with fail
  refine under_name fun w2 hw2 => ?_
  have B2 := hide (show Below W.heap.size W w2 by rw [hw2]; exact below_drew B1.out nq)
  have F2 := hide (show w2.heap[W.heap.size + 1]? = some (.cells (fl.map (Value.int .i64)).toArray 25 (0, 0)) by rw [hw2]; exact F1.out)
  clear hw2 F1 B1 k0 k1
  go_cut [8] from 26 to 30 (fun s8 wx => ∃ l : Nat, s8 = .slice a1 l c1 ∧ l ≤ l1 ∧ l ≤ 100 ∧ wx = w2)
  case first =>
    go_wp2_with fail
    all_goals go_meet
    all_goals first | exact ⟨100, rfl, by omega, by omega, rfl⟩ | exact ⟨l1, rfl, by omega, by omega, rfl⟩
  obtain ⟨l, rfl, hl1, hl, rfl⟩ := hcut
  have HR := hide ((hb.next B2.out).cut hl1)
  have HT := hide (hT.1.next B2.out)
  have HE := hide (hT.2.next B2.out)
  have FL := hide (lt_of_block F2.out)
  clear hb
  have hm := mk_bytes N (by omega) wc
  obtain ⟨w3, hw3⟩ : ∃ w3, w3 = (wc.alloc (.cells ((List.replicate N (0 : Int)).map (Value.int .u8)).toArray 5)) := ⟨_, rfl⟩
  have O3 : Hid (Bytes 5 w3 wc.heap.size (List.replicate N 0)) := by subst hw3; exact hide Bytes.made
  have L3 : Hid (Below wc.heap.size wc w3) := by subst hw3; exact hide ((Below.refl _ wc).alloc (Nat.le_refl _) _)
  rw [← hw3] at hm
  clear hw3
  obtain ⟨g, hg⟩ : ∃ g, g = wc.heap.size := ⟨_, rfl⟩
  rw [← hg] at hm O3 L3
  have BG := hide (show W.heap.size ≤ g by rw [hg]; exact B2.out.size)
  have LG := hide hg
  go_wp2_with fail
  rw [← hg]
  have HF := hide hf
  clear hg hm hT hf
  go_loopw [10] (fun si wr => ∃ (j : Nat) (bs : List Int), j ≤ N ∧ si = .int .i64 (j : Int) ∧ bs.length = N ∧ Bytes 5 wr g bs ∧ Below g wc wr) (fun si _ => N - (intOf si).toNat)
  case atStart => exact ⟨0, _, by omega, rfl, by simp, O3.out, L3.out⟩
  case round =>
    obtain ⟨j, bs, hj, rfl, hl2, hb2, bel⟩ := hrel
    by_cases h : j < N
    · obtain ⟨hc, d0, d1⟩ := hb2.cell j (by omega)
      have hf := hb2.free j
      have HB := hide hb2
      have BL := hide bel
      have KM := hide (show (∃ z : Int, (0 ≤ z ∧ z < 256) ∧ True) from ⟨0, by omega, trivial⟩)
      clear hb2
      rcases Nat.eq_zero_or_pos l with rfl | hl0
      · clear bel
        go_wp2_with fail
        go_roundw
        case rel => exact ⟨j + 1, _, by omega, by go_num, by simpa using hl2, HB.out.put j _ (by first | exact u8_wrap _ | skip), BL.out.setCell (Nat.le_refl _) _⟩
        case measure => simp [intOf]; omega
      · obtain ⟨bb, off, rfl, hbb, h1, h2, hcb⟩ := HR.out.cells hl0
        have hml : j % l < l := Nat.mod_lt _ hl0
        obtain ⟨hz, wz⟩ := hcb (j % l) hml
        have hgb : bb < g := by rw [LG.out]; exact hbb
        rw [← bel.cell (p := ⟨bb, off + j % l, none⟩) hgb] at hz
        obtain ⟨z0, z1'⟩ := u8_range wz
        generalize z1.getD (j % l) 0 = z at *
        have hz2 : ∀ v, (wr.setCell ⟨g, j, none⟩ v).cell? ⟨bb, off + j % l, none⟩ = some (.int .u8 z) := by
          intro v
          exact (World.cell?_setCell_other _ _ _ _ (by intro e; injection e; omega)).trans hz
        have et : Int.tmod (j : Int) (l : Int) = ((j % l : Nat) : Int) := by
          rw [Int.tmod_eq_emod_of_nonneg (by omega)]; simp
        clear bel wz hcb
        go_wp2_with fail
        go_region
        all_goals (try go_wp2)
        go_roundw
        case rel => exact ⟨j + 1, _, by omega, by go_num, by simpa using hl2, (HB.out.put j _ (u8_wrap _)).put j _ (by unfold bits; exact u8_wrap _), ((BL.out.setCell (Nat.le_refl _) _).setCell (Nat.le_refl _) _).drew⟩
        case measure => simp [intOf]; omega
    · obtain rfl : j = N := by omega
      have HB := hide hb2
      have BL := hide bel
      clear hb2 bel
      have BW := hide (show Below wc.heap.size wc wr by rw [← LG.out]; exact BL.out)
      have BN := hide (bnext B2.out BW.out)
      have T3 := hide (HT.out.next BW.out)
      have E3 := hide (HE.out.next BW.out)
      have F3 := hide ((BW.out.block _ FL.out).trans F2.out)
      have lo := load_own g j bs wr HB.out hl2 (by omega) T3.out.1 E3.out
      have ge := good_len (N := j)
      have ec := err_cases (j - fromOf j)
      obtain ⟨E, hE⟩ : ∃ E, errOf (j - fromOf j) = E := ⟨_, rfl⟩
      obtain ⟨cs, hcs⟩ : ∃ cs, bs.drop (fromOf j) = cs := ⟨_, rfl⟩
      have CL := hide (show cs.length = j - fromOf j ∧ ∀ k, cs.getD k 0 = bs.getD (fromOf j + k) 0 by
        rw [← hcs]
        exact ⟨by rw [List.length_drop, hl2], fun k => by simp [List.getD_eq_getElem?_getD]⟩)
      rw [hE, hcs] at lo
      rw [hE] at ge ec
      clear hE hcs
      obtain ⟨P, hP⟩ : ∃ P, (j - fromOf j) / 8192 = P := ⟨_, rfl⟩
      obtain ⟨F, hF⟩ : ∃ F, fromOf j = F := ⟨_, rfl⟩
      rw [hP, hF] at ge
      rw [hF] at CL hP
      have FJ := hide (show F ≤ j from hF ▸ from_le j)
      have GE := hide ge
      have HP := hide hP
      have HL := hide hl2
      have LO := hide lo
      clear hl2 HR BL ge lo hF hP
      go_wp2_with fail
      refine LO.out.mono ?_
      rintro e w4 ⟨he, b4⟩
      have B4 := hide b4
      have BN4 := hide (bnext BN.out b4)
      clear b4 LO
      rcases he with ⟨he, rfl⟩ | ⟨he, c, rfl, ic⟩
      · clear CL GE FJ HP HL
        go_wp2_with (first
          | (go_at_call 5; refine (new_none _).mono ?_; rintro e w5 ⟨rfl, hw⟩; subst w5))
        all_goals (go_ret; exact ⟨by rcases ec with e | e | e | e | e; exact absurd e he; all_goals (subst e; rfl), BN4.out⟩)
      · subst he
        obtain ⟨d, hc, hd, cc, cb⟩ := ic
        obtain ⟨g1, g2, g3, g4, g5⟩ := GE.out rfl (by omega)
        have PC := hide (show cs.length / 8192 = P by rw [CL.out.1]; exact HP.out)
        have C4 := hide (show HasCard w4 c d cs from ⟨cc, cb, lt_of_cell cc⟩)
        have NW := hide (new_is C4.out (by rw [PC.out]; exact g3) (by rw [CL.out.1]; omega) (T3.out.next B4.out))
        clear cc cb C4 GE BW
        go_wp2_with fail
        refine NW.out.mono ?_
        rintro e w5 ⟨b, v, rfl, x5, ⟨lb, lv⟩, b5⟩
        have BN5 := hide (bnext BN4.out b5)
        have B5 := hide (bnext B4.out b5)
        have NB := hide (show ∀ k, EX b v k → w4.heap.size ≤ k from fun k e => by rcases e with rfl | rfl; exact lb; exact lv)
        have SZ := hide (show wr.heap.size ≤ w4.heap.size ∧ W.heap.size ≤ wr.heap.size from ⟨B4.out.size, BN.out.size⟩)
        have F5 := hide ((B5.out.block _ (lt_of_block F3.out)).trans F3.out)
        have H5 := hide (HB.out.next B5.out)
        have NF := hide (show ¬ EX b v (W.heap.size + 1) by have := lt_of_block F3.out; have := SZ.out; rintro (e | e) <;> omega)
        have NG := hide (show ¬ EX b v g by have := HB.out.lt; have := SZ.out; rintro (e | e) <;> omega)
        have X5 := hide (show ∃ f : Nat → Int, HasX w5 b v c d ((LB v c).set 9 (8, iv f)) cs (fun _ => 0) 0 0 1 0 0 ∧ ∀ k, 0 ≤ f k ∧ f k < 256 from ⟨fl0, by rw [set_id (show (LB v c)[9]? = some (8, iv fl0) from rfl)]; exact x5, fun k => by unfold fl0; split <;> omega⟩)
        have KP := hide (show ∀ w, HasCard w c d cs → Calls Tryz.prog 6 #[.pointer (some ⟨c, 0, none⟩)] w fun e w' => e = .returned (.int .i64 (P : Int)) ∧ w' = w from fun w h => by
          have k := pages_of ⟨c, 0, none⟩ (some ⟨d, 0, none⟩) cs.length cs.length w (by rw [CL.out.1]; omega) h.1
          rw [PC.out] at k
          exact k)
        have C5 := hide x5.2.2.1
        have NW5 := hide (show ∀ k, EX b v k → W.heap.size ≤ k from fun k e => Nat.le_trans SZ.out.2 (Nat.le_trans SZ.out.1 (NB.out k e)))
        clear x5 lb lv b5 F3 HB T3 E3 BN BN4 B4 B5 NW HT HE
        go_wp2_with (first
          | (go_at_call 6; refine (KP.out _ C5.out).mono ?_; rintro e w' ⟨rfl, hw⟩; subst w'))
        go_loopw [15] (fun si wq => ∃ (i : Nat) (f : Nat → Int), i ≤ 8 ∧ si = .int .i64 (i : Int) ∧ HasX wq b v c d ((LB v c).set 9 (8, iv f)) cs (fun _ => 0) 0 0 1 0 0 ∧ (∀ k, 0 ≤ f k ∧ f k < 256) ∧ OnlyE (EX b v) w5 wq) (fun si _ => 8 - (intOf si).toNat)
        case atStart =>
          obtain ⟨f, x, hf⟩ := X5.out
          exact ⟨0, f, by omega, rfl, x, hf, OnlyE.of (Below.refl _ _)⟩
        case round =>
          obtain ⟨i, f, hi, rfl, xq, hfl, oq⟩ := hrel
          by_cases hlt : i < 8
          · obtain ⟨fn, hfn⟩ : ∃ fn, fl.getD i 0 = fn := ⟨_, rfl⟩
            have cF : wr.cell? ⟨W.heap.size + 1, i, none⟩ = some (.int .i64 fn) := by
              have := oq.obj F5.out NF.out
              rw [cell_of_row _ _ _ _ _ _ this, ← hfn]
              simp [List.getD_eq_getElem?_getD, HF.out, hlt]
            obtain ⟨x6, o6, cM, zM⟩ := x_file xq (set_same (show (LB v c)[9]? = some (8, iv fl0) from rfl) _) i hlt (bits .and .i64 fn 255)
            have ef : bits .and .i64 fn 255 = fn % 256 := and_255 fn
            rw [List.set_set] at x6
            rw [ef] at x6 o6
            have X6 := hide x6
            have O6 := hide (oq.trans o6)
            have HFL := hide hfl
            clear xq hfl oq x6 o6 X5 hfn
            go_wp2_with fail
            go_region
            all_goals (try go_wp2)
            go_roundw
            case rel => exact ⟨i + 1, _, by omega, by go_num, X6.out, fun k => by unfold up; split; omega; exact HFL.out k, O6.out⟩
            case measure => simp [intOf]; omega
          · obtain rfl : i = 8 := by omega
            have X7 := hide xq
            have O7 := hide oq
            have HFL := hide hfl
            clear xq hfl oq X5 HF
            go_wp2_with fail
            have L2o := L2.out
            go_loopw [16] (fun si wq => ∃ (i : Nat), i ≤ 60 ∧ i ≤ l2 ∧ si = .int .i64 (i : Int) ∧ HasX wq b v c d ((LB v c).set 9 (8, iv f)) cs (fun _ => 0) 0 0 1 0 0 ∧ OnlyE (EX b v) w5 wq) (fun si _ => 60 - (intOf si).toNat)
            case atStart => exact ⟨0, by omega, by omega, rfl, X7.out, O7.out⟩
            case round =>
              obtain ⟨i, hi, hi2, rfl, xq, oq⟩ := hrel
              have X8 := hide xq
              have O8 := hide oq
              have BW := hide (BN5.out.trans (oq.below NW5.out BN5.out.size))
              clear xq oq X7 O7
              by_cases k1 : i < l2
              · by_cases k2 : i < 60
                · obtain ⟨bb, off, x, y, rfl, hbb, hc2, hm2, hxy⟩ := arrs_two HA.out i k1
                  obtain ⟨cx, cy⟩ := hxy _ BW.out
                  obtain ⟨A, hA⟩ : ∃ A, bits .and .i64 x 65535 = A := ⟨_, rfl⟩
                  have A01 : 0 ≤ A ∧ A < 65536 := by rw [← hA, and_65535]; omega
                  obtain ⟨k, hk⟩ : ∃ k : Nat, A / 8192 = (k : Int) := ⟨(A / 8192).toNat, by omega⟩
                  have k8 : k < 8 := by omega
                  obtain ⟨r, hr⟩ : ∃ r : Nat, A % 8192 = (r : Int) := ⟨(A % 8192).toNat, by omega⟩
                  have er : bits .and .i64 A 8191 = r := by rw [← hr]; exact and_mask 13 (by decide) A
                  obtain ⟨q, hq⟩ : ∃ q, f k = q := ⟨_, rfl⟩
                  have q01 : 0 ≤ q ∧ q < 256 := by rw [← hq]; exact HFL.out k
                  have r01 : r < 8192 := by omega
                  have KH := hide (show ∀ w, Calls Tryz.prog 7 #[.agg (rowF (iv f) 8), .int .i64 A] w fun e w' => e = .returned (.int .i64 (q * 8192 + r)) ∧ Below w.heap.size w w' from fun w => by
                    have := phys_any f A w
                    rw [show physOf f A = q * 8192 + r by unfold physOf; rw [show (A % 65536 / 8192).toNat = k by omega, hq, hr]; omega] at this
                    exact this)
                  have SEG := hide (X8.out.1.seg 9 (set_same (show (LB v c)[9]? = some (8, iv fl0) from rfl) _) (a := 8475) (X8.out.isB.off 9 rfl))
                  have H9 := hide X8.out.1
                  have CY := hide (show ∀ wx, OnlyE (EX b v) w5 wx → wx.cell? ⟨bb, off + i * 2 + 1, none⟩ = some (.int .i64 y) from fun wx o => (hxy _ (BN5.out.trans (o.below NW5.out BN5.out.size))).2)
                  clear hxy hbb
                  go_upto_region 27 with (first
                    | (refine wpList_load_part rfl 43 (.tmp 135) rfl b 8475 rfl H9.out 8 (by decide) (iv f) SEG.out _ Tryz.underlying43 rfl (by kernel_rfl) ?_)
                    | (go_at_call 7; refine (KH.out _).mono ?_; rintro e w6 ⟨rfl, b6⟩))
                  have X9 := hide (X8.out.next b6)
                  have O9 := hide (O8.out.trans (ex_below b6))
                  have cK : w6.cell? ⟨b, 8475 + k, none⟩ = some (.int .i64 q) := by
                    rw [← hq]
                    exact X9.out.1.get 9 (set_same (show (LB v c)[9]? = some (8, iv fl0) from rfl) _) k k8 (a := 8475 + k) (by rw [X9.out.isB.off 9 (a := 8475) rfl]) (by omega)
                  have cy6 : w6.cell? ⟨bb, off + i * 2 + 1, none⟩ = some (.int .i64 y) := (b6.cell (p := ⟨bb, _, none⟩) (cell_lt cy)).trans cy
                  clear cx cy b6 X8 O8 H9 SEG KH hA hq
                  go_upto_region 29 with fail
                  have p01 : 0 ≤ q * 8192 + r ∧ (q < 128 → q * 8192 + r < 1048576) ∧ (q * 8192 + r) / 8192 = q ∧ (q * 8192 + r) % 8192 = r := by omega
                  generalize q * 8192 + r = p at *
                  clear cK hk er hr
                  by_cases hr : q < 128
                  · have KW := hide (show ∀ w, Calls Tryz.prog 8 #[.int .i64 p] w fun e w' => e = .returned (.agg #[.int .i64 0, .int .i64 q, .int .i64 r]) ∧ Below w.heap.size w w' from fun w => by
                      have := where_rom p w p01.1 (p01.2.1 hr)
                      rw [p01.2.2.1, p01.2.2.2] at this
                      exact this)
                    go_upto_region 31 with (first
                      | (go_at_call 8; refine (KW.out _).mono ?_; rintro e w7 ⟨rfl, b7⟩))
                    refine under_name fun w8 hw8 => ?_
                    have b8 : Below w6.heap.size w6 w8 := by rw [hw8]; exact bnext b7 ((Below.refl _ w7).alloc (Nat.le_refl _) _)
                    obtain ⟨g8, hg8⟩ : ∃ g8, w7.heap.size = g8 := ⟨_, rfl⟩
                    have c8 : w8.heap[g8]? = some (.cells #[.int .i64 0, .int .i64 q, .int .i64 r] 67 (0, 0)) := by rw [hw8, ← hg8]; exact heap_alloc_new _ _
                    have X10 := hide (X9.out.next b8)
                    have O10 := hide (O9.out.trans (ex_below b8))
                    have cy8 : w8.cell? ⟨bb, off + i * 2 + 1, none⟩ = some (.int .i64 y) := (b8.cell (p := ⟨bb, _, none⟩) (cell_lt cy6)).trans cy6
                    rw [hg8]
                    clear hw8 hg8 b7 b8 X9 O9 cy6 KW
                    obtain ⟨Q, rfl⟩ := Int.eq_ofNat_of_zero_le q01.1
                    obtain ⟨n1, n2⟩ := page_in g1 0 Q (by omega)
                    obtain ⟨G, hG⟩ := Int.eq_ofNat_of_zero_le n1
                    have KG := hide (show ∀ w, HasTab w → Calls Tryz.prog 9 #[.int .i64 (P : Int), .int .i64 0, .int .i64 (Q : Int)] w fun e w' => e = .returned (.int .i64 (G : Int)) ∧ Below w.heap.size w w' from fun w h => hG ▸ page_any P 0 Q w h)
                    rw [hG] at n2
                    obtain ⟨M, hM⟩ : ∃ M : Nat, F + G * 8192 + r = M := ⟨_, rfl⟩
                    have MJ : M < j := by have := HP.out; have := FJ.out; omega
                    obtain ⟨hc10, z10, z11⟩ := (show Bytes 5 w8 g bs from ⟨O10.out.obj H5.out.1 NG.out, H5.out.2⟩).cell M (by rw [HL.out]; exact MJ)
                    obtain ⟨z, hz⟩ : ∃ z, bs.getD M 0 = z := ⟨_, rfl⟩
                    rw [hz] at hc10 z10 z11
                    have ej : (j : Int) % 8192 = (F : Int) := by omega
                    have hM2 : (F : Int) + (G : Int) * 8192 + (r : Int) = (M : Int) := by omega
                    have e1 := kept_cell (cell_of_row w8 g8 1 _ _ _ c8) (lt_of_block c8)
                    have e2 := kept_cell (cell_of_row w8 g8 2 _ _ _ c8) (lt_of_block c8)
                    have e3 := kept_cell (X10.out.1.get1 7 rfl (a := 282) (X10.out.isB.off 7 rfl) (by decide)) X10.out.1.lt
                    have e4 := kept_cell hc10 (cell_lt hc10)
                    have KB := hide (show ∀ w, HasCard w c d cs → Calls Tryz.prog 53 #[.pointer (some ⟨c, 0, none⟩), .int .i64 (pageOf ((cs.length / 8192 : Nat) : Int) 0 (p / 8192)), .int .i64 (p % 8192)] w fun e w' => e = .returned (.int .i64 z) ∧ w' = w from fun w h => by
                      have k := C3.byte_any c cs (G : Int) (r : Int) w (B := 0) ⟨d, Nat.zero_le _, Nat.zero_le _, h.1, h.2.1⟩ (by rw [CL.out.1]; omega)
                      have e : C3.byteOf cs (G : Int) (r : Int) = z := by
                        unfold C3.byteOf
                        rw [if_pos ⟨by omega, by rw [PC.out]; exact n2, by omega, by omega⟩, show ((G : Int) * 8192 + (r : Int)).toNat = G * 8192 + r by omega, CL.out.2, show F + (G * 8192 + r) = M by omega, hz]
                      rw [e] at k
                      rw [PC.out, p01.2.2.1, p01.2.2.2, hG]
                      exact k)
                    clear n1 hG hc10
                    haveI := kept_some w8
                    refine wp_region_kept (by kernel_rfl) (by kernel_rfl) ?_
                    repeat (go_big_quiet_step (first
                      | (go_at_call 6; exact kept_same (KP.out _ (X10.out.next (Kept.below _)).2.2.1))
                      | (go_at_call 9; exact kept_call (KG.out _ (X10.out.next (Kept.below _)).tabs.1))))
                    refine wpQuiet_nil ?_
                    rintro _ ⟨wk, rfl⟩
                    have X11 := hide (X10.out.next wk.below)
                    have O11 := hide (O10.out.trans (ex_below wk.below))
                    generalize wk.val = w9 at *
                    have P0 := hide (show 0 ≤ p ∧ p < 1048576 from ⟨p01.1, p01.2.1 hr⟩)
                    clear e1 e2 e3 e4 hM hM2 ej c8 cy8 X10 O10 KG
                    go_upto_region 35 with (first
                      | (go_at_call 10; refine (rd_rom X11.out p P0.out.1 P0.out.2 rfl KB.out).mono ?_; rintro e w10 ⟨rfl, x12, o12⟩; have X12 := hide x12; have O12 := hide (O11.out.trans o12); have c12 := CY.out _ O12.out; clear x12 o12 X11 O11)
                      | (go_at_call 11; refine (wr_rom X12.out p P0.out.1 P0.out.2 rfl (by rw [PC.out]; omega) y).mono ?_; rintro e w11 ⟨rfl, x13, o13⟩; have X13 := hide x13; have O13 := hide (O12.out.trans o13); clear x13 o13 X12 O12 c12))
                    have KL := hide (show ∀ w, HasTab w → Calls Tryz.prog 12 #[.int .i64 (P : Int), .int .i64 0, .int .i64 p] w fun e w' => e = .returned (.int .i64 0) ∧ Below w.heap.size w w' from fun w h => by
                      have k := latch_any P 0 p w h
                      rw [show latchOf P 0 p = 0 by unfold latchOf; rw [if_neg (by omega)]] at k
                      exact k)
                    obtain ⟨S0, hS0⟩ : ∃ S0 : World → Prop, S0 = fun x => HasX x b v c d ((LB v c).set 9 (8, iv f)) cs (fun _ => 0) 0 0 1 0 0 ∧ OnlyE (EX b v) w5 x := ⟨_, rfl⟩
                    have bd : Below w11.heap.size w11 w11.drew := (Below.refl _ w11).drew
                    have Z0 := hide (show S0 w11.drew by rw [hS0]; exact ⟨X13.out.next bd, O13.out.trans (ex_below bd)⟩)
                    have ZX := hide (fun x (h : S0 x) => show HasX x b v c d ((LB v c).set 9 (8, iv f)) cs (fun _ => 0) 0 0 1 0 0 ∧ OnlyE (EX b v) w5 x by rw [hS0] at h; exact h)
                    have ZP := hide (show ∀ x, S0 x → Calls Tryz.prog 6 #[.pointer (some ⟨c, 0, none⟩)] x fun e x' => e = .returned (.int .i64 (P : Int)) ∧ S0 x' from fun x h => (KP.out x (ZX.out x h).1.2.2.1).mono fun e x' k => ⟨k.1, by rw [k.2]; exact h⟩)
                    have ZL := hide (show ∀ x, S0 x → Calls Tryz.prog 12 #[.int .i64 (P : Int), .int .i64 0, .int .i64 p] x fun e x' => e = .returned (.int .i64 0) ∧ S0 x' from fun x h => (KL.out x (ZX.out x h).1.tabs.1).mono fun e x' k => ⟨k.1, by have g := ZX.out x h; rw [hS0]; exact ⟨g.1.next k.2, g.2.trans (ex_below k.2)⟩⟩)
                    have ZR := hide (show ∀ x, S0 x → Calls Tryz.prog 10 #[.pointer (some ⟨b, 0, none⟩), .int .i64 p] x fun e x' => e = .returned (.int .i64 z) ∧ S0 x' from fun x h => (rd_rom (ZX.out x h).1 p P0.out.1 P0.out.2 rfl KB.out).mono fun e x' k => ⟨k.1, by rw [hS0]; exact ⟨k.2.1, (ZX.out x h).2.trans k.2.2⟩⟩)
                    have ZC := hide (fun x (h : S0 x) => x_latch (ZX.out x h).1)
                    clear bd hS0 X13 O13 KP KL KB P0
                    have zz : (z != z) = false := by simp
                    have n255 : ((255 : Int) != 255) = false := by decide
                    have n0 : ((0 : Int) != 0) = false := by decide
                    refine wp_region_state (ofList [.pointer (some ⟨b, 0, none⟩), .pointer (some ⟨b, 0, none⟩), .pointer (some ⟨b, 282, none⟩), .int .i64 0, .pointer (some ⟨c, 0, none⟩), .int .i64 (P : Int), .int .i64 p, .int .i64 0, .bool false, .bool false, undef, undef, undef, Value.bool false, Value.bool false, .pointer (some ⟨b, 0, none⟩), .int .i64 p, .int .i64 z, .int .i64 z, .bool false, .bool false, undef, undef, undef, Value.bool false, Value.bool false, Value.bool false, .pointer (some ⟨b, 0, none⟩), .pointer (some ⟨b, 0, none⟩), .pointer (some ⟨b, 9261, none⟩), .int .i64 255, .bool false, .bool false]) (fun dd ww => (stgs [S0]) (cntD [] dd) ww) _ (fun vals => by simp only [putAll, Act.put, List.setIfInBounds_toArray, List.set_cons_succ, List.set_cons_zero, Nat.reduceAdd]; rfl) (by kernel_rfl) (by kernel_rfl) (by kernel_rfl) (fun dn hd => stage_none (A := (stgs [S0])) hd (Z0.out)) ?_ ?_
                    · refine stepsS_cons (fun vals dn x hi hc hk hs => ?_) (stepsS_cons (fun vals dn x hi hc hk hs => ?_) (stepsS_cons (fun vals dn x hi hc hk hs => ?_) (stepsS_cons (fun vals dn x hi hc hk hs => ?_) (stepsS_cons (fun vals dn x hi hc hk hs => ?_) (stepsS_cons (fun vals dn x hi hc hk hs => ?_) (stepsS_cons (fun vals dn x hi hc hk hs => ?_) (stepsS_cons (fun vals dn x hi hc hk hs => ?_) (stepsS_cons (fun vals dn x hi hc hk hs => ?_) (stepsS_cons (fun vals dn x hi hc hk hs => ?_) (stepsS_cons (fun vals dn x hi hc hk hs => ?_) (stepsS_cons (fun vals dn x hi hc hk hs => ?_) (stepsS_cons (fun vals dn x hi hc hk hs => ?_) (stepsS_cons (fun vals dn x hi hc hk hs => ?_) (stepsS_cons (fun vals dn x hi hc hk hs => ?_) (stepsS_cons (fun vals dn x hi hc hk hs => ?_) (stepsS_cons (fun vals dn x hi hc hk hs => ?_) (stepsS_cons (fun vals dn x hi hc hk hs => ?_) (stepsS_cons (fun vals dn x hi hc hk hs => ?_) (stepsS_cons (fun vals dn x hi hc hk hs => ?_) (stepsS_cons (fun vals dn x hi hc hk hs => ?_) (stepsS_cons (fun vals dn x hi hc hk hs => ?_) (stepsS_cons (fun vals dn x hi hc hk hs => ?_) (stepsS_cons (fun vals dn x hi hc hk hs => ?_) (stepsS_cons (fun vals dn x hi hc hk hs => ?_) (stepsS_cons (fun vals dn x hi hc hk hs => ?_) (stepsS_cons (fun vals dn x hi hc hk hs => ?_) (stepsS_cons (fun vals dn x hi hc hk hs => ?_) (stepsS_cons (fun vals dn x hi hc hk hs => ?_) (stepsS_cons (fun vals dn x hi hc hk hs => ?_) (stepsS_cons (fun vals dn x hi hc hk hs => ?_) (stepsS_cons (fun vals dn x hi hc hk hs => ?_) (stepsS_cons (fun vals dn x hi hc hk hs => ?_) stepsS_nil))))))))))))))))))))))))))))))))
                      · set_option maxRecDepth 20000 in
                        go_wp2_with fail
                        exact postS_mk _ rfl rfl (stage_keep (A := (stgs [S0])) (ps := []) (i := 0) rfl hs)
                      · obtain ⟨⟨(h0 : vals 0 = .pointer (some ⟨b, 0, none⟩)), t0⟩, _⟩ := hk
                        simp only [h0]
                        clear h0
                        go_wp2_with fail
                        exact postS_mk _ rfl rfl (stage_keep (A := (stgs [S0])) (ps := []) (i := 1) rfl hs)
                      · obtain ⟨⟨(h1 : vals 1 = .pointer (some ⟨b, 0, none⟩)), t1⟩, _⟩ := hk
                        simp only [h1]
                        clear h1
                        go_wp2_with fail
                        exact postS_mk _ rfl rfl (stage_keep (A := (stgs [S0])) (ps := []) (i := 2) rfl hs)
                      · obtain ⟨⟨(h2 : vals 2 = .pointer (some ⟨b, 282, none⟩)), t2⟩, _⟩ := hk
                        simp only [h2]
                        clear h2
                        have hs1 := hs
                        have q := (ZC.out x hs1).1
                        go_wp2_with fail
                        exact postS_mk _ rfl rfl (stage_keep (A := (stgs [S0])) (ps := []) (i := 3) rfl hs)
                      · set_option maxRecDepth 20000 in
                        go_wp2_with fail
                        exact postS_mk _ rfl rfl (stage_keep (A := (stgs [S0])) (ps := []) (i := 4) rfl hs)
                      · obtain ⟨⟨(h4 : vals 4 = .pointer (some ⟨c, 0, none⟩)), t4⟩, _⟩ := hk
                        simp only [h4]
                        clear h4
                        have hs1 := hs
                        have HS := hide hs
                        clear hs hs1
                        go_wp2_with fail
                        refine (ZP.out _ HS.out).mono ?_
                        rintro e x2 ⟨rfl, h2⟩
                        have H2 := hide (show (stgs [S0]) (cntD [] dn) x2 from h2)
                        clear h2 HS
                        go_wp2_with fail
                        exact postS_mk _ rfl rfl (stage_keep (A := (stgs [S0])) (ps := []) (i := 5) rfl H2.out)
                      · set_option maxRecDepth 20000 in
                        go_wp2_with fail
                        exact postS_mk _ rfl rfl (stage_keep (A := (stgs [S0])) (ps := []) (i := 6) rfl hs)
                      · obtain ⟨⟨(h5 : vals 5 = .int .i64 (P : Int)), t5⟩, ⟨(h6 : vals 6 = .int .i64 p), t6⟩, _, _⟩ := hk
                        simp only [h5, h6]
                        clear h5 h6
                        have hs1 := hs
                        have HS := hide hs
                        clear hs hs1
                        go_wp2_with fail
                        refine (ZL.out _ HS.out).mono ?_
                        rintro e x2 ⟨rfl, h2⟩
                        have H2 := hide (show (stgs [S0]) (cntD [] dn) x2 from h2)
                        clear h2 HS
                        go_wp2_with fail
                        exact postS_mk _ rfl rfl (stage_keep (A := (stgs [S0])) (ps := []) (i := 7) rfl H2.out)
                      · obtain ⟨⟨(h3 : vals 3 = .int .i64 0), t3⟩, ⟨(h7 : vals 7 = .int .i64 0), t7⟩, _⟩ := hk
                        simp only [h3, h7]
                        clear h3 h7
                        go_wp2_with fail
                        exact postS_mk _ rfl rfl (stage_keep (A := (stgs [S0])) (ps := []) (i := 8) rfl hs)
                      · obtain ⟨⟨(h8 : vals 8 = .bool false), t8⟩, ⟨(h7 : vals 7 = .int .i64 0), t7⟩, _⟩ := hk
                        simp only [h8]
                        clear h8 h7
                        go_wp2_with fail
                        exact postS_mk _ rfl rfl (stage_keep (A := (stgs [S0])) (ps := []) (i := 9) rfl hs)
                      · obtain ⟨⟨(h9 : vals 9 = .bool false), t9⟩, _⟩ := hk
                        simp only [h9]
                        clear h9
                        go_wp2_with fail
                        exact postS_mk _ rfl rfl (stage_keep (A := (stgs [S0])) (ps := []) (i := 10) rfl hs)
                      · obtain ⟨⟨(h10 : vals 10 = undef), t10⟩, ⟨(h9 : vals 9 = .bool false), t9⟩, _, _⟩ := hk
                        simp only [h10, h9]
                        clear h10 h9
                        go_wp2_with fail
                        exact postS_mk _ rfl rfl (stage_keep (A := (stgs [S0])) (ps := []) (i := 11) rfl hs)
                      · obtain ⟨⟨(h11 : vals 11 = undef), t11⟩, ⟨(h9 : vals 9 = .bool false), t9⟩, _⟩ := hk
                        simp only [h11, h9]
                        clear h11 h9
                        go_wp2_with fail
                        exact postS_mk _ rfl rfl (stage_keep (A := (stgs [S0])) (ps := []) (i := 12) rfl hs)
                      · obtain ⟨⟨(h9 : vals 9 = .bool false), t9⟩, ⟨(h12 : vals 12 = undef), t12⟩, _⟩ := hk
                        simp only [h9, h12]
                        clear h9 h12
                        go_wp2_with fail
                        exact postS_mk _ rfl rfl (stage_keep (A := (stgs [S0])) (ps := []) (i := 13) rfl hs)
                      · obtain ⟨⟨(h13 : vals 13 = Value.bool false), t13⟩, ⟨(h11 : vals 11 = undef), t11⟩, _⟩ := hk
                        simp only [h13]
                        clear h13 h11
                        go_wp2_with fail
                        exact postS_mk _ rfl rfl (stage_keep (A := (stgs [S0])) (ps := []) (i := 14) rfl hs)
                      · obtain ⟨⟨(h14 : vals 14 = Value.bool false), t14⟩, _⟩ := hk
                        simp only [h14]
                        clear h14
                        go_wp2_with fail
                        exact postS_mk _ rfl rfl (stage_keep (A := (stgs [S0])) (ps := []) (i := 15) rfl hs)
                      · obtain ⟨⟨(h14 : vals 14 = Value.bool false), t14⟩, _⟩ := hk
                        simp only [h14]
                        clear h14
                        go_wp2_with fail
                        exact postS_mk _ rfl rfl (stage_keep (A := (stgs [S0])) (ps := []) (i := 16) rfl hs)
                      · obtain ⟨⟨(h15 : vals 15 = .pointer (some ⟨b, 0, none⟩)), t15⟩, ⟨(h16 : vals 16 = .int .i64 p), t16⟩, ⟨(h14 : vals 14 = Value.bool false), t14⟩, _, _⟩ := hk
                        simp only [h15, h16, h14]
                        clear h15 h16 h14
                        have hs1 := hs
                        have HS := hide hs
                        clear hs hs1
                        go_wp2_with fail
                        refine (ZR.out _ HS.out).mono ?_
                        rintro e x2 ⟨rfl, h2⟩
                        have H2 := hide (show (stgs [S0]) (cntD [] dn) x2 from h2)
                        clear h2 HS
                        go_wp2_with fail
                        exact postS_mk _ rfl rfl (stage_keep (A := (stgs [S0])) (ps := []) (i := 17) rfl H2.out)
                      · obtain ⟨⟨(h14 : vals 14 = Value.bool false), t14⟩, _⟩ := hk
                        simp only [h14]
                        clear h14
                        go_wp2_with fail
                        exact postS_mk _ rfl rfl (stage_keep (A := (stgs [S0])) (ps := []) (i := 18) rfl hs)
                      · obtain ⟨⟨(h17 : vals 17 = .int .i64 z), t17⟩, ⟨(h18 : vals 18 = .int .i64 z), t18⟩, ⟨(h14 : vals 14 = Value.bool false), t14⟩, _⟩ := hk
                        simp only [h17, h18, h14]
                        clear h17 h18 h14
                        go_wp2_with fail
                        exact postS_mk _ rfl rfl (stage_keep (A := (stgs [S0])) (ps := []) (i := 19) rfl hs)
                      · obtain ⟨⟨(h19 : vals 19 = .bool false), t19⟩, ⟨(h17 : vals 17 = .int .i64 z), t17⟩, ⟨(h14 : vals 14 = Value.bool false), t14⟩, _⟩ := hk
                        simp only [h19, h14]
                        clear h19 h17 h14
                        go_wp2_with fail
                        exact postS_mk _ rfl rfl (stage_keep (A := (stgs [S0])) (ps := []) (i := 20) rfl hs)
                      · obtain ⟨⟨(h20 : vals 20 = .bool false), t20⟩, _⟩ := hk
                        simp only [h20]
                        clear h20
                        go_wp2_with fail
                        exact postS_mk _ rfl rfl (stage_keep (A := (stgs [S0])) (ps := []) (i := 21) rfl hs)
                      · obtain ⟨⟨(h21 : vals 21 = undef), t21⟩, ⟨(h20 : vals 20 = .bool false), t20⟩, _, _⟩ := hk
                        simp only [h21, h20]
                        clear h21 h20
                        go_wp2_with fail
                        exact postS_mk _ rfl rfl (stage_keep (A := (stgs [S0])) (ps := []) (i := 22) rfl hs)
                      · obtain ⟨⟨(h22 : vals 22 = undef), t22⟩, ⟨(h20 : vals 20 = .bool false), t20⟩, _⟩ := hk
                        simp only [h22, h20]
                        clear h22 h20
                        go_wp2_with fail
                        exact postS_mk _ rfl rfl (stage_keep (A := (stgs [S0])) (ps := []) (i := 23) rfl hs)
                      · obtain ⟨⟨(h20 : vals 20 = .bool false), t20⟩, ⟨(h23 : vals 23 = undef), t23⟩, ⟨(h14 : vals 14 = Value.bool false), t14⟩, _⟩ := hk
                        simp only [h20, h23, h14]
                        clear h20 h23 h14
                        go_wp2_with fail
                        exact postS_mk _ rfl rfl (stage_keep (A := (stgs [S0])) (ps := []) (i := 24) rfl hs)
                      · obtain ⟨⟨(h14 : vals 14 = Value.bool false), t14⟩, ⟨(h24 : vals 24 = Value.bool false), t24⟩, _⟩ := hk
                        simp only [h14, h24]
                        clear h14 h24
                        go_wp2_with fail
                        exact postS_mk _ rfl rfl (stage_keep (A := (stgs [S0])) (ps := []) (i := 25) rfl hs)
                      · obtain ⟨⟨(h25 : vals 25 = Value.bool false), t25⟩, ⟨(h22 : vals 22 = undef), t22⟩, _⟩ := hk
                        simp only [h25]
                        clear h25 h22
                        go_wp2_with fail
                        exact postS_mk _ rfl rfl (stage_keep (A := (stgs [S0])) (ps := []) (i := 26) rfl hs)
                      · obtain ⟨⟨(h26 : vals 26 = Value.bool false), t26⟩, _⟩ := hk
                        simp only [h26]
                        clear h26
                        go_wp2_with fail
                        exact postS_mk _ rfl rfl (stage_keep (A := (stgs [S0])) (ps := []) (i := 27) rfl hs)
                      · obtain ⟨⟨(h27 : vals 27 = .pointer (some ⟨b, 0, none⟩)), t27⟩, ⟨(h26 : vals 26 = Value.bool false), t26⟩, _⟩ := hk
                        simp only [h27, h26]
                        clear h27 h26
                        go_wp2_with fail
                        exact postS_mk _ rfl rfl (stage_keep (A := (stgs [S0])) (ps := []) (i := 28) rfl hs)
                      · obtain ⟨⟨(h28 : vals 28 = .pointer (some ⟨b, 0, none⟩)), t28⟩, ⟨(h26 : vals 26 = Value.bool false), t26⟩, _⟩ := hk
                        simp only [h28, h26]
                        clear h28 h26
                        go_wp2_with fail
                        exact postS_mk _ rfl rfl (stage_keep (A := (stgs [S0])) (ps := []) (i := 29) rfl hs)
                      · obtain ⟨⟨(h29 : vals 29 = .pointer (some ⟨b, 9261, none⟩)), t29⟩, ⟨(h26 : vals 26 = Value.bool false), t26⟩, _⟩ := hk
                        simp only [h29, h26]
                        clear h29 h26
                        have hs1 := hs
                        have q := (ZC.out x hs1).2
                        go_wp2_with fail
                        exact postS_mk _ rfl rfl (stage_keep (A := (stgs [S0])) (ps := []) (i := 30) rfl hs)
                      · obtain ⟨⟨(h30 : vals 30 = .int .i64 255), t30⟩, ⟨(h26 : vals 26 = Value.bool false), t26⟩, _⟩ := hk
                        simp only [h30, h26]
                        clear h30 h26
                        go_wp2_with fail
                        exact postS_mk _ rfl rfl (stage_keep (A := (stgs [S0])) (ps := []) (i := 31) rfl hs)
                      · obtain ⟨⟨(h26 : vals 26 = Value.bool false), t26⟩, ⟨(h31 : vals 31 = .bool false), t31⟩, _⟩ := hk
                        simp only [h26, h31]
                        clear h26 h31
                        go_wp2_with fail
                        exact postS_mk _ rfl rfl (stage_keep (A := (stgs [S0])) (ps := []) (i := 32) rfl hs)
                    rintro vals dn x hall hs hv
                    obtain ⟨_, _, _, _, _, _, _, _, _, _, _, _, _, _, _, _, _, _, _, _, _, _, _, _, _, _, _, _, _, _, _, _, (h32 : vals 32 = .bool false), _⟩ := hv
                    simp only [h32]
                    clear h32
                    have hs : S0 x := hs
                    have XS := hide (ZX.out x hs).1
                    have OS := hide (ZX.out x hs).2
                    clear hs hall
                    go_wp2_with fail
                    go_roundw
                    case rel => first | exact ⟨i + 1, by omega, by omega, by go_num, XS.out, OS.out⟩ | ((repeat apply Exists.intro); exact ⟨⟨i + 1, by omega, by omega, by go_num, XS.out, OS.out⟩, rfl⟩)
                    case measure => simp [intOf]; omega
                  · obtain ⟨K, hK⟩ : ∃ K, kindW p = K := ⟨_, rfl⟩
                    have K0 : ¬ K = 0 := by rw [← hK]; unfold kindW; split; decide; split; omega; split; decide; split; decide; omega
                    have KW := hide (show ∀ w, HasPorts w → Calls Tryz.prog 8 #[.int .i64 p] w fun e w' => e = .returned (.agg #[.int .i64 K, .int .i64 (pageW p), .int .i64 (atW p)]) ∧ Below w.heap.size w w' from fun w h => by
                      have := where_any p w h
                      rw [hK] at this
                      exact this)
                    generalize pageW p = pg at KW
                    generalize atW p = pa at KW
                    clear hK
                    go_wp2_with (first
                      | (go_at_call 8; refine (KW.out _ X9.out.tabs.2.1).mono ?_; rintro e w7 ⟨rfl, b7⟩))
                    have b8 := bnext b7 ((Below.refl _ w7).alloc (Nat.le_refl _) (.cells #[.int .i64 K, .int .i64 pg, .int .i64 pa] 67))
                    go_roundw
                    case rel => first | exact ⟨i + 1, by omega, by omega, by go_num, X9.out.next b8, O9.out.trans (ex_below b8)⟩ | ((repeat apply Exists.intro); exact ⟨⟨i + 1, by omega, by omega, by go_num, X9.out.next b8, O9.out.trans (ex_below b8)⟩, rfl⟩)
                    case measure => simp [intOf]; omega
                · set_option maxRecDepth 20000 in
                  go_wp2_with fail
                  go_ret
                  exact ⟨rfl, BW.out⟩
              · set_option maxRecDepth 20000 in
                go_wp2_with fail
                go_ret
                exact ⟨rfl, BW.out⟩
end Go.Proofs.YthelklkfcllddaaGreatDoor
