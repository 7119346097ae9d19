/- For every number of bytes (18 bits of it), every row of bytes and every two numbers: an image of so many bytes is a card, or not, as the document says; its byte is told at its place. -/
import Derived.Test.YtlildknlkjoidaaDoorCardSay
import Derived.Test.YtlildknlkjoidaaDoorRef3
import Derived.Test.YtlildknlkjoidaaDoorTie
import Derived.Test.YtlildknlkjoidaaDoorCards
import Derived.Test.YtlildknlkjoidaaDoorArrays
import Derived.SevenTiedAt
import Derived.OpenShut
import Derived.ShutString
import Derived.ChangeOld
import Derived.Below
namespace Go.Proofs.YtlildknlkjoidaaDoor
open Go.ChangeShapes Go.WideShapes Go.ChangeAt Go.RowKit
open Go.ChangeMaps (open_string shut_string)
set_option linter.unusedVariables false
theorem own : ownKnob Tryd.prog.godebug = none := by kernel_rfl


set_option maxHeartbeats 1600000 in
theorem cardLoads_walk (a0 : Int) (a1 : Option Addr) (len1 cap1 : Nat) (z1 z2 : List Int) (w : World) (w0 : (Lit.int .i64 a0).wf = true) (w1 : IsRow .u8 w a1 len1 cap1 z1) (l2 : z2.length = 2) (w2 : ∀ z ∈ z2, (Lit.int .i64 z).wf = true) (hL : HasTab w ∧ HasErr w) :
    Calls Tryd.prog 3 #[.int .i64 a0, .slice a1 len1 cap1, .agg (z2.map (Value.int .i64)).toArray] w fun e w' => e = .returned (.bool true) ∧ Below w.heap.size w w' := by
  obtain ⟨x, y, rfl⟩ : ∃ x y, z2 = [x, y] := by
    match z2, l2 with
    | [x, y], _ => exact ⟨x, y, rfl⟩
  obtain ⟨hT, hE⟩ := hL
  obtain ⟨n, hn⟩ := Int.eq_ofNat_of_zero_le (show 0 ≤ a0 % 262144 by omega)
  have hn1 : n < 262144 := by omega
  have ea : bits .and .i64 a0 262143 = (n : Int) := by rw [and_262143, hn]
  have b0 : Below w.heap.size w (w.alloc (.cells #[.int .i64 x, .int .i64 y] 23)) := (Below.refl _ w).alloc (Nat.le_refl _) _
  have hs : (w.alloc (.cells #[.int .i64 x, .int .i64 y] 23)).heap.size = w.heap.size + 1 := by simp
  have X0 := hide (show (w.alloc (.cells #[.int .i64 x, .int .i64 y] 23)).cell? ⟨w.heap.size, 0, none⟩ = some (.int .i64 x) by simp)
  have Y0 := hide (show (w.alloc (.cells #[.int .i64 x, .int .i64 y] 23)).cell? ⟨w.heap.size, 1, none⟩ = some (.int .i64 y) by simp)
  have HT := hide hT
  have HE := hide hE
  have B0 := hide b0
  have r1 : IsRow .u8 (w.alloc (.cells #[.int .i64 x, .int .i64 y] 23)) a1 len1 cap1 z1 := w1.next b0
  clear hT hE b0 w0 l2 w2 hn w1
  by_cases hl : 50 < len1
  · have c1 := image_any n a1 50 cap1 z1 (w.alloc (.cells #[.int .i64 x, .int .i64 y] 23)) (by omega) (r1.cut (by omega))
    rw [hs] at c1
    obtain ⟨bb, off, rfl, _, h1, h2, _⟩ := r1.cells (by omega)
    have hcm : cap1 ≤ 9223372036854775807 := by simp [maxLen] at h2; omega
    have C1 := hide c1
    have HS := hide hs
    clear c1 hs r1 h2
    go_enter Tryd.func3, Tryd.ntmps3
    go_wp2_with fail
    refine C1.out.mono ?_
    rintro e w1 ⟨bs, hbl, rfl, hb, b1'⟩
    have b1 : Below (w.alloc (.cells #[.int .i64 x, .int .i64 y] 23)).heap.size (w.alloc (.cells #[.int .i64 x, .int .i64 y] 23)) w1 := by rw [HS.out]; exact b1'
    clear b1'
    have B1 := hide (bnext B0.out b1)
    have T1 := hide (HT.out.next B1.out)
    have E1 := hide (HE.out.next B1.out)
    have c2 := load_own (w.heap.size + 1) n bs w1 hb hbl (by omega) T1.out E1.out
    have x1 : w1.cell? ⟨w.heap.size, 0, none⟩ = some (.int .i64 x) := (b1.cell (cell_lt X0.out)).trans X0.out
    have y1 : w1.cell? ⟨w.heap.size, 1, none⟩ = some (.int .i64 y) := (b1.cell (cell_lt Y0.out)).trans Y0.out
    have X1 := hide x1
    have Y1 := hide y1
    have C3 := hide (fun w => rcheck_any n w (by omega))
    obtain ⟨f, hf⟩ : ∃ f, f = fromOf n := ⟨_, rfl⟩
    have hfn : f ≤ n := by rw [hf]; exact from_le n
    rw [← hf] at c2 C3
    obtain ⟨er, her⟩ : ∃ er, er = errOf (n - f) := ⟨_, rfl⟩
    rw [← her] at c2 C3
    have C2 := hide c2
    have HB := hide hb
    have HBL := hide hbl
    have HER := hide her
    clear c2 b1 hb hbl x1 y1 hf her
    go_wp2_with fail
    refine C2.out.mono ?_
    rintro e w2 ⟨⟨he, rfl⟩ | ⟨he, c, rfl, hc⟩, b2⟩
    · have B2 := hide (bnext B1.out b2)
      have C4 := hide (class_any (n : Int) w2 (HT.out.next B2.out))
      have x2 := hide ((b2.cell (cell_lt X1.out)).trans X1.out)
      have y2 := hide ((b2.cell (cell_lt Y1.out)).trans Y1.out)
      have he' : (er != 0) = true := by simpa using he
      clear b2
      go_wp2_with fail
      refine (C3.out _).mono ?_
      rintro e w3 ⟨rfl, hw⟩
      subst w3
      go_wp2_with fail
      refine C4.out.mono ?_
      rintro e w3 ⟨rfl, b3⟩
      have B3 := hide (bnext B2.out b3)
      have x3 : w3.cell? ⟨w.heap.size, 0, none⟩ = some (.int .i64 x) := (b3.cell (cell_lt x2.out)).trans x2.out
      have y3 : w3.cell? ⟨w.heap.size, 1, none⟩ = some (.int .i64 y) := (b3.cell (cell_lt y2.out)).trans y2.out
      clear b3
      go_wp2_with fail
      refine (rclass_any _ _).mono ?_
      rintro e w4 ⟨rfl, hw⟩
      subst w4
      go_wp2_with fail
      refine (byte_nil _ _ _).mono ?_
      rintro e w4 ⟨rfl, hw⟩
      subst w4
      go_wp2_with fail
      go_ret
      exact ⟨rfl, B3.out⟩
    · have B2 := hide (bnext B1.out b2)
      have C4 := hide (class_any (n : Int) w2 (HT.out.next B2.out))
      have x2 := hide ((b2.cell (cell_lt X1.out)).trans X1.out)
      have y2 := hide ((b2.cell (cell_lt Y1.out)).trans Y1.out)
      have hb2 := hide (HB.out.next b2)
      have HC := hide hc
      clear b2 hc
      subst he
      go_wp2_with fail
      refine (C3.out _).mono ?_
      rintro e w3 ⟨rfl, hw⟩
      subst w3
      go_wp2_with fail
      refine C4.out.mono ?_
      rintro e w3 ⟨rfl, b3⟩
      have B3 := hide (bnext B2.out b3)
      have x3 : w3.cell? ⟨w.heap.size, 0, none⟩ = some (.int .i64 x) := (b3.cell (cell_lt x2.out)).trans x2.out
      have y3 : w3.cell? ⟨w.heap.size, 1, none⟩ = some (.int .i64 y) := (b3.cell (cell_lt y2.out)).trans y2.out
      have hb3 := hide (hb2.out.next b3)
      have hc3 := hide (HC.out.next b3)
      clear b3
      have hdl := hide (show (bs.drop f).length = n - f by rw [List.length_drop, HBL.out])
      obtain ⟨p, hp⟩ : ∃ p : Int, p = (((n - f) / 8192 : Nat) : Int) := ⟨_, rfl⟩
      have hp1 : ((n : Int) - (f : Int)) / 8192 = p := by omega
      have p0 : 0 ≤ p := by omega
      have p1 : p * 8192 ≤ (n : Int) - f := by omega
      have CP := hide (fun w (h : IsCard w1.heap.size w c (bs.drop f)) => pages_any c (bs.drop f) w h (by rw [hdl.out]; omega))
      have CK := hide (kind_any c (bs.drop f) w3 hc3.out (by rw [hdl.out]; omega) (HT.out.next B3.out))
      have CB := hide (fun w (h : IsCard w1.heap.size w c (bs.drop f)) => byte_any c (bs.drop f) x y w h (by rw [hdl.out]; omega))
      rw [hdl.out, ← hp] at CP CK
      have HP := hide hp
      clear hp
      by_cases hin : 0 ≤ x ∧ x < p ∧ 0 ≤ y ∧ y < 8192
      · obtain ⟨i0, i1, i2, i3⟩ := hin
        have hx : (f : Int) + x * 8192 + y < n := by omega
        have hx0 : 0 ≤ (f : Int) + x * 8192 + y := by omega
        obtain ⟨hz, z0, z1⟩ := hb3.out.cell ((f : Int) + x * 8192 + y).toNat (by rw [HBL.out]; omega)
        have hby : byteOf (bs.drop f) x y = bs.getD ((f : Int) + x * 8192 + y).toNat 0 := by
          unfold byteOf
          rw [if_pos (by rw [hdl.out, ← HP.out]; exact ⟨i0, i1, i2, i3⟩)]
          rw [List.getD_eq_getElem?_getD, List.getD_eq_getElem?_getD, List.getElem?_drop]
          congr 2
          omega
        rw [hby] at CB
        generalize bs.getD ((f : Int) + x * 8192 + y).toNat 0 = z at *
        clear hby
        go_wp2_with (first | (go_at_call 12; refine (rclass_any _ _).mono ?_; rintro e w4 ⟨rfl, hw⟩; subst w4))
        refine (CP.out _ hc3.out).mono ?_
        rintro e w4 ⟨rfl, hw⟩
        subst w4
        go_wp2_with fail
        refine CK.out.mono ?_
        rintro e w5 ⟨rfl, b5⟩
        have B5 := hide (bnext B3.out b5)
        have hc5 := hide (hc3.out.next b5)
        have x5 : w5.cell? ⟨w.heap.size, 0, none⟩ = some (.int .i64 x) := (b5.cell (cell_lt x3)).trans x3
        have y5 : w5.cell? ⟨w.heap.size, 1, none⟩ = some (.int .i64 y) := (b5.cell (cell_lt y3)).trans y3
        clear b5
        go_wp2_with fail
        refine (CB.out _ hc5.out).mono ?_
        rintro e w6 ⟨rfl, hw⟩
        subst w6
        go_wp2_with fail
        go_ret
        exact ⟨rfl, B5.out⟩
      · have hby : byteOf (bs.drop f) x y = 255 := by
          unfold byteOf
          rw [if_neg (by rw [hdl.out, ← HP.out]; exact hin)]
        rw [hby] at CB
        clear hby
        by_cases k1 : x < 0
        · clear hin
          go_wp2_with (first | (go_at_call 12; refine (rclass_any _ _).mono ?_; rintro e w4 ⟨rfl, hw⟩; subst w4))
          refine (CP.out _ hc3.out).mono ?_
          rintro e w4 ⟨rfl, hw⟩
          subst w4
          go_wp2_with fail
          refine CK.out.mono ?_
          rintro e w5 ⟨rfl, b5⟩
          have B5 := hide (bnext B3.out b5)
          have hc5 := hide (hc3.out.next b5)
          have x5 : w5.cell? ⟨w.heap.size, 0, none⟩ = some (.int .i64 x) := (b5.cell (cell_lt x3)).trans x3
          have y5 : w5.cell? ⟨w.heap.size, 1, none⟩ = some (.int .i64 y) := (b5.cell (cell_lt y3)).trans y3
          clear b5
          go_wp2_with fail
          refine (CB.out _ hc5.out).mono ?_
          rintro e w6 ⟨rfl, hw⟩
          subst w6
          go_wp2_with fail
          go_ret
          exact ⟨rfl, B5.out⟩
        · by_cases k2 : p ≤ x
          · clear hin
            go_wp2_with (first | (go_at_call 12; refine (rclass_any _ _).mono ?_; rintro e w4 ⟨rfl, hw⟩; subst w4))
            refine (CP.out _ hc3.out).mono ?_
            rintro e w4 ⟨rfl, hw⟩
            subst w4
            go_wp2_with fail
            refine CK.out.mono ?_
            rintro e w5 ⟨rfl, b5⟩
            have B5 := hide (bnext B3.out b5)
            have hc5 := hide (hc3.out.next b5)
            have x5 : w5.cell? ⟨w.heap.size, 0, none⟩ = some (.int .i64 x) := (b5.cell (cell_lt x3)).trans x3
            have y5 : w5.cell? ⟨w.heap.size, 1, none⟩ = some (.int .i64 y) := (b5.cell (cell_lt y3)).trans y3
            clear b5
            go_wp2_with fail
            refine (CB.out _ hc5.out).mono ?_
            rintro e w6 ⟨rfl, hw⟩
            subst w6
            go_wp2_with fail
            go_ret
            exact ⟨rfl, B5.out⟩
          · by_cases k3 : y < 0
            · clear hin
              go_wp2_with (first | (go_at_call 12; refine (rclass_any _ _).mono ?_; rintro e w4 ⟨rfl, hw⟩; subst w4))
              refine (CP.out _ hc3.out).mono ?_
              rintro e w4 ⟨rfl, hw⟩
              subst w4
              go_wp2_with fail
              refine CK.out.mono ?_
              rintro e w5 ⟨rfl, b5⟩
              have B5 := hide (bnext B3.out b5)
              have hc5 := hide (hc3.out.next b5)
              have x5 : w5.cell? ⟨w.heap.size, 0, none⟩ = some (.int .i64 x) := (b5.cell (cell_lt x3)).trans x3
              have y5 : w5.cell? ⟨w.heap.size, 1, none⟩ = some (.int .i64 y) := (b5.cell (cell_lt y3)).trans y3
              clear b5
              go_wp2_with fail
              refine (CB.out _ hc5.out).mono ?_
              rintro e w6 ⟨rfl, hw⟩
              subst w6
              go_wp2_with fail
              go_ret
              exact ⟨rfl, B5.out⟩
            · have k4 : 8192 ≤ y := by omega
              clear hin
              go_wp2_with (first | (go_at_call 12; refine (rclass_any _ _).mono ?_; rintro e w4 ⟨rfl, hw⟩; subst w4))
              refine (CP.out _ hc3.out).mono ?_
              rintro e w4 ⟨rfl, hw⟩
              subst w4
              go_wp2_with fail
              refine CK.out.mono ?_
              rintro e w5 ⟨rfl, b5⟩
              have B5 := hide (bnext B3.out b5)
              have hc5 := hide (hc3.out.next b5)
              have x5 : w5.cell? ⟨w.heap.size, 0, none⟩ = some (.int .i64 x) := (b5.cell (cell_lt x3)).trans x3
              have y5 : w5.cell? ⟨w.heap.size, 1, none⟩ = some (.int .i64 y) := (b5.cell (cell_lt y3)).trans y3
              clear b5
              go_wp2_with fail
              refine (CB.out _ hc5.out).mono ?_
              rintro e w6 ⟨rfl, hw⟩
              subst w6
              go_wp2_with fail
              go_ret
              exact ⟨rfl, B5.out⟩
  · have c1 := image_any n a1 len1 cap1 z1 (w.alloc (.cells #[.int .i64 x, .int .i64 y] 23)) (by omega) r1
    rw [hs] at c1
    have C1 := hide c1
    have HS := hide hs
    clear c1 hs r1
    go_enter Tryd.func3, Tryd.ntmps3
    go_wp2_with fail
    refine C1.out.mono ?_
    rintro e w1 ⟨bs, hbl, rfl, hb, b1'⟩
    have b1 : Below (w.alloc (.cells #[.int .i64 x, .int .i64 y] 23)).heap.size (w.alloc (.cells #[.int .i64 x, .int .i64 y] 23)) w1 := by rw [HS.out]; exact b1'
    clear b1'
    have B1 := hide (bnext B0.out b1)
    have T1 := hide (HT.out.next B1.out)
    have E1 := hide (HE.out.next B1.out)
    have c2 := load_own (w.heap.size + 1) n bs w1 hb hbl (by omega) T1.out E1.out
    have x1 : w1.cell? ⟨w.heap.size, 0, none⟩ = some (.int .i64 x) := (b1.cell (cell_lt X0.out)).trans X0.out
    have y1 : w1.cell? ⟨w.heap.size, 1, none⟩ = some (.int .i64 y) := (b1.cell (cell_lt Y0.out)).trans Y0.out
    have X1 := hide x1
    have Y1 := hide y1
    have C3 := hide (fun w => rcheck_any n w (by omega))
    obtain ⟨f, hf⟩ : ∃ f, f = fromOf n := ⟨_, rfl⟩
    have hfn : f ≤ n := by rw [hf]; exact from_le n
    rw [← hf] at c2 C3
    obtain ⟨er, her⟩ : ∃ er, er = errOf (n - f) := ⟨_, rfl⟩
    rw [← her] at c2 C3
    have C2 := hide c2
    have HB := hide hb
    have HBL := hide hbl
    have HER := hide her
    clear c2 b1 hb hbl x1 y1 hf her
    go_wp2_with fail
    refine C2.out.mono ?_
    rintro e w2 ⟨⟨he, rfl⟩ | ⟨he, c, rfl, hc⟩, b2⟩
    · have B2 := hide (bnext B1.out b2)
      have C4 := hide (class_any (n : Int) w2 (HT.out.next B2.out))
      have x2 := hide ((b2.cell (cell_lt X1.out)).trans X1.out)
      have y2 := hide ((b2.cell (cell_lt Y1.out)).trans Y1.out)
      have he' : (er != 0) = true := by simpa using he
      clear b2
      go_wp2_with fail
      refine (C3.out _).mono ?_
      rintro e w3 ⟨rfl, hw⟩
      subst w3
      go_wp2_with fail
      refine C4.out.mono ?_
      rintro e w3 ⟨rfl, b3⟩
      have B3 := hide (bnext B2.out b3)
      have x3 : w3.cell? ⟨w.heap.size, 0, none⟩ = some (.int .i64 x) := (b3.cell (cell_lt x2.out)).trans x2.out
      have y3 : w3.cell? ⟨w.heap.size, 1, none⟩ = some (.int .i64 y) := (b3.cell (cell_lt y2.out)).trans y2.out
      clear b3
      go_wp2_with fail
      refine (rclass_any _ _).mono ?_
      rintro e w4 ⟨rfl, hw⟩
      subst w4
      go_wp2_with fail
      refine (byte_nil _ _ _).mono ?_
      rintro e w4 ⟨rfl, hw⟩
      subst w4
      go_wp2_with fail
      go_ret
      exact ⟨rfl, B3.out⟩
    · have B2 := hide (bnext B1.out b2)
      have C4 := hide (class_any (n : Int) w2 (HT.out.next B2.out))
      have x2 := hide ((b2.cell (cell_lt X1.out)).trans X1.out)
      have y2 := hide ((b2.cell (cell_lt Y1.out)).trans Y1.out)
      have hb2 := hide (HB.out.next b2)
      have HC := hide hc
      clear b2 hc
      subst he
      go_wp2_with fail
      refine (C3.out _).mono ?_
      rintro e w3 ⟨rfl, hw⟩
      subst w3
      go_wp2_with fail
      refine C4.out.mono ?_
      rintro e w3 ⟨rfl, b3⟩
      have B3 := hide (bnext B2.out b3)
      have x3 : w3.cell? ⟨w.heap.size, 0, none⟩ = some (.int .i64 x) := (b3.cell (cell_lt x2.out)).trans x2.out
      have y3 : w3.cell? ⟨w.heap.size, 1, none⟩ = some (.int .i64 y) := (b3.cell (cell_lt y2.out)).trans y2.out
      have hb3 := hide (hb2.out.next b3)
      have hc3 := hide (HC.out.next b3)
      clear b3
      have hdl := hide (show (bs.drop f).length = n - f by rw [List.length_drop, HBL.out])
      obtain ⟨p, hp⟩ : ∃ p : Int, p = (((n - f) / 8192 : Nat) : Int) := ⟨_, rfl⟩
      have hp1 : ((n : Int) - (f : Int)) / 8192 = p := by omega
      have p0 : 0 ≤ p := by omega
      have p1 : p * 8192 ≤ (n : Int) - f := by omega
      have CP := hide (fun w (h : IsCard w1.heap.size w c (bs.drop f)) => pages_any c (bs.drop f) w h (by rw [hdl.out]; omega))
      have CK := hide (kind_any c (bs.drop f) w3 hc3.out (by rw [hdl.out]; omega) (HT.out.next B3.out))
      have CB := hide (fun w (h : IsCard w1.heap.size w c (bs.drop f)) => byte_any c (bs.drop f) x y w h (by rw [hdl.out]; omega))
      rw [hdl.out, ← hp] at CP CK
      have HP := hide hp
      clear hp
      by_cases hin : 0 ≤ x ∧ x < p ∧ 0 ≤ y ∧ y < 8192
      · obtain ⟨i0, i1, i2, i3⟩ := hin
        have hx : (f : Int) + x * 8192 + y < n := by omega
        have hx0 : 0 ≤ (f : Int) + x * 8192 + y := by omega
        obtain ⟨hz, z0, z1⟩ := hb3.out.cell ((f : Int) + x * 8192 + y).toNat (by rw [HBL.out]; omega)
        have hby : byteOf (bs.drop f) x y = bs.getD ((f : Int) + x * 8192 + y).toNat 0 := by
          unfold byteOf
          rw [if_pos (by rw [hdl.out, ← HP.out]; exact ⟨i0, i1, i2, i3⟩)]
          rw [List.getD_eq_getElem?_getD, List.getD_eq_getElem?_getD, List.getElem?_drop]
          congr 2
          omega
        rw [hby] at CB
        generalize bs.getD ((f : Int) + x * 8192 + y).toNat 0 = z at *
        clear hby
        go_wp2_with (first | (go_at_call 12; refine (rclass_any _ _).mono ?_; rintro e w4 ⟨rfl, hw⟩; subst w4))
        refine (CP.out _ hc3.out).mono ?_
        rintro e w4 ⟨rfl, hw⟩
        subst w4
        go_wp2_with fail
        refine CK.out.mono ?_
        rintro e w5 ⟨rfl, b5⟩
        have B5 := hide (bnext B3.out b5)
        have hc5 := hide (hc3.out.next b5)
        have x5 : w5.cell? ⟨w.heap.size, 0, none⟩ = some (.int .i64 x) := (b5.cell (cell_lt x3)).trans x3
        have y5 : w5.cell? ⟨w.heap.size, 1, none⟩ = some (.int .i64 y) := (b5.cell (cell_lt y3)).trans y3
        clear b5
        go_wp2_with fail
        refine (CB.out _ hc5.out).mono ?_
        rintro e w6 ⟨rfl, hw⟩
        subst w6
        go_wp2_with fail
        go_ret
        exact ⟨rfl, B5.out⟩
      · have hby : byteOf (bs.drop f) x y = 255 := by
          unfold byteOf
          rw [if_neg (by rw [hdl.out, ← HP.out]; exact hin)]
        rw [hby] at CB
        clear hby
        by_cases k1 : x < 0
        · clear hin
          go_wp2_with (first | (go_at_call 12; refine (rclass_any _ _).mono ?_; rintro e w4 ⟨rfl, hw⟩; subst w4))
          refine (CP.out _ hc3.out).mono ?_
          rintro e w4 ⟨rfl, hw⟩
          subst w4
          go_wp2_with fail
          refine CK.out.mono ?_
          rintro e w5 ⟨rfl, b5⟩
          have B5 := hide (bnext B3.out b5)
          have hc5 := hide (hc3.out.next b5)
          have x5 : w5.cell? ⟨w.heap.size, 0, none⟩ = some (.int .i64 x) := (b5.cell (cell_lt x3)).trans x3
          have y5 : w5.cell? ⟨w.heap.size, 1, none⟩ = some (.int .i64 y) := (b5.cell (cell_lt y3)).trans y3
          clear b5
          go_wp2_with fail
          refine (CB.out _ hc5.out).mono ?_
          rintro e w6 ⟨rfl, hw⟩
          subst w6
          go_wp2_with fail
          go_ret
          exact ⟨rfl, B5.out⟩
        · by_cases k2 : p ≤ x
          · clear hin
            go_wp2_with (first | (go_at_call 12; refine (rclass_any _ _).mono ?_; rintro e w4 ⟨rfl, hw⟩; subst w4))
            refine (CP.out _ hc3.out).mono ?_
            rintro e w4 ⟨rfl, hw⟩
            subst w4
            go_wp2_with fail
            refine CK.out.mono ?_
            rintro e w5 ⟨rfl, b5⟩
            have B5 := hide (bnext B3.out b5)
            have hc5 := hide (hc3.out.next b5)
            have x5 : w5.cell? ⟨w.heap.size, 0, none⟩ = some (.int .i64 x) := (b5.cell (cell_lt x3)).trans x3
            have y5 : w5.cell? ⟨w.heap.size, 1, none⟩ = some (.int .i64 y) := (b5.cell (cell_lt y3)).trans y3
            clear b5
            go_wp2_with fail
            refine (CB.out _ hc5.out).mono ?_
            rintro e w6 ⟨rfl, hw⟩
            subst w6
            go_wp2_with fail
            go_ret
            exact ⟨rfl, B5.out⟩
          · by_cases k3 : y < 0
            · clear hin
              go_wp2_with (first | (go_at_call 12; refine (rclass_any _ _).mono ?_; rintro e w4 ⟨rfl, hw⟩; subst w4))
              refine (CP.out _ hc3.out).mono ?_
              rintro e w4 ⟨rfl, hw⟩
              subst w4
              go_wp2_with fail
              refine CK.out.mono ?_
              rintro e w5 ⟨rfl, b5⟩
              have B5 := hide (bnext B3.out b5)
              have hc5 := hide (hc3.out.next b5)
              have x5 : w5.cell? ⟨w.heap.size, 0, none⟩ = some (.int .i64 x) := (b5.cell (cell_lt x3)).trans x3
              have y5 : w5.cell? ⟨w.heap.size, 1, none⟩ = some (.int .i64 y) := (b5.cell (cell_lt y3)).trans y3
              clear b5
              go_wp2_with fail
              refine (CB.out _ hc5.out).mono ?_
              rintro e w6 ⟨rfl, hw⟩
              subst w6
              go_wp2_with fail
              go_ret
              exact ⟨rfl, B5.out⟩
            · have k4 : 8192 ≤ y := by omega
              clear hin
              go_wp2_with (first | (go_at_call 12; refine (rclass_any _ _).mono ?_; rintro e w4 ⟨rfl, hw⟩; subst w4))
              refine (CP.out _ hc3.out).mono ?_
              rintro e w4 ⟨rfl, hw⟩
              subst w4
              go_wp2_with fail
              refine CK.out.mono ?_
              rintro e w5 ⟨rfl, b5⟩
              have B5 := hide (bnext B3.out b5)
              have hc5 := hide (hc3.out.next b5)
              have x5 : w5.cell? ⟨w.heap.size, 0, none⟩ = some (.int .i64 x) := (b5.cell (cell_lt x3)).trans x3
              have y5 : w5.cell? ⟨w.heap.size, 1, none⟩ = some (.int .i64 y) := (b5.cell (cell_lt y3)).trans y3
              clear b5
              go_wp2_with fail
              refine (CB.out _ hc5.out).mono ?_
              rintro e w6 ⟨rfl, hw⟩
              subst w6
              go_wp2_with fail
              go_ret
              exact ⟨rfl, B5.out⟩
set_option maxRecDepth 100000 in
theorem cardLoads_lifted (os : Os) (started : os.Started) (H : Type) (enc : TypeId × Value → H) :
    ReturnsInHanded {} Tryd.checked os 3 .any (fun w args => (Rows.cardLoadsSpec.pre enc Tryd.prog Tryd.f3 [] false w args ∧ laidMetH Tryd.prog laidBoth w) ∧ sizedMet enc Tryd.prog Tryd.f3 (OpenSpec.ofChange Rows.cardLoadsSpec) false w args)
      (Rows.cardLoadsSpec.post enc Tryd.prog Tryd.f3 false true false false) := by
  refine returnsInHanded_of_change_and (C := Tryd.checked) (X := fun w _ => laidMetH Tryd.prog laidBoth w) (fun _ _ _ hh h => h.of_heap hh) own started (by kernel_rfl) Tryd.func3
    (ChangeSpec.witness_at (enc := enc) (C := Tryd.checked) (os := os) (X := fun w _ => laidMetH Tryd.prog laidBoth w) false (laidWorld os) #[.int .i64 0, .slice none 0 0, .agg #[.int .i64 0, .int .i64 0]] 8 rfl (by kernel_rfl) (by kernel_rfl) (by kernel_rfl) (by kernel_rfl) (by kernel_rfl) (laidWorld_both os _)) ?_
  intro W base args ds gs before hval0 hW _ _ hL _
  have hval : ∀ (j : Nat) t v, Tryd.f3.params[j]? = some t → args[j]? = some v → Value.okWide Tryd.prog W .any base t v := hval0
  have hW' := hW
  obtain ⟨p, q, hA0, hV, rfl, hfz, hnd⟩ := hW
  have hA : DataW.TrodAll enc Tryd.prog W 0 (fun _ => true) true Tryd.f3.params.toList args.toList ds p := hA0
  rw [Tryd.params3] at hA hval
  obtain ⟨v0, vs0, d0, ds0, p0, q0, hargs, rfl, rfl, h0, r0⟩ := trodAll_cons hA
  obtain ⟨v1, vs1, d1, ds1, p1, q1, rfl, rfl, rfl, h1, r1⟩ := trodAll_cons r0
  obtain ⟨v2, vs2, d2, ds2, p2, q2, rfl, rfl, rfl, h2, r2⟩ := trodAll_cons r1
  obtain ⟨rfl, rfl, rfl⟩ := trodAll_nil r2
  obtain rfl : args = #[v0, v1, v2] := by cases args; simp_all
  obtain ⟨rfl, rfl⟩ := trodVars_none hV
  obtain ⟨a0, rfl, rfl, rfl, w0⟩ := open_int Tryd.underlying3 (hval 0 3 v0 rfl rfl) h0
  obtain ⟨a1, len1, cap1, rfl⟩ := okWide_slice Tryd.underlying22 (hval 1 22 v1 rfl rfl)
  have k1 := h1
  have lt1 : ∀ x ∈ p1, x.block < W.heap.size := by obtain ⟨m, hm⟩ := k1; exact DataW.trod_lt m _ _ _ hm
  obtain ⟨z1, w1⟩ : ∃ zs, IsRow .u8 W a1 len1 cap1 zs := by
    obtain ⟨fuel, hf⟩ := h1
    rcases open_ints Tryd.underlying22 Tryd.underlying5 (by kernel_rfl) hf with ⟨hcs, _⟩ | ⟨x, l, c, zs, hcs, _, hl, hm, hz, _, hcell, hwz⟩
    · simp [Value.cells] at hcs
      obtain ⟨rfl, rfl, rfl⟩ := hcs
      exact ⟨[], .inl ⟨rfl, rfl, rfl, rfl⟩⟩
    · simp [Value.cells] at hcs
      obtain ⟨rfl, rfl, rfl⟩ := hcs
      exact ⟨zs, .inr ⟨_, rfl, hl, hm, by simpa using hz, hcell, hwz⟩⟩
  have k2 := h2
  have lt2 : ∀ x ∈ p2, x.block < W.heap.size := by obtain ⟨m, hm⟩ := k2; exact DataW.trod_lt m _ _ _ hm
  obtain ⟨z2, l2, rfl, w2⟩ := open_array_ints Tryd.underlying23 Tryd.underlying3 (by kernel_rfl) (by kernel_rfl) (hval 2 23 v2 rfl rfl) h2
  clear hA0 hval0
  refine (cardLoads_walk a0 a1 len1 cap1 z1 z2 W w0 w1 l2 w2 (laid_both hL)).mono fun e W' ⟨he, bel⟩ => ?_
  subst he
  exact ⟨_, rfl, _, _, _, [], _, [], hW', trodAll_mk1 (shut_bool Tryd.underlying4 _), (trodAll_cons_mk (shut_int Tryd.underlying3 w0) (trodAll_cons_mk (Below.trod laidOut (by kernel_rfl) (of_decide_eq_true (by kernel_rfl)) k1 bel lt1) (trodAll_cons_mk (Below.trod laidOut (by kernel_rfl) (of_decide_eq_true (by kernel_rfl)) k2 bel lt2) trodAll_mk0))), rfl, bel.frame _, fun h => by cases h⟩

theorem cardLoads_over : Rows.cardLoadsRow.holds Tryd.pinned (OpenSpec.ofChange Rows.cardLoadsSpec) :=
  OpenClaim.holds_of_wide 3 Tryd.f3 rfl rfl rfl rfl rfl rfl rfl ⟨rfl, rfl, rfl, rfl, rfl⟩ rfl rfl rfl rfl rfl (by kernel_rfl) Tryd.func3 (by kernel_rfl)
    (of_decide_eq_true (by kernel_rfl)) (by unfold Func.isWrapper; first | (rw [if_pos (by decide +kernel)]; kernel_rfl) | (rw [if_neg (by decide +kernel)]; exact ⟨rfl, rfl⟩))
    (fun os started H enc _ => cardLoads_lifted os started H enc)

theorem cardLoads_row : Rows.CardLoadsSaid := cardLoads_over

theorem cardLoads_holds : Rows.CardLoadsCardSaid :=
  Claim7.holds_tied_plain_at .later [] [.handle, .data] true (true, "fa813e7ee2e711e421d121c85e3db63a12c0d559205366ec6eb0bff58998939a") true
    cardLoads_row (fun _ h => by cases h) (by kernel_rfl) (fun _ h => by cases h) cardLoads_row_tie rfl ⟨rfl, rfl⟩ (by kernel_rfl) rfl
    (fun f fn hf hfn => by
      obtain rfl : f = 3 := Option.some.inj ((show Tryd.prog.funcNamed "phosphor/phosphorlaw03.CardLoads" = some 3 by kernel_rfl).symm.trans hf) |>.symm
      obtain rfl : fn = Tryd.f3 := (Option.some.inj (Tryd.func3.symm.trans hfn)).symm
      exact ⟨by kernel_rfl, fun j t ht => by
        rw [Tryd.params3] at ht
        rcases j with _ | _ | _ | j
        · obtain rfl : t = 3 := by simpa using ht.symm
          exact (show Tryd.prog.wantsStandIn 3 = false by kernel_rfl)
        · obtain rfl : t = 22 := by simpa using ht.symm
          exact (show Tryd.prog.wantsStandIn 22 = false by kernel_rfl)
        · obtain rfl : t = 23 := by simpa using ht.symm
          exact (show Tryd.prog.wantsStandIn 23 = false by kernel_rfl)
        · simp at ht⟩)
    (by kernel_rfl)
#print axioms cardLoads_holds
end Go.Proofs.YtlildknlkjoidaaDoor
