/- For every number of pages (three bits of it), every row of bytes and every place: an image with a header is the card that it is without it; what is handed in is not kept. -/
import Derived.Test.YtlildknlkjoidaaDoorCardSay
import Derived.Test.YtlildknlkjoidaaDoorTie
import Derived.Test.YtlildknlkjoidaaDoorCards
import Derived.Test.YtlildknlkjoidaaDoorArrays
import Derived.SevenTiedAt
import Derived.OpenShut
import Derived.ShutString
import Derived.ChangeOld
import Derived.Below
import Derived.OwnWalk
import Derived.Laws.AppendOwn
namespace Go.Proofs.YtlildknlkjoidaaDoor
open Go.ChangeShapes Go.WideShapes Go.ChangeAt Go.RowKit
open Go.ChangeMaps (open_string shut_string)
set_option linter.unusedVariables false
theorem own : ownKnob Tryd.prog.godebug = none := by kernel_rfl


theorem owned_bytes {T : TypeId} {B n : Nat} {w : World} {v : Value} {xs : List Int} (h : w.ownsRow B T 1 v n (xs.map (Value.int .u8))) (hn : 0 < n) :
    ∃ g cap, v = .slice (some ⟨g, 0, none⟩) n cap ∧ B ≤ g ∧ g < w.heap.size ∧ n ≤ cap ∧ cap ≤ 9223372036854775807 ∧ xs.length = n ∧ ∀ i, i < xs.length → w.cell? ⟨g, 0 + i, none⟩ = some (.int .u8 (xs.getD i 0)) := by
  obtain ⟨hl, ⟨_, h0⟩ | ⟨g, cap, cur, rfl, hB, hg, hc, hm, hs, ht⟩⟩ := h
  · omega
  · have hl2 : xs.length = n := by simpa using hl
    refine ⟨g, cap, rfl, hB, ?_, hc, by simpa [maxLen] using hm, hl2, fun i hi => ?_⟩
    · rcases Nat.lt_or_ge g w.heap.size with k | k
      · exact k
      · rw [Array.getElem?_eq_none k] at hg; cases hg
    · rw [Nat.zero_add, cell_of_row w g i cur T (0, 0) hg]
      have e1 : (cur.toList.take (n * 1))[i]? = cur[i]? := by
        rw [List.getElem?_take]
        rw [if_pos (by omega)]
        simp
      rw [← e1, ht]
      simp [hi]

theorem addr_add (g j : Nat) : (⟨g, 0, none⟩ : Addr).add j = ⟨g, j, none⟩ := by
  unfold Addr.add; split <;> simp_all
theorem bs_drop {zr bs : List Int} (h : zr.length = 512) : (zr ++ bs).drop 512 = bs := by
  rw [← h, List.drop_left]
theorem from_512 {n : Nat} (h : n % 8192 = 0) : fromOf (512 + n) = 512 := by unfold fromOf; rw [if_pos (by omega)]
theorem from_0 {n : Nat} (h : n % 8192 = 0) : fromOf n = 0 := by unfold fromOf; rw [if_neg (by omega)]


set_option maxRecDepth 20000 in
set_option maxHeartbeats 1600000 in
theorem cardHeader_walk (a0 : Int) (a1 : Option Addr) (len1 cap1 : Nat) (z1 : List Int) (a2 : Int) (w : World) (w0 : (Lit.int .i64 a0).wf = true) (w1 : IsRow .u8 w a1 len1 cap1 z1) (w2 : (Lit.int .i64 a2).wf = true) (hL : HasTab w ∧ HasErr w) :
    Calls Tryd.prog 5 #[.int .i64 a0, .slice a1 len1 cap1, .int .i64 a2] w fun e w' => e = .returned (.bool true) ∧ Below w.heap.size w w' := by
  obtain ⟨hT, hE⟩ := hL
  obtain ⟨p, hp⟩ := Int.eq_ofNat_of_zero_le (show 0 ≤ a0 % 8 by omega)
  have hp1 : p < 8 := by omega
  have ea : bits .and .i64 a0 7 = (p : Int) := by rw [and_7, hp]
  obtain ⟨n, hn⟩ : ∃ n, n = p * 8192 := ⟨_, rfl⟩
  have hn8 := hide (show n % 8192 = 0 by omega)
  have hn1 : n ≤ 57344 := by omega
  have hpn : (p : Int) * 8192 = (n : Int) := by omega
  obtain ⟨r, hr⟩ : ∃ r, r = a2 % 8192 := ⟨_, rfl⟩
  have r0 : 0 ≤ r := by omega
  have r1 : r < 8192 := by omega
  have er : bits .and .i64 a2 8191 = r := by rw [and_8191, hr]
  obtain ⟨i0, hi, hz0, hz1, hz2⟩ := info_parts Tryd.info5
  have hi := hide hi
  have hz0 := hide hz0
  have hz1 := hide hz1
  have hz2 := hide hz2
  obtain ⟨zr, hzr⟩ : ∃ zr, zr = List.replicate 512 (0 : Int) := ⟨_, rfl⟩
  have ZL : Hid (zr.length = 512) := by rw [hzr]; exact List.length_replicate
  have ZB : Hid (∀ z ∈ zr, 0 ≤ z ∧ z < 256) := by rw [hzr]; intro z hz; rw [List.eq_of_mem_replicate hz]; omega
  have HZ := hide hzr
  have HT := hide hT
  have HE := hide hE
  have HN := hide hn
  clear hT hE w0 w2 hp hn hr hzr
  by_cases hl : 50 < len1
  · have C1 := hide (image_any n a1 50 cap1 z1 w (by omega) (w1.cut (by omega)))
    obtain ⟨bb, off, rfl, _, h1, h2, _⟩ := w1.cells (by omega)
    have hcm : cap1 ≤ 9223372036854775807 := by simp [maxLen] at h2; omega
    clear w1 h2
    go_enter Tryd.func5, Tryd.ntmps5
    go_wp2_with fail
    refine C1.out.mono ?_
    rintro e w1 ⟨bs, hbl, rfl, hb, b1⟩
    have B1 := hide b1
    have c2 := load_own w.heap.size n bs w1 hb hbl (by omega) (HT.out.next b1) (HE.out.next b1)
    rw [from_0 hn8.out, Nat.sub_zero, List.drop_zero] at c2
    obtain ⟨er, her⟩ : ∃ er, er = errOf n := ⟨_, rfl⟩
    rw [← her] at c2
    have q0 : p = 0 → er = 10 := by intro h; rw [her, HN.out, h]; decide
    have q1 : p = 1 → er = 0 := by intro h; rw [her, HN.out, h]; decide
    have q3 : p = 3 → er = 13 := by intro h; rw [her, HN.out, h]; decide
    have Q0 := hide q0
    have Q1 := hide q1
    have Q3 := hide q3
    have C2 := hide c2
    have HB := hide hb
    have HBL := hide hbl
    have HER := hide her
    clear c2 b1 hb hbl her q0 q1 q3
    go_wp2_with fail
    refine C2.out.mono ?_
    rintro e w2 ⟨⟨he, rfl⟩ | ⟨he, c, rfl, hc⟩, b2⟩
    · have B2 := hide (bnext B1.out b2)
      have hb2 := hide (HB.out.next b2)
      clear b2
      have hmk : (Instr.makeSlice 22 (.int .i64 512) (.int .i64 512)).run Tryd.prog w2 = .ok (.slice (some ⟨w2.heap.size, 0, none⟩) 512 512) (w2.alloc (.cells (zr.map (Value.int .u8)).toArray 5)) := by rw [HZ.out]; exact mk_bytes 512 (by decide) w2
      obtain ⟨w4, hw4⟩ : ∃ w4, w4 = (w2.alloc (.cells (zr.map (Value.int .u8)).toArray 5)) := ⟨_, rfl⟩
      rw [← hw4] at hmk
      have B4 : Hid (Below w2.heap.size w2 w4) := by rw [hw4]; exact (Below.refl _ w2).alloc (Nat.le_refl _) _
      have O4 : Hid (w4.ownsRow w2.heap.size 5 1 (.slice (some ⟨w2.heap.size, 0, none⟩) 512 512) 512 (zr.map (Value.int .u8))) := by
        refine ⟨by simp [ZL.out], .inr ⟨_, 512, (zr.map (Value.int .u8)).toArray, rfl, Nat.le_refl _, ?_, Nat.le_refl _, by decide, by simp [ZL.out], List.take_of_length_le (by simp [ZL.out])⟩⟩
        rw [hw4]
        exact heap_alloc_new w2 _
      have N4 : Hid (∀ j u, (bs.map (Value.int .u8))[j]? = some u → w4.cell? ((⟨w.heap.size, 0, none⟩ : Addr).add j) = some u) := by
        intro j u hj
        have hj' : j < bs.length := by
          rcases Nat.lt_or_ge j bs.length with h | h
          · exact h
          · rw [List.getElem?_eq_none (by simpa using h)] at hj; cases hj
        rw [addr_add, ((hb2.out.next B4.out).cell j hj').1]
        simpa [hj'] using hj
      clear hw4
      go_wp2_with (first | (at_builtin; refine wpList_append_own _ rfl (.tmp 30) (.tmp 31) 22 rfl w2.heap.size 5 i0 (.int .u8 0) 1 1 Tryd.underlying22 hi.out hz0.out hz1.out hz2.out rfl (by decide) _ 512 _ rfl O4.out ⟨w.heap.size, 0, none⟩ n n (bs.map (Value.int .u8)) rfl (by simp [HBL.out]) N4.out (by intro v hv; simp at hv; obtain ⟨z, _, rfl⟩ := hv; rfl) (by simp [maxLen]; omega) (by omega) B4.out.size ?_; intro v6 w6 o6 g6 _; rw [← List.map_append] at o6; obtain ⟨gg, cap6, rfl, hB6, hgg, hcc, hcm, hlen, hrow⟩ := owned_bytes o6 (by omega)))
      have b6 : Below w2.heap.size w2 w6 := B4.out.grown g6 B4.out.size (by intro k hk; cases hk; exact Nat.le_refl _)
      have B6 := hide (bnext B2.out b6)
      have hb6 := hide (hb2.out.next b6)
      have hbb : ∀ z ∈ zr ++ bs, 0 ≤ z ∧ z < 256 := fun z hz => (List.mem_append.1 hz).elim (ZB.out z) (hb6.out.2 z)
      have cl := load_any gg 0 cap6 (zr ++ bs) w6 hrow hbb (by rw [hlen]; omega) (by rw [hlen]; exact hcc) hcm hgg (HT.out.next B6.out) (HE.out.next B6.out)
      rw [hlen, from_512 hn8.out, Nat.add_sub_cancel_left, ← HER.out, bs_drop ZL.out] at cl
      have CL := hide cl
      clear cl o6 g6 hrow hlen hcc hcm hgg hB6 hbb
      refine CL.out.mono ?_
      rintro e w7 ⟨⟨_, rfl⟩ | ⟨h, _⟩, b7⟩
      · have B7 := hide (bnext B6.out b7)
        have he' : (er != 0) = true := by simpa using he
        clear b7 b6
        by_cases p0 : p = 0
        · have e0 := Q0.out p0
          subst p0
          subst e0
          go_wp2_with fail
          go_ret
          exact ⟨rfl, B7.out⟩
        · by_cases p3 : p = 3
          · have e0 := Q3.out p3
            subst p3
            subst e0
            go_wp2_with fail
            go_ret
            exact ⟨rfl, B7.out⟩
          · have p1 : ¬ p = 1 := fun h => he (Q1.out h)
            have p0' : ¬ (p : Int) = 0 := by omega
            have p1' : ¬ (p : Int) = 1 := by omega
            have p3' : ¬ (p : Int) = 3 := by omega
            go_wp2_with fail
            go_ret
            exact ⟨rfl, B7.out⟩
      · exact absurd h he
    · have B2 := hide (bnext B1.out b2)
      have hb2 := hide (HB.out.next b2)
      have HC := hide hc
      clear b2 hc
      have hmk : (Instr.makeSlice 22 (.int .i64 512) (.int .i64 512)).run Tryd.prog w2 = .ok (.slice (some ⟨w2.heap.size, 0, none⟩) 512 512) (w2.alloc (.cells (zr.map (Value.int .u8)).toArray 5)) := by rw [HZ.out]; exact mk_bytes 512 (by decide) w2
      obtain ⟨w4, hw4⟩ : ∃ w4, w4 = (w2.alloc (.cells (zr.map (Value.int .u8)).toArray 5)) := ⟨_, rfl⟩
      rw [← hw4] at hmk
      have B4 : Hid (Below w2.heap.size w2 w4) := by rw [hw4]; exact (Below.refl _ w2).alloc (Nat.le_refl _) _
      have O4 : Hid (w4.ownsRow w2.heap.size 5 1 (.slice (some ⟨w2.heap.size, 0, none⟩) 512 512) 512 (zr.map (Value.int .u8))) := by
        refine ⟨by simp [ZL.out], .inr ⟨_, 512, (zr.map (Value.int .u8)).toArray, rfl, Nat.le_refl _, ?_, Nat.le_refl _, by decide, by simp [ZL.out], List.take_of_length_le (by simp [ZL.out])⟩⟩
        rw [hw4]
        exact heap_alloc_new w2 _
      have N4 : Hid (∀ j u, (bs.map (Value.int .u8))[j]? = some u → w4.cell? ((⟨w.heap.size, 0, none⟩ : Addr).add j) = some u) := by
        intro j u hj
        have hj' : j < bs.length := by
          rcases Nat.lt_or_ge j bs.length with h | h
          · exact h
          · rw [List.getElem?_eq_none (by simpa using h)] at hj; cases hj
        rw [addr_add, ((hb2.out.next B4.out).cell j hj').1]
        simpa [hj'] using hj
      clear hw4
      go_wp2_with (first | (at_builtin; refine wpList_append_own _ rfl (.tmp 30) (.tmp 31) 22 rfl w2.heap.size 5 i0 (.int .u8 0) 1 1 Tryd.underlying22 hi.out hz0.out hz1.out hz2.out rfl (by decide) _ 512 _ rfl O4.out ⟨w.heap.size, 0, none⟩ n n (bs.map (Value.int .u8)) rfl (by simp [HBL.out]) N4.out (by intro v hv; simp at hv; obtain ⟨z, _, rfl⟩ := hv; rfl) (by simp [maxLen]; omega) (by omega) B4.out.size ?_; intro v6 w6 o6 g6 _; rw [← List.map_append] at o6; obtain ⟨gg, cap6, rfl, hB6, hgg, hcc, hcm, hlen, hrow⟩ := owned_bytes o6 (by omega)))
      have b6 : Below w2.heap.size w2 w6 := B4.out.grown g6 B4.out.size (by intro k hk; cases hk; exact Nat.le_refl _)
      have B6 := hide (bnext B2.out b6)
      have hb6 := hide (hb2.out.next b6)
      have hbb : ∀ z ∈ zr ++ bs, 0 ≤ z ∧ z < 256 := fun z hz => (List.mem_append.1 hz).elim (ZB.out z) (hb6.out.2 z)
      have cl := load_any gg 0 cap6 (zr ++ bs) w6 hrow hbb (by rw [hlen]; omega) (by rw [hlen]; exact hcc) hcm hgg (HT.out.next B6.out) (HE.out.next B6.out)
      rw [hlen, from_512 hn8.out, Nat.add_sub_cancel_left, ← HER.out, bs_drop ZL.out] at cl
      have CL := hide cl
      clear cl o6 g6 hrow hlen hcc hcm hgg hB6 hbb
      have hc6 := hide (HC.out.next b6)
      refine CL.out.mono ?_
      rintro e w7 ⟨⟨h, _⟩ | ⟨_, c7, rfl, hc7⟩, b7⟩
      · exact absurd he h
      · have B7 := hide (bnext B6.out b7)
        have X7 := hide (hc6.out.next b7)
        have Y7 := hide hc7
        have hb7 := hide (hb6.out.next b7)
        have p0 : ¬ p = 0 := fun h => by have := Q0.out h; omega
        have p3 : ¬ p = 3 := fun h => by have := Q3.out h; omega
        have p0' : ¬ (p : Int) = 0 := by omega
        have p3' : ¬ (p : Int) = 3 := by omega
        subst he
        have LX := hide HB.out.lt
        have LY := hide hb6.out.lt
        have hpg : bs.length / 8192 = p := by rw [HBL.out, HN.out]; omega
        have CX := hide (fun w (h : IsCard w1.heap.size w c bs) => pages_any c bs w h (by rw [HBL.out]; omega))
        have CY := hide (fun w (h : IsCard w6.heap.size w c7 bs) => pages_any c7 bs w h (by rw [HBL.out]; omega))
        rw [hpg] at CX CY
        clear b7 b6 hc7 hpg
        by_cases p1 : p = 1
        · have p1' : (p : Int) = 1 := by omega
          obtain ⟨hz, z0, z1⟩ := hb7.out.cell (r).toNat (by rw [HBL.out]; omega)
          have hzf := hb7.out.free (r).toNat
          have ix0 : 0 ≤ r := by omega
          have ix1 : r < (n : Int) := by omega
          generalize bs.getD (r).toNat 0 = z at *
          go_wp2_with fail
          refine (byte_any _ _ _ _ _ X7.out (by rw [HBL.out]; omega)).mono ?_
          rintro e w8 ⟨rfl, hw⟩
          subst w8
          generalize hby : byteOf bs (0) r = q
          go_wp2_with fail
          refine (byte_any _ _ _ _ _ (X7.out.put _ _ LX.out _) (by rw [HBL.out]; omega)).mono ?_
          rintro e w8 ⟨rfl, hw⟩
          subst w8
          go_wp2_with fail
          refine (byte_any _ _ _ _ _ (Y7.out.put _ _ LY.out _) (by rw [HBL.out]; omega)).mono ?_
          rintro e w8 ⟨rfl, hw⟩
          subst w8
          go_wp2_with fail
          refine (CX.out _ (X7.out.put _ _ LX.out _)).mono ?_
          rintro e w8 ⟨rfl, hw⟩
          subst w8
          go_wp2_with fail
          refine (CY.out _ (Y7.out.put _ _ LY.out _)).mono ?_
          rintro e w8 ⟨rfl, hw⟩
          subst w8
          go_wp2_with fail
          go_ret
          exact ⟨rfl, B7.out.setCell (Nat.le_refl _) _⟩
        · have p1' : ¬ (p : Int) = 1 := by omega
          obtain ⟨hz, z0, z1⟩ := hb7.out.cell (((p : Int) - 1) * 8192 + r).toNat (by rw [HBL.out]; omega)
          have hzf := hb7.out.free (((p : Int) - 1) * 8192 + r).toNat
          have ix0 : 0 ≤ ((p : Int) - 1) * 8192 + r := by omega
          have ix1 : ((p : Int) - 1) * 8192 + r < (n : Int) := by omega
          generalize bs.getD (((p : Int) - 1) * 8192 + r).toNat 0 = z at *
          go_wp2_with fail
          refine (byte_any _ _ _ _ _ X7.out (by rw [HBL.out]; omega)).mono ?_
          rintro e w8 ⟨rfl, hw⟩
          subst w8
          generalize hby : byteOf bs ((p : Int) - 1) r = q
          go_wp2_with fail
          refine (byte_any _ _ _ _ _ (X7.out.put _ _ LX.out _) (by rw [HBL.out]; omega)).mono ?_
          rintro e w8 ⟨rfl, hw⟩
          subst w8
          go_wp2_with fail
          refine (byte_any _ _ _ _ _ (Y7.out.put _ _ LY.out _) (by rw [HBL.out]; omega)).mono ?_
          rintro e w8 ⟨rfl, hw⟩
          subst w8
          go_wp2_with fail
          refine (CX.out _ (X7.out.put _ _ LX.out _)).mono ?_
          rintro e w8 ⟨rfl, hw⟩
          subst w8
          go_wp2_with fail
          refine (CY.out _ (Y7.out.put _ _ LY.out _)).mono ?_
          rintro e w8 ⟨rfl, hw⟩
          subst w8
          go_wp2_with fail
          go_ret
          exact ⟨rfl, B7.out.setCell (Nat.le_refl _) _⟩
  · have C1 := hide (image_any n a1 len1 cap1 z1 w (by omega) w1)
    clear w1
    go_enter Tryd.func5, Tryd.ntmps5
    go_wp2_with fail
    refine C1.out.mono ?_
    rintro e w1 ⟨bs, hbl, rfl, hb, b1⟩
    have B1 := hide b1
    have c2 := load_own w.heap.size n bs w1 hb hbl (by omega) (HT.out.next b1) (HE.out.next b1)
    rw [from_0 hn8.out, Nat.sub_zero, List.drop_zero] at c2
    obtain ⟨er, her⟩ : ∃ er, er = errOf n := ⟨_, rfl⟩
    rw [← her] at c2
    have q0 : p = 0 → er = 10 := by intro h; rw [her, HN.out, h]; decide
    have q1 : p = 1 → er = 0 := by intro h; rw [her, HN.out, h]; decide
    have q3 : p = 3 → er = 13 := by intro h; rw [her, HN.out, h]; decide
    have Q0 := hide q0
    have Q1 := hide q1
    have Q3 := hide q3
    have C2 := hide c2
    have HB := hide hb
    have HBL := hide hbl
    have HER := hide her
    clear c2 b1 hb hbl her q0 q1 q3
    go_wp2_with fail
    refine C2.out.mono ?_
    rintro e w2 ⟨⟨he, rfl⟩ | ⟨he, c, rfl, hc⟩, b2⟩
    · have B2 := hide (bnext B1.out b2)
      have hb2 := hide (HB.out.next b2)
      clear b2
      have hmk : (Instr.makeSlice 22 (.int .i64 512) (.int .i64 512)).run Tryd.prog w2 = .ok (.slice (some ⟨w2.heap.size, 0, none⟩) 512 512) (w2.alloc (.cells (zr.map (Value.int .u8)).toArray 5)) := by rw [HZ.out]; exact mk_bytes 512 (by decide) w2
      obtain ⟨w4, hw4⟩ : ∃ w4, w4 = (w2.alloc (.cells (zr.map (Value.int .u8)).toArray 5)) := ⟨_, rfl⟩
      rw [← hw4] at hmk
      have B4 : Hid (Below w2.heap.size w2 w4) := by rw [hw4]; exact (Below.refl _ w2).alloc (Nat.le_refl _) _
      have O4 : Hid (w4.ownsRow w2.heap.size 5 1 (.slice (some ⟨w2.heap.size, 0, none⟩) 512 512) 512 (zr.map (Value.int .u8))) := by
        refine ⟨by simp [ZL.out], .inr ⟨_, 512, (zr.map (Value.int .u8)).toArray, rfl, Nat.le_refl _, ?_, Nat.le_refl _, by decide, by simp [ZL.out], List.take_of_length_le (by simp [ZL.out])⟩⟩
        rw [hw4]
        exact heap_alloc_new w2 _
      have N4 : Hid (∀ j u, (bs.map (Value.int .u8))[j]? = some u → w4.cell? ((⟨w.heap.size, 0, none⟩ : Addr).add j) = some u) := by
        intro j u hj
        have hj' : j < bs.length := by
          rcases Nat.lt_or_ge j bs.length with h | h
          · exact h
          · rw [List.getElem?_eq_none (by simpa using h)] at hj; cases hj
        rw [addr_add, ((hb2.out.next B4.out).cell j hj').1]
        simpa [hj'] using hj
      clear hw4
      go_wp2_with (first | (at_builtin; refine wpList_append_own _ rfl (.tmp 30) (.tmp 31) 22 rfl w2.heap.size 5 i0 (.int .u8 0) 1 1 Tryd.underlying22 hi.out hz0.out hz1.out hz2.out rfl (by decide) _ 512 _ rfl O4.out ⟨w.heap.size, 0, none⟩ n n (bs.map (Value.int .u8)) rfl (by simp [HBL.out]) N4.out (by intro v hv; simp at hv; obtain ⟨z, _, rfl⟩ := hv; rfl) (by simp [maxLen]; omega) (by omega) B4.out.size ?_; intro v6 w6 o6 g6 _; rw [← List.map_append] at o6; obtain ⟨gg, cap6, rfl, hB6, hgg, hcc, hcm, hlen, hrow⟩ := owned_bytes o6 (by omega)))
      have b6 : Below w2.heap.size w2 w6 := B4.out.grown g6 B4.out.size (by intro k hk; cases hk; exact Nat.le_refl _)
      have B6 := hide (bnext B2.out b6)
      have hb6 := hide (hb2.out.next b6)
      have hbb : ∀ z ∈ zr ++ bs, 0 ≤ z ∧ z < 256 := fun z hz => (List.mem_append.1 hz).elim (ZB.out z) (hb6.out.2 z)
      have cl := load_any gg 0 cap6 (zr ++ bs) w6 hrow hbb (by rw [hlen]; omega) (by rw [hlen]; exact hcc) hcm hgg (HT.out.next B6.out) (HE.out.next B6.out)
      rw [hlen, from_512 hn8.out, Nat.add_sub_cancel_left, ← HER.out, bs_drop ZL.out] at cl
      have CL := hide cl
      clear cl o6 g6 hrow hlen hcc hcm hgg hB6 hbb
      refine CL.out.mono ?_
      rintro e w7 ⟨⟨_, rfl⟩ | ⟨h, _⟩, b7⟩
      · have B7 := hide (bnext B6.out b7)
        have he' : (er != 0) = true := by simpa using he
        clear b7 b6
        by_cases p0 : p = 0
        · have e0 := Q0.out p0
          subst p0
          subst e0
          go_wp2_with fail
          go_ret
          exact ⟨rfl, B7.out⟩
        · by_cases p3 : p = 3
          · have e0 := Q3.out p3
            subst p3
            subst e0
            go_wp2_with fail
            go_ret
            exact ⟨rfl, B7.out⟩
          · have p1 : ¬ p = 1 := fun h => he (Q1.out h)
            have p0' : ¬ (p : Int) = 0 := by omega
            have p1' : ¬ (p : Int) = 1 := by omega
            have p3' : ¬ (p : Int) = 3 := by omega
            go_wp2_with fail
            go_ret
            exact ⟨rfl, B7.out⟩
      · exact absurd h he
    · have B2 := hide (bnext B1.out b2)
      have hb2 := hide (HB.out.next b2)
      have HC := hide hc
      clear b2 hc
      have hmk : (Instr.makeSlice 22 (.int .i64 512) (.int .i64 512)).run Tryd.prog w2 = .ok (.slice (some ⟨w2.heap.size, 0, none⟩) 512 512) (w2.alloc (.cells (zr.map (Value.int .u8)).toArray 5)) := by rw [HZ.out]; exact mk_bytes 512 (by decide) w2
      obtain ⟨w4, hw4⟩ : ∃ w4, w4 = (w2.alloc (.cells (zr.map (Value.int .u8)).toArray 5)) := ⟨_, rfl⟩
      rw [← hw4] at hmk
      have B4 : Hid (Below w2.heap.size w2 w4) := by rw [hw4]; exact (Below.refl _ w2).alloc (Nat.le_refl _) _
      have O4 : Hid (w4.ownsRow w2.heap.size 5 1 (.slice (some ⟨w2.heap.size, 0, none⟩) 512 512) 512 (zr.map (Value.int .u8))) := by
        refine ⟨by simp [ZL.out], .inr ⟨_, 512, (zr.map (Value.int .u8)).toArray, rfl, Nat.le_refl _, ?_, Nat.le_refl _, by decide, by simp [ZL.out], List.take_of_length_le (by simp [ZL.out])⟩⟩
        rw [hw4]
        exact heap_alloc_new w2 _
      have N4 : Hid (∀ j u, (bs.map (Value.int .u8))[j]? = some u → w4.cell? ((⟨w.heap.size, 0, none⟩ : Addr).add j) = some u) := by
        intro j u hj
        have hj' : j < bs.length := by
          rcases Nat.lt_or_ge j bs.length with h | h
          · exact h
          · rw [List.getElem?_eq_none (by simpa using h)] at hj; cases hj
        rw [addr_add, ((hb2.out.next B4.out).cell j hj').1]
        simpa [hj'] using hj
      clear hw4
      go_wp2_with (first | (at_builtin; refine wpList_append_own _ rfl (.tmp 30) (.tmp 31) 22 rfl w2.heap.size 5 i0 (.int .u8 0) 1 1 Tryd.underlying22 hi.out hz0.out hz1.out hz2.out rfl (by decide) _ 512 _ rfl O4.out ⟨w.heap.size, 0, none⟩ n n (bs.map (Value.int .u8)) rfl (by simp [HBL.out]) N4.out (by intro v hv; simp at hv; obtain ⟨z, _, rfl⟩ := hv; rfl) (by simp [maxLen]; omega) (by omega) B4.out.size ?_; intro v6 w6 o6 g6 _; rw [← List.map_append] at o6; obtain ⟨gg, cap6, rfl, hB6, hgg, hcc, hcm, hlen, hrow⟩ := owned_bytes o6 (by omega)))
      have b6 : Below w2.heap.size w2 w6 := B4.out.grown g6 B4.out.size (by intro k hk; cases hk; exact Nat.le_refl _)
      have B6 := hide (bnext B2.out b6)
      have hb6 := hide (hb2.out.next b6)
      have hbb : ∀ z ∈ zr ++ bs, 0 ≤ z ∧ z < 256 := fun z hz => (List.mem_append.1 hz).elim (ZB.out z) (hb6.out.2 z)
      have cl := load_any gg 0 cap6 (zr ++ bs) w6 hrow hbb (by rw [hlen]; omega) (by rw [hlen]; exact hcc) hcm hgg (HT.out.next B6.out) (HE.out.next B6.out)
      rw [hlen, from_512 hn8.out, Nat.add_sub_cancel_left, ← HER.out, bs_drop ZL.out] at cl
      have CL := hide cl
      clear cl o6 g6 hrow hlen hcc hcm hgg hB6 hbb
      have hc6 := hide (HC.out.next b6)
      refine CL.out.mono ?_
      rintro e w7 ⟨⟨h, _⟩ | ⟨_, c7, rfl, hc7⟩, b7⟩
      · exact absurd he h
      · have B7 := hide (bnext B6.out b7)
        have X7 := hide (hc6.out.next b7)
        have Y7 := hide hc7
        have hb7 := hide (hb6.out.next b7)
        have p0 : ¬ p = 0 := fun h => by have := Q0.out h; omega
        have p3 : ¬ p = 3 := fun h => by have := Q3.out h; omega
        have p0' : ¬ (p : Int) = 0 := by omega
        have p3' : ¬ (p : Int) = 3 := by omega
        subst he
        have LX := hide HB.out.lt
        have LY := hide hb6.out.lt
        have hpg : bs.length / 8192 = p := by rw [HBL.out, HN.out]; omega
        have CX := hide (fun w (h : IsCard w1.heap.size w c bs) => pages_any c bs w h (by rw [HBL.out]; omega))
        have CY := hide (fun w (h : IsCard w6.heap.size w c7 bs) => pages_any c7 bs w h (by rw [HBL.out]; omega))
        rw [hpg] at CX CY
        clear b7 b6 hc7 hpg
        by_cases p1 : p = 1
        · have p1' : (p : Int) = 1 := by omega
          obtain ⟨hz, z0, z1⟩ := hb7.out.cell (r).toNat (by rw [HBL.out]; omega)
          have hzf := hb7.out.free (r).toNat
          have ix0 : 0 ≤ r := by omega
          have ix1 : r < (n : Int) := by omega
          generalize bs.getD (r).toNat 0 = z at *
          go_wp2_with fail
          refine (byte_any _ _ _ _ _ X7.out (by rw [HBL.out]; omega)).mono ?_
          rintro e w8 ⟨rfl, hw⟩
          subst w8
          generalize hby : byteOf bs (0) r = q
          go_wp2_with fail
          refine (byte_any _ _ _ _ _ (X7.out.put _ _ LX.out _) (by rw [HBL.out]; omega)).mono ?_
          rintro e w8 ⟨rfl, hw⟩
          subst w8
          go_wp2_with fail
          refine (byte_any _ _ _ _ _ (Y7.out.put _ _ LY.out _) (by rw [HBL.out]; omega)).mono ?_
          rintro e w8 ⟨rfl, hw⟩
          subst w8
          go_wp2_with fail
          refine (CX.out _ (X7.out.put _ _ LX.out _)).mono ?_
          rintro e w8 ⟨rfl, hw⟩
          subst w8
          go_wp2_with fail
          refine (CY.out _ (Y7.out.put _ _ LY.out _)).mono ?_
          rintro e w8 ⟨rfl, hw⟩
          subst w8
          go_wp2_with fail
          go_ret
          exact ⟨rfl, B7.out.setCell (Nat.le_refl _) _⟩
        · have p1' : ¬ (p : Int) = 1 := by omega
          obtain ⟨hz, z0, z1⟩ := hb7.out.cell (((p : Int) - 1) * 8192 + r).toNat (by rw [HBL.out]; omega)
          have hzf := hb7.out.free (((p : Int) - 1) * 8192 + r).toNat
          have ix0 : 0 ≤ ((p : Int) - 1) * 8192 + r := by omega
          have ix1 : ((p : Int) - 1) * 8192 + r < (n : Int) := by omega
          generalize bs.getD (((p : Int) - 1) * 8192 + r).toNat 0 = z at *
          go_wp2_with fail
          refine (byte_any _ _ _ _ _ X7.out (by rw [HBL.out]; omega)).mono ?_
          rintro e w8 ⟨rfl, hw⟩
          subst w8
          generalize hby : byteOf bs ((p : Int) - 1) r = q
          go_wp2_with fail
          refine (byte_any _ _ _ _ _ (X7.out.put _ _ LX.out _) (by rw [HBL.out]; omega)).mono ?_
          rintro e w8 ⟨rfl, hw⟩
          subst w8
          go_wp2_with fail
          refine (byte_any _ _ _ _ _ (Y7.out.put _ _ LY.out _) (by rw [HBL.out]; omega)).mono ?_
          rintro e w8 ⟨rfl, hw⟩
          subst w8
          go_wp2_with fail
          refine (CX.out _ (X7.out.put _ _ LX.out _)).mono ?_
          rintro e w8 ⟨rfl, hw⟩
          subst w8
          go_wp2_with fail
          refine (CY.out _ (Y7.out.put _ _ LY.out _)).mono ?_
          rintro e w8 ⟨rfl, hw⟩
          subst w8
          go_wp2_with fail
          go_ret
          exact ⟨rfl, B7.out.setCell (Nat.le_refl _) _⟩
set_option maxRecDepth 100000 in
theorem cardHeader_lifted (os : Os) (started : os.Started) (H : Type) (enc : TypeId × Value → H) :
    ReturnsInHanded {} Tryd.checked os 5 .any (fun w args => (Rows.cardHeaderSpec.pre enc Tryd.prog Tryd.f5 [] false w args ∧ laidMetH Tryd.prog laidBoth w) ∧ sizedMet enc Tryd.prog Tryd.f5 (OpenSpec.ofChange Rows.cardHeaderSpec) false w args)
      (Rows.cardHeaderSpec.post enc Tryd.prog Tryd.f5 false true false false) := by
  refine returnsInHanded_of_change_and (C := Tryd.checked) (X := fun w _ => laidMetH Tryd.prog laidBoth w) (fun _ _ _ hh h => h.of_heap hh) own started (by kernel_rfl) Tryd.func5
    (ChangeSpec.witness_at (enc := enc) (C := Tryd.checked) (os := os) (X := fun w _ => laidMetH Tryd.prog laidBoth w) false (laidWorld os) #[.int .i64 0, .slice none 0 0, .int .i64 0] 8 rfl (by kernel_rfl) (by kernel_rfl) (by kernel_rfl) (by kernel_rfl) (by kernel_rfl) (laidWorld_both os _)) ?_
  intro W base args ds gs before hval0 hW _ _ hL _
  have hval : ∀ (j : Nat) t v, Tryd.f5.params[j]? = some t → args[j]? = some v → Value.okWide Tryd.prog W .any base t v := hval0
  have hW' := hW
  obtain ⟨p, q, hA0, hV, rfl, hfz, hnd⟩ := hW
  have hA : DataW.TrodAll enc Tryd.prog W 0 (fun _ => true) true Tryd.f5.params.toList args.toList ds p := hA0
  rw [Tryd.params5] at hA hval
  obtain ⟨v0, vs0, d0, ds0, p0, q0, hargs, rfl, rfl, h0, r0⟩ := trodAll_cons hA
  obtain ⟨v1, vs1, d1, ds1, p1, q1, rfl, rfl, rfl, h1, r1⟩ := trodAll_cons r0
  obtain ⟨v2, vs2, d2, ds2, p2, q2, rfl, rfl, rfl, h2, r2⟩ := trodAll_cons r1
  obtain ⟨rfl, rfl, rfl⟩ := trodAll_nil r2
  obtain rfl : args = #[v0, v1, v2] := by cases args; simp_all
  obtain ⟨rfl, rfl⟩ := trodVars_none hV
  obtain ⟨a0, rfl, rfl, rfl, w0⟩ := open_int Tryd.underlying3 (hval 0 3 v0 rfl rfl) h0
  obtain ⟨a1, len1, cap1, rfl⟩ := okWide_slice Tryd.underlying22 (hval 1 22 v1 rfl rfl)
  have k1 := h1
  have lt1 : ∀ x ∈ p1, x.block < W.heap.size := by obtain ⟨m, hm⟩ := k1; exact DataW.trod_lt m _ _ _ hm
  obtain ⟨z1, w1⟩ : ∃ zs, IsRow .u8 W a1 len1 cap1 zs := by
    obtain ⟨fuel, hf⟩ := h1
    rcases open_ints Tryd.underlying22 Tryd.underlying5 (by kernel_rfl) hf with ⟨hcs, _⟩ | ⟨x, l, c, zs, hcs, _, hl, hm, hz, _, hcell, hwz⟩
    · simp [Value.cells] at hcs
      obtain ⟨rfl, rfl, rfl⟩ := hcs
      exact ⟨[], .inl ⟨rfl, rfl, rfl, rfl⟩⟩
    · simp [Value.cells] at hcs
      obtain ⟨rfl, rfl, rfl⟩ := hcs
      exact ⟨zs, .inr ⟨_, rfl, hl, hm, by simpa using hz, hcell, hwz⟩⟩
  obtain ⟨a2, rfl, rfl, rfl, w2⟩ := open_int Tryd.underlying3 (hval 2 3 v2 rfl rfl) h2
  clear hA0 hval0
  refine (cardHeader_walk a0 a1 len1 cap1 z1 a2 W w0 w1 w2 (laid_both hL)).mono fun e W' ⟨he, bel⟩ => ?_
  subst he
  exact ⟨_, rfl, _, _, _, [], _, [], hW', trodAll_mk1 (shut_bool Tryd.underlying4 _), (trodAll_cons_mk (shut_int Tryd.underlying3 w0) (trodAll_cons_mk (Below.trod laidOut (by kernel_rfl) (of_decide_eq_true (by kernel_rfl)) k1 bel lt1) (trodAll_cons_mk (shut_int Tryd.underlying3 w2) trodAll_mk0))), rfl, bel.frame _, fun h => by cases h⟩

theorem cardHeader_over : Rows.cardHeaderRow.holds Tryd.pinned (OpenSpec.ofChange Rows.cardHeaderSpec) :=
  OpenClaim.holds_of_wide 5 Tryd.f5 rfl rfl rfl rfl rfl rfl rfl ⟨rfl, rfl, rfl, rfl, rfl⟩ rfl rfl rfl rfl rfl (by kernel_rfl) Tryd.func5 (by kernel_rfl)
    (of_decide_eq_true (by kernel_rfl)) (by unfold Func.isWrapper; first | (rw [if_pos (by decide +kernel)]; kernel_rfl) | (rw [if_neg (by decide +kernel)]; exact ⟨rfl, rfl⟩))
    (fun os started H enc _ => cardHeader_lifted os started H enc)

theorem cardHeader_row : Rows.CardHeaderSaid := cardHeader_over

theorem cardHeader_holds : Rows.CardHeaderCardSaid :=
  Claim7.holds_tied_plain_at .later [] [.handle, .data] true (true, "fa813e7ee2e711e421d121c85e3db63a12c0d559205366ec6eb0bff58998939a") true
    cardHeader_row (fun _ h => by cases h) (by kernel_rfl) (fun _ h => by cases h) cardHeader_row_tie rfl ⟨rfl, rfl⟩ (by kernel_rfl) rfl
    (fun f fn hf hfn => by
      obtain rfl : f = 5 := Option.some.inj ((show Tryd.prog.funcNamed "phosphor/phosphorlaw03.CardHeader" = some 5 by kernel_rfl).symm.trans hf) |>.symm
      obtain rfl : fn = Tryd.f5 := (Option.some.inj (Tryd.func5.symm.trans hfn)).symm
      exact ⟨by kernel_rfl, fun j t ht => by
        rw [Tryd.params5] at ht
        rcases j with _ | _ | _ | j
        · obtain rfl : t = 3 := by simpa using ht.symm
          exact (show Tryd.prog.wantsStandIn 3 = false by kernel_rfl)
        · obtain rfl : t = 22 := by simpa using ht.symm
          exact (show Tryd.prog.wantsStandIn 22 = false by kernel_rfl)
        · obtain rfl : t = 3 := by simpa using ht.symm
          exact (show Tryd.prog.wantsStandIn 3 = false by kernel_rfl)
        · simp at ht⟩)
    (by kernel_rfl)
#print axioms cardHeader_holds
end Go.Proofs.YtlildknlkjoidaaDoor
