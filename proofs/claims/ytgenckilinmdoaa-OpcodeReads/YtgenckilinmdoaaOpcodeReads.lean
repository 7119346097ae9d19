/- Bytes are read as instructions, one behind the other, until there are too few; all that was read is as long as what is left out is short. -/
import Derived.Test.YtgenckilinmdoaaOpRows
import Derived.Test.YtgenckilinmdoaaArrays
import Derived.BigQuiet
import Derived.OpenShut
import Derived.ShutString
import Derived.ChangeOld
import Derived.Below
namespace Go.Proofs.Ytgenckilinmdoaa
open Go.ChangeShapes Go.WideShapes Go.ChangeAt Go.RowKit
open Go.ChangeMaps (open_string shut_string)
set_option linter.unusedVariables false
set_option maxRecDepth 20000
theorem own : ownKnob Try.prog.godebug = none := by kernel_rfl

theorem info_name (x y z u : Value) (w : World) : (Instr.field 27 (.agg #[x, y, z, u]) 0).run Try.prog w = .ok x w := by kernel_rfl

theorem extract_left (a b : ByteArray) : (a ++ b).extract 0 a.size = a := by
  apply ByteArray.ext
  rw [ByteArray.data_extract, ByteArray.data_append]
  show (a.data ++ b.data).extract 0 a.data.size = a.data
  simp
/-- An instruction's text opens with its name. -/
theorem textB_opens (s : ByteArray) (f : Nat → Int) : ∀ k, ∃ t, textB s f k = s ++ t
  | 0 => ⟨⟨#[]⟩, by apply ByteArray.ext; simp [textB, ByteArray.data_append]⟩
  | k + 1 => by
    obtain ⟨t, ht⟩ := textB_opens s f k
    exact ⟨t ++ ((⟨#[32]⟩ : ByteArray) ++ hexB (f (k + 1))), by rw [textB, ht]; exact ByteArray.append_assoc⟩
theorem textB_name (s : ByteArray) (f : Nat → Int) (k : Nat) : (textB s f k).extract 0 s.size = s := by
  obtain ⟨t, ht⟩ := textB_opens s f k
  rw [ht]
  exact extract_left s t

theorem reads_none (ma : Option Addr) (n mc : Nat) (w : World) (h0 : n ≤ 0) : Calls Try.prog 7 #[.slice ma n mc] w fun e w' => e = .returned (.bool true) ∧ Below w.heap.size w w' := by
  have en : n = 0 := by omega
  subst en
  go_enter Try.func7, Try.ntmps7
  go_wp2_with fail
  go_loopw [3] (fun sk wr => ∃ k : Nat, k ≤ 0 ∧ sk = .int .i64 (k : Int) ∧ Below w.heap.size w wr) (fun sk _ => 0 - (intOf sk).toNat)
  case atStart => exact ⟨0, by omega, rfl, Below.refl _ _⟩
  case round =>
    obtain ⟨k, hk, rfl, bel⟩ := hrel
    have ek : k = 0 := by omega
    subst ek
    have BL := hide bel
    have KN := hide (fun w => text_none none 0 w)
    have KE := hide (fun w => (show Calls Try.prog 10 #[.int .i64 234] w fun e w' => e = .returned (.agg #[.string ⟨#[78, 79, 80]⟩, .int .i64 0, .int .i64 1, .int .i64 2]) ∧ Below w.heap.size w w' from of_byte 234 (by omega) w))
    have q2 := info_name
    clear bel
    go_wp2_with fail
    refine (KN.out _).mono ?_
    rintro e w1 ⟨rfl, b1⟩
    have B1 := hide (bnext BL.out b1)
    clear b1
    go_wp2_with fail
    refine (KE.out _).mono ?_
    rintro e w2 ⟨rfl, b2⟩
    have B2 := hide (bnext B1.out b2)
    clear b2
    go_wp2
    go_ret
    exact ⟨rfl, B2.out⟩

set_option maxHeartbeats 2000000 in
theorem reads_short (n mc bb off : Nat) (f : Nat → Int) (w : World) (h0 : 0 < n) (h3 : n ≤ 300) (hbb : bb < w.heap.size) (hnc : n ≤ mc) (hmx : mc ≤ 9223372036854775807) (hrow : ∀ i, i < n → w.cell? ⟨bb, off + i, none⟩ = some (.int .u8 (f i)) ∧ 0 ≤ f i ∧ f i ≤ 255) :
    Calls Try.prog 7 #[.slice (some ⟨bb, off, none⟩) n mc] w fun e w' => e = .returned (.bool true) ∧ Below w.heap.size w w' := by
  have hd : decide ((300 : Int) < (n : Int)) = false := by rw [decide_eq_false_iff_not]; omega
  go_enter Try.func7, Try.ntmps7
  go_wp2_with fail
  try simp only [hd]
  have HR := hide hrow
  clear hrow
  go_loopw [3] (fun sk wr => ∃ k : Nat, k ≤ n ∧ sk = .int .i64 (k : Int) ∧ Below w.heap.size w wr) (fun sk _ => n - (intOf sk).toNat)
  case atStart => exact ⟨0, by omega, rfl, Below.refl _ _⟩
  case round =>
    obtain ⟨k, hk, rfl, bel⟩ := hrel
    by_cases hlt : k < n
    · obtain ⟨ck, r0, r1⟩ := HR.out k hlt
      obtain ⟨b, hb⟩ : ∃ b : Nat, (b : Int) = f k := ⟨(f k).toNat, by omega⟩
      have b256 : b < 256 := by omega
      obtain ⟨l1, l7⟩ := len_in b b256
      obtain ⟨n1, n2⟩ := name_in b b256
      obtain ⟨s, hs⟩ : ∃ s, s = nameOf b := ⟨_, rfl⟩
      obtain ⟨m, hm⟩ : ∃ m, m = modeOf b := ⟨_, rfl⟩
      obtain ⟨c, hc⟩ : ∃ c, c = cycOf b := ⟨_, rfl⟩
      obtain ⟨l, hl⟩ : ∃ l : Nat, (l : Int) = lenOf b := ⟨(lenOf b).toNat, by omega⟩
      have KO : Hid (∀ w, Calls Try.prog 10 #[.int .i64 (b : Int)] w fun e w' => e = .returned (.agg #[.string s, .int .i64 m, .int .i64 (l : Int), .int .i64 c]) ∧ Below w.heap.size w w') := by
        rw [hs, hm, hc, hl]
        exact of_byte b b256
      have e0 : f (k + 0) = (b : Int) := hb.symm
      have rw1 : RowB wr (some ⟨bb, off + k, none⟩) (n - k) (mc - k) (fun i => f (k + i)) := by
        refine .inr ⟨bb, off + k, by omega, rfl, Nat.lt_of_lt_of_le hbb bel.size, by omega, by simp [maxLen]; omega, fun i hi => ?_⟩
        obtain ⟨c1, c2⟩ := HR.out (k + i) (by omega)
        rw [← Nat.add_assoc] at c1
        exact ⟨(bel.cell (p := ⟨bb, off + k + i, none⟩) hbb).trans c1, c2⟩
      have ht := text_any _ _ _ _ wr rw1
      have cw := (bel.cell (p := ⟨bb, off + k, none⟩) hbb).trans ck
      rw [← hb] at cw
      rw [← hs] at n1 n2
      rw [← hl] at l1 l7
      have hw8 := bel.size
      have BL := hide bel
      clear bel rw1 ck r0 r1
      by_cases hsh : n - k < l
      · have e1 : txtS (n - k) (fun i => f (k + i)) = ⟨#[]⟩ := by
          unfold txtS
          rw [if_pos (by show _ ∨ _ < lenOf (f (k + 0)).toNat; rw [e0, Int.toNat_natCast, ← hl]; omega)]
        have e2 : txtN (n - k) (fun i => f (k + i)) = 0 := by
          unfold txtN
          rw [if_pos (by show _ ∨ _ < lenOf (f (k + 0)).toNat; rw [e0, Int.toNat_natCast, ← hl]; omega)]
        rw [e1, e2] at ht
        have KT := hide ht
        clear ht e1 e2 hs hm hc hl e0 hb
        go_wp2_with fail
        refine KT.out.mono ?_
        rintro e w1 ⟨rfl, b1⟩
        have c1 := (b1.cell (p := ⟨bb, off + k, none⟩) (Nat.lt_of_lt_of_le hbb hw8)).trans cw
        have B1 := hide (bnext BL.out b1)
        clear b1 cw
        go_wp2_with fail
        refine (KO.out _).mono ?_
        rintro e w2 ⟨rfl, b2⟩
        have B2 := hide (bnext B1.out b2)
        have B3 := hide (B2.out.alloc B2.out.size (.cells #[.string s, .int .i64 m, .int .i64 (l : Int), .int .i64 c] 27))
        clear b2 c1 KO KT
        go_wp2_with fail
        go_ret
        exact ⟨ret_bool (decide_eq_true (by omega)), B3.out⟩
      · have e1 : txtS (n - k) (fun i => f (k + i)) = textB s (fun i => f (k + i)) (l - 1) := by
          unfold txtS
          rw [if_neg (by show ¬ (_ ∨ _ < lenOf (f (k + 0)).toNat); rw [e0, Int.toNat_natCast, ← hl]; omega)]
          show textB (nameOf (f (k + 0)).toNat) _ ((lenOf (f (k + 0)).toNat).toNat - 1) = _
          rw [e0, Int.toNat_natCast, ← hl, Int.toNat_natCast, ← hs]
        have e2 : txtN (n - k) (fun i => f (k + i)) = (l : Int) := by
          unfold txtN
          rw [if_neg (by show ¬ (_ ∨ _ < lenOf (f (k + 0)).toNat); rw [e0, Int.toNat_natCast, ← hl]; omega)]
          show lenOf (f (k + 0)).toNat = _
          rw [e0, Int.toNat_natCast, ← hl]
        rw [e1, e2] at ht
        have hts := textB_size s (fun i => f (k + i)) (l - 1)
        have hpre := textB_name s (fun i => f (k + i)) (l - 1)
        have KT := hide ht
        clear ht e1 e2 hs hm hc hl e0 hb
        obtain ⟨ts, hts2⟩ : ∃ ts, ts = textB s (fun i => f (k + i)) (l - 1) := ⟨_, rfl⟩
        rw [← hts2] at KT hts hpre
        clear hts2
        have hl0 : ((l : Int) == 0) = false := by simp; omega
        have g1 : decide ((l : Int) < 1) = false := by simp; omega
        have g2 : decide ((ts.size : Int) < (s.size : Int)) = false := by simp; omega
        have hsz : s.size ≤ ts.size := by omega
        clear hts
        go_wp2_with fail
        refine KT.out.mono ?_
        rintro e w1 ⟨rfl, b1⟩
        have c1 := (b1.cell (p := ⟨bb, off + k, none⟩) (Nat.lt_of_lt_of_le hbb hw8)).trans cw
        have B1 := hide (bnext BL.out b1)
        clear b1 cw
        go_wp2_with fail
        refine (KO.out _).mono ?_
        rintro e w2 ⟨rfl, b2⟩
        have B2 := hide (bnext B1.out b2)
        have B3 := hide (B2.out.alloc B2.out.size (.cells #[.string s, .int .i64 m, .int .i64 (l : Int), .int .i64 c] 27))
        clear b2 c1 KO KT
        go_wp2_with fail
        have hne : (s.toList != s.toList) = false := by simp
        go_quiet (fail)
        go_wp2_with fail
        go_roundw
        case rel => exact ⟨k + l, by omega, by go_num, below_drew B3.out _⟩
        case measure => simp [intOf]; omega
    · have ek : k = n := by omega
      subst ek
      have BL := hide bel
      have KN := hide (fun w => text_none none 0 w)
      have KE := hide (fun w => (show Calls Try.prog 10 #[.int .i64 234] w fun e w' => e = .returned (.agg #[.string ⟨#[78, 79, 80]⟩, .int .i64 0, .int .i64 1, .int .i64 2]) ∧ Below w.heap.size w w' from of_byte 234 (by omega) w))
      have q2 := info_name
      clear bel
      go_wp2_with fail
      refine (KN.out _).mono ?_
      rintro e w1 ⟨rfl, b1⟩
      have B1 := hide (bnext BL.out b1)
      clear b1
      go_wp2_with fail
      refine (KE.out _).mono ?_
      rintro e w2 ⟨rfl, b2⟩
      have B2 := hide (bnext B1.out b2)
      clear b2
      go_wp2
      go_ret
      exact ⟨rfl, B2.out⟩
set_option maxHeartbeats 2000000 in
theorem reads_long (len n mc bb off : Nat) (f : Nat → Int) (w : World) (hlen : 300 < len) (hlc : len ≤ mc) (h0 : 0 < n) (h3 : n ≤ 300) (h4 : 300 ≤ n) (hbb : bb < w.heap.size) (hnc : n ≤ mc) (hmx : mc ≤ 9223372036854775807) (hrow : ∀ i, i < n → w.cell? ⟨bb, off + i, none⟩ = some (.int .u8 (f i)) ∧ 0 ≤ f i ∧ f i ≤ 255) :
    Calls Try.prog 7 #[.slice (some ⟨bb, off, none⟩) len mc] w fun e w' => e = .returned (.bool true) ∧ Below w.heap.size w w' := by
  have hd : decide ((300 : Int) < (len : Int)) = true := by rw [decide_eq_true_eq]; omega
  have en : n = 300 := by omega
  go_enter Try.func7, Try.ntmps7
  go_wp2_with fail
  try simp only [hd]
  rw [show (Value.slice (some ⟨bb, off, none⟩) 300 mc) = .slice (some ⟨bb, off, none⟩) n mc by rw [en]]
  clear en h4
  have HR := hide hrow
  clear hrow
  go_loopw [3] (fun sk wr => ∃ k : Nat, k ≤ n ∧ sk = .int .i64 (k : Int) ∧ Below w.heap.size w wr) (fun sk _ => n - (intOf sk).toNat)
  case atStart => exact ⟨0, by omega, rfl, Below.refl _ _⟩
  case round =>
    obtain ⟨k, hk, rfl, bel⟩ := hrel
    by_cases hlt : k < n
    · obtain ⟨ck, r0, r1⟩ := HR.out k hlt
      obtain ⟨b, hb⟩ : ∃ b : Nat, (b : Int) = f k := ⟨(f k).toNat, by omega⟩
      have b256 : b < 256 := by omega
      obtain ⟨l1, l7⟩ := len_in b b256
      obtain ⟨n1, n2⟩ := name_in b b256
      obtain ⟨s, hs⟩ : ∃ s, s = nameOf b := ⟨_, rfl⟩
      obtain ⟨m, hm⟩ : ∃ m, m = modeOf b := ⟨_, rfl⟩
      obtain ⟨c, hc⟩ : ∃ c, c = cycOf b := ⟨_, rfl⟩
      obtain ⟨l, hl⟩ : ∃ l : Nat, (l : Int) = lenOf b := ⟨(lenOf b).toNat, by omega⟩
      have KO : Hid (∀ w, Calls Try.prog 10 #[.int .i64 (b : Int)] w fun e w' => e = .returned (.agg #[.string s, .int .i64 m, .int .i64 (l : Int), .int .i64 c]) ∧ Below w.heap.size w w') := by
        rw [hs, hm, hc, hl]
        exact of_byte b b256
      have e0 : f (k + 0) = (b : Int) := hb.symm
      have rw1 : RowB wr (some ⟨bb, off + k, none⟩) (n - k) (mc - k) (fun i => f (k + i)) := by
        refine .inr ⟨bb, off + k, by omega, rfl, Nat.lt_of_lt_of_le hbb bel.size, by omega, by simp [maxLen]; omega, fun i hi => ?_⟩
        obtain ⟨c1, c2⟩ := HR.out (k + i) (by omega)
        rw [← Nat.add_assoc] at c1
        exact ⟨(bel.cell (p := ⟨bb, off + k + i, none⟩) hbb).trans c1, c2⟩
      have ht := text_any _ _ _ _ wr rw1
      have cw := (bel.cell (p := ⟨bb, off + k, none⟩) hbb).trans ck
      rw [← hb] at cw
      rw [← hs] at n1 n2
      rw [← hl] at l1 l7
      have hw8 := bel.size
      have BL := hide bel
      clear bel rw1 ck r0 r1
      by_cases hsh : n - k < l
      · have e1 : txtS (n - k) (fun i => f (k + i)) = ⟨#[]⟩ := by
          unfold txtS
          rw [if_pos (by show _ ∨ _ < lenOf (f (k + 0)).toNat; rw [e0, Int.toNat_natCast, ← hl]; omega)]
        have e2 : txtN (n - k) (fun i => f (k + i)) = 0 := by
          unfold txtN
          rw [if_pos (by show _ ∨ _ < lenOf (f (k + 0)).toNat; rw [e0, Int.toNat_natCast, ← hl]; omega)]
        rw [e1, e2] at ht
        have KT := hide ht
        clear ht e1 e2 hs hm hc hl e0 hb
        go_wp2_with fail
        refine KT.out.mono ?_
        rintro e w1 ⟨rfl, b1⟩
        have c1 := (b1.cell (p := ⟨bb, off + k, none⟩) (Nat.lt_of_lt_of_le hbb hw8)).trans cw
        have B1 := hide (bnext BL.out b1)
        clear b1 cw
        go_wp2_with fail
        refine (KO.out _).mono ?_
        rintro e w2 ⟨rfl, b2⟩
        have B2 := hide (bnext B1.out b2)
        have B3 := hide (B2.out.alloc B2.out.size (.cells #[.string s, .int .i64 m, .int .i64 (l : Int), .int .i64 c] 27))
        clear b2 c1 KO KT
        go_wp2_with fail
        go_ret
        exact ⟨ret_bool (decide_eq_true (by omega)), B3.out⟩
      · have e1 : txtS (n - k) (fun i => f (k + i)) = textB s (fun i => f (k + i)) (l - 1) := by
          unfold txtS
          rw [if_neg (by show ¬ (_ ∨ _ < lenOf (f (k + 0)).toNat); rw [e0, Int.toNat_natCast, ← hl]; omega)]
          show textB (nameOf (f (k + 0)).toNat) _ ((lenOf (f (k + 0)).toNat).toNat - 1) = _
          rw [e0, Int.toNat_natCast, ← hl, Int.toNat_natCast, ← hs]
        have e2 : txtN (n - k) (fun i => f (k + i)) = (l : Int) := by
          unfold txtN
          rw [if_neg (by show ¬ (_ ∨ _ < lenOf (f (k + 0)).toNat); rw [e0, Int.toNat_natCast, ← hl]; omega)]
          show lenOf (f (k + 0)).toNat = _
          rw [e0, Int.toNat_natCast, ← hl]
        rw [e1, e2] at ht
        have hts := textB_size s (fun i => f (k + i)) (l - 1)
        have hpre := textB_name s (fun i => f (k + i)) (l - 1)
        have KT := hide ht
        clear ht e1 e2 hs hm hc hl e0 hb
        obtain ⟨ts, hts2⟩ : ∃ ts, ts = textB s (fun i => f (k + i)) (l - 1) := ⟨_, rfl⟩
        rw [← hts2] at KT hts hpre
        clear hts2
        have hl0 : ((l : Int) == 0) = false := by simp; omega
        have g1 : decide ((l : Int) < 1) = false := by simp; omega
        have g2 : decide ((ts.size : Int) < (s.size : Int)) = false := by simp; omega
        have hsz : s.size ≤ ts.size := by omega
        clear hts
        go_wp2_with fail
        refine KT.out.mono ?_
        rintro e w1 ⟨rfl, b1⟩
        have c1 := (b1.cell (p := ⟨bb, off + k, none⟩) (Nat.lt_of_lt_of_le hbb hw8)).trans cw
        have B1 := hide (bnext BL.out b1)
        clear b1 cw
        go_wp2_with fail
        refine (KO.out _).mono ?_
        rintro e w2 ⟨rfl, b2⟩
        have B2 := hide (bnext B1.out b2)
        have B3 := hide (B2.out.alloc B2.out.size (.cells #[.string s, .int .i64 m, .int .i64 (l : Int), .int .i64 c] 27))
        clear b2 c1 KO KT
        go_wp2_with fail
        have hne : (s.toList != s.toList) = false := by simp
        go_quiet (fail)
        go_wp2_with fail
        go_roundw
        case rel => exact ⟨k + l, by omega, by go_num, below_drew B3.out _⟩
        case measure => simp [intOf]; omega
    · have ek : k = n := by omega
      subst ek
      have BL := hide bel
      have KN := hide (fun w => text_none none 0 w)
      have KE := hide (fun w => (show Calls Try.prog 10 #[.int .i64 234] w fun e w' => e = .returned (.agg #[.string ⟨#[78, 79, 80]⟩, .int .i64 0, .int .i64 1, .int .i64 2]) ∧ Below w.heap.size w w' from of_byte 234 (by omega) w))
      have q2 := info_name
      clear bel
      go_wp2_with fail
      refine (KN.out _).mono ?_
      rintro e w1 ⟨rfl, b1⟩
      have B1 := hide (bnext BL.out b1)
      clear b1
      go_wp2_with fail
      refine (KE.out _).mono ?_
      rintro e w2 ⟨rfl, b2⟩
      have B2 := hide (bnext B1.out b2)
      clear b2
      go_wp2
      go_ret
      exact ⟨rfl, B2.out⟩

theorem opcodeReads_walk (a0 : Option Addr) (len0 cap0 : Nat) (z0 : List Int) (w : World) (w0 : IsRow .u8 w a0 len0 cap0 z0) : Calls Try.prog 7 #[.slice a0 len0 cap0] w fun e w' => e = .returned (.bool true) ∧ Below w.heap.size w w' := by
  rcases Nat.eq_zero_or_pos len0 with h0 | h0
  · exact reads_none a0 len0 cap0 w (by omega)
  · obtain ⟨bb, off, rfl, hb, h1, h2, hc⟩ := w0.cells h0
    have h2' : cap0 ≤ 9223372036854775807 := by simpa [maxLen] using h2
    have hc' : ∀ i, i < len0 → w.cell? ⟨bb, off + i, none⟩ = some (.int .u8 (z0.getD i 0)) ∧ 0 ≤ z0.getD i 0 ∧ z0.getD i 0 ≤ 255 := by
      intro i hi
      obtain ⟨c1, c2⟩ := hc i hi
      have := u8_range c2
      exact ⟨c1, by omega, by omega⟩
    by_cases h : len0 ≤ 300
    · exact reads_short len0 cap0 bb off (fun i => z0.getD i 0) w h0 h hb h1 h2' hc'
    · exact reads_long len0 300 cap0 bb off (fun i => z0.getD i 0) w (by omega) h1 (by omega) (by omega) (by omega) hb (by omega) h2' (fun i hi => hc' i (by omega))

set_option maxRecDepth 100000 in
theorem opcodeReads_lifted (os : Os) (started : os.Started) (H : Type) (enc : TypeId × Value → H) :
    ReturnsInHanded {} Try.checked os 7 .any (Rows.opcodeReadsSpec.pre6 enc Try.prog Try.f7 Rows.opcodeReadsRow.domain false) (Rows.opcodeReadsSpec.post enc Try.prog Try.f7 false true false false) := by
  refine returnsInHanded_of_change (C := Try.checked) own started (by kernel_rfl) Try.func7
    (ChangeSpec.witness6 (enc := enc) (C := Try.checked) false ⟨#[], #[.slice none 0 0], []⟩ 8 (by kernel_rfl) (by kernel_rfl) (by kernel_rfl) (by kernel_rfl)) ?_
  intro W base args ds gs before hval0 hW hcnd _
  have hval : ∀ (j : Nat) t v, Try.f7.params[j]? = some t → args[j]? = some v → Value.okWide Try.prog W .any base t v := hval0
  have hW' := hW
  obtain ⟨p, q, hA0, hV, rfl, hfz, hnd⟩ := hW
  have hA : DataW.TrodAll enc Try.prog W 0 (fun _ => true) true Try.f7.params.toList args.toList ds p := hA0
  rw [Try.params7] at hA hval
  obtain ⟨v0, vs0, d0, ds0, p0, q0, hargs, rfl, rfl, h0, r0⟩ := trodAll_cons hA
  obtain ⟨rfl, rfl, rfl⟩ := trodAll_nil r0
  obtain rfl : args = #[v0] := by cases args; simp_all
  obtain ⟨rfl, rfl⟩ := trodVars_none hV
  obtain ⟨a0, len0, cap0, rfl⟩ := okWide_slice Try.underlying22 (hval 0 22 v0 rfl rfl)
  have k0 := h0
  have lt0 : ∀ x ∈ p0, x.block < W.heap.size := by obtain ⟨m, hm⟩ := k0; exact DataW.trod_lt m _ _ _ hm
  obtain ⟨z0, w0⟩ : ∃ zs, IsRow .u8 W a0 len0 cap0 zs := by
    obtain ⟨fuel, hf⟩ := h0
    rcases open_ints Try.underlying22 Try.underlying5 (by kernel_rfl) hf with ⟨hcs, _⟩ | ⟨x, l, c, zs, hcs, _, hl, hm, hz, _, hcell, hwz⟩
    · simp [Value.cells] at hcs
      obtain ⟨rfl, rfl, rfl⟩ := hcs
      exact ⟨[], .inl ⟨rfl, rfl, rfl, rfl⟩⟩
    · simp [Value.cells] at hcs
      obtain ⟨rfl, rfl, rfl⟩ := hcs
      exact ⟨zs, .inr ⟨_, rfl, hl, hm, by simpa using hz, hcell, hwz⟩⟩
  clear hA0 hval0
  refine (opcodeReads_walk a0 len0 cap0 z0 W w0).mono fun e W' ⟨he, bel⟩ => ?_
  subst he
  exact ⟨_, rfl, _, _, _, [], _, [], hW', trodAll_mk1 (shut_bool Try.underlying4 _), (trodAll_cons_mk (Below.trod laidOut (by kernel_rfl) (of_decide_eq_true (by kernel_rfl)) k0 bel lt0) trodAll_mk0), rfl, bel.frame _, fun h => by cases h⟩

theorem opcodeReads_over : Rows.opcodeReadsRow.holds Try.pinned (OpenSpec.ofChange Rows.opcodeReadsSpec) :=
  OpenClaim.holds_of_wide 7 Try.f7 rfl rfl rfl rfl rfl rfl rfl ⟨rfl, rfl, rfl, rfl, rfl⟩ rfl rfl rfl rfl rfl (by kernel_rfl) Try.func7 (by kernel_rfl)
    (of_decide_eq_true (by kernel_rfl)) (by unfold Func.isWrapper; first | (rw [if_pos (by decide +kernel)]; kernel_rfl) | (rw [if_neg (by decide +kernel)]; exact ⟨rfl, rfl⟩))
    (fun os started H enc _ => opcodeReads_lifted os started H enc)

theorem opcodeReads_holds : Rows.OpcodeReadsSaid := opcodeReads_over
#print axioms opcodeReads_holds
end Go.Proofs.Ytgenckilinmdoaa
