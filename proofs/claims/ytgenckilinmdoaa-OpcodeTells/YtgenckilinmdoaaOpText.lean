/- Bytes as words: two digits of a byte, and an instruction's text. -/
import Derived.Test.YtgenckilinmdoaaOpOf
import Derived.Laws.BytesArg
import Derived.Laws.BytesString
import Derived.RegionTactic
import Derived.BigQuiet
namespace Go.Proofs.Ytgenckilinmdoaa
open Go.RowKit
set_option linter.unusedVariables false
set_option maxRecDepth 20000

def digU (d : Nat) : UInt8 := [48, 49, 50, 51, 52, 53, 54, 55, 56, 57, 97, 98, 99, 100, 101, 102].getD d 0
/-- The two digits of a byte. -/
def hexB (v : Int) : ByteArray := ⟨#[digU (v / 16).toNat, digU (v % 16).toNat]⟩

theorem conv_two (w : World) (x y : UInt8) : (convert 22 9 (.slice (some ⟨w.heap.size, 0, none⟩) 2 2)).run Try.prog (w.alloc (.cells #[.int .u8 x.toNat, .int .u8 y.toNat] 5)).drew = .ok (.string ⟨#[x, y]⟩) (w.alloc (.cells #[.int .u8 x.toNat, .int .u8 y.toNat] 5)).drew := by
  have h := run_convert_bytes_arg (P := Try.prog) (w.alloc (.cells #[.int .u8 x.toNat, .int .u8 y.toNat] 5)).drew 22 5 Try.underlying22 Try.underlying5 w.heap.size 0 2 2 [(x.toNat : Int), (y.toNat : Int)] rfl
    (fun i hi => by
      have : i = 0 ∨ i = 1 := by omega
      rcases this with rfl | rfl
      · show (w.alloc _).cell? _ = _
        simp
      · show (w.alloc _).cell? _ = _
        simp) 9 Try.underlying9
  rw [h]
  simp [strOfNums]
theorem dig_get (p : Int) (h0 : 0 ≤ p) (h1 : p < 16) (hp : p.toNat < (ByteArray.mk #[48, 49, 50, 51, 52, 53, 54, 55, 56, 57, 97, 98, 99, 100, 101, 102]).size) :
    (ByteArray.mk #[48, 49, 50, 51, 52, 53, 54, 55, 56, 57, 97, 98, 99, 100, 101, 102])[p.toNat]'hp = digU p.toNat := by
  obtain ⟨k, rfl⟩ : ∃ k : Nat, p = k := ⟨p.toNat, by omega⟩
  have : k < 16 := by omega
  have hk : k = 0 ∨ k = 1 ∨ k = 2 ∨ k = 3 ∨ k = 4 ∨ k = 5 ∨ k = 6 ∨ k = 7 ∨ k = 8 ∨ k = 9 ∨ k = 10 ∨ k = 11 ∨ k = 12 ∨ k = 13 ∨ k = 14 ∨ k = 15 := by omega
  rcases hk with rfl | rfl | rfl | rfl | rfl | rfl | rfl | rfl | rfl | rfl | rfl | rfl | rfl | rfl | rfl | rfl
  all_goals rfl
theorem and15_u8 (v : Int) (h0 : 0 ≤ v) (h1 : v ≤ 255) : bits .and .u8 v 15 = v % 16 := by
  obtain ⟨k, rfl⟩ : ∃ k : Nat, v = k := ⟨v.toNat, by omega⟩
  have h : (List.range 256).all (fun k => decide (bits .and .u8 (k : Int) 15 = (k : Int) % 16)) = true := by decide +kernel
  simpa using for_all h k (by omega)

theorem two_walk (p q v : Int) (w : World) (h0 : 0 ≤ v) (h1 : v ≤ 255) (ep : v / 16 = p) (eq : bits .and .u8 v 15 = q) (em : v % 16 = q) (p0 : 0 ≤ p) (p1 : p < 16) (q0 : 0 ≤ q) (q1 : q < 16) : Calls Try.prog 12 #[.int .u8 v] w fun e w' => e = .returned (.string (hexB v)) ∧ Below w.heap.size w w' := by
  have hh : hexB v = ⟨#[digU p.toNat, digU q.toNat]⟩ := by unfold hexB; rw [ep, em]
  rw [hh]
  clear hh em
  have kc := conv_two
  go_enter Try.func12, Try.ntmps12
  go_wp2_with fail
  go_region
  all_goals go_wp2
  all_goals go_ret
  all_goals rw [dig_get p p0 p1, dig_get q q0 q1]
  all_goals exact ⟨rfl, ((Below.refl _ w).alloc (Nat.le_refl _) _).drew⟩
theorem two_any (v : Int) (w : World) (h0 : 0 ≤ v) (h1 : v ≤ 255) : Calls Try.prog 12 #[.int .u8 v] w fun e w' => e = .returned (.string (hexB v)) ∧ Below w.heap.size w w' :=
  two_walk (v / 16) (v % 16) v w h0 h1 rfl (and15_u8 v h0 h1) rfl (by omega) (by omega) (by omega) (by omega)

/-- An instruction's text behind k of its bytes: each behind a blank. -/
def textB (s : ByteArray) (f : Nat → Int) : Nat → ByteArray
  | 0 => s
  | k + 1 => textB s f k ++ ((⟨#[32]⟩ : ByteArray) ++ hexB (f (k + 1)))

theorem hexB_size (v : Int) : (hexB v).size = 2 := rfl
theorem textB_size (s : ByteArray) (f : Nat → Int) : ∀ k, (textB s f k).size = s.size + 3 * k
  | 0 => rfl
  | k + 1 => by
    rw [textB, ByteArray.size_append, ByteArray.size_append, hexB_size, textB_size s f k]
    show s.size + 3 * k + (1 + 2) = _
    omega
theorem text_none (a : Option Addr) (cap : Nat) (w : World) : Calls Try.prog 8 #[.slice a 0 cap] w fun e w' => e = .returned (.tuple #[.string ⟨#[]⟩, .int .i64 0]) ∧ Below w.heap.size w w' := by
  go_enter Try.func8, Try.ntmps8
  go_wp2
  go_ret2
  exact ⟨rfl, Below.refl _ _⟩

theorem text_short (bb off len cap l : Nat) (f : Nat → Int) (s : ByteArray) (m c : Int) (w : World) (h0 : 0 < len) (hl : l ≤ 7) (hle : len < l) (hr : 0 ≤ f 0) (hr1 : f 0 ≤ 255) (hc : w.cell? ⟨bb, off, none⟩ = some (.int .u8 (f 0))) (k : ∀ w, Calls Try.prog 10 #[.int .i64 (f 0)] w fun e w' => e = .returned (.agg #[.string s, .int .i64 m, .int .i64 (l : Int), .int .i64 c]) ∧ Below w.heap.size w w') :
    Calls Try.prog 8 #[.slice (some ⟨bb, off, none⟩) len cap] w fun e w' => e = .returned (.tuple #[.string ⟨#[]⟩, .int .i64 0]) ∧ Below w.heap.size w w' := by
  have K := hide k
  clear k
  generalize f 0 = v at *
  go_enter Try.func8, Try.ntmps8
  go_wp2_with fail
  refine (K.out _).mono ?_
  rintro e w1 ⟨rfl, b1⟩
  have B1 := hide (b1.alloc b1.size (.cells #[.string s, .int .i64 m, .int .i64 (l : Int), .int .i64 c] 27))
  clear b1
  go_wp2
  go_ret2
  exact ⟨rfl, B1.out⟩

theorem text_one (bb off len cap : Nat) (f : Nat → Int) (s : ByteArray) (m c : Int) (l : Nat) (w : World) (hb : bb < w.heap.size) (h1 : 1 ≤ l) (h2 : l ≤ 1) (hle : 1 ≤ len) (hcap : len ≤ cap) (hmax : cap ≤ maxLen)
    (hc : ∀ i, i < len → w.cell? ⟨bb, off + i, none⟩ = some (.int .u8 (f i)) ∧ 0 ≤ f i ∧ f i ≤ 255) (k : ∀ w, Calls Try.prog 10 #[.int .i64 (f 0)] w fun e w' => e = .returned (.agg #[.string s, .int .i64 m, .int .i64 (l : Int), .int .i64 c]) ∧ Below w.heap.size w w') :
    Calls Try.prog 8 #[.slice (some ⟨bb, off, none⟩) len cap] w fun e w' => e = .returned (.tuple #[.string (textB s f (l - 1)), .int .i64 (l : Int)]) ∧ Below w.heap.size w w' := by
  by_cases hcp : cap = 1
  ·
    have K := hide k
    have HC := hide hc
    have hm2 : cap < 9223372036854775808 := by simp [maxLen] at hmax; omega
    obtain ⟨z0, z1, z2⟩ := hc 0 (by omega)
    rw [Nat.add_zero] at z0
    clear k hc hmax
    obtain ⟨v, hv⟩ : ∃ v, v = f 0 := ⟨_, rfl⟩
    rw [← hv] at K z0 z1 z2
    clear hv
    go_enter Try.func8, Try.ntmps8
    go_wp2_with fail
    refine (K.out _).mono ?_
    rintro e w1 ⟨rfl, b1⟩
    obtain ⟨wx, hwx⟩ : ∃ wx, wx = w1.alloc (.cells #[.string s, .int .i64 m, .int .i64 (l : Int), .int .i64 c] 27) := ⟨_, rfl⟩
    have BX := hide (show Below w.heap.size w wx by rw [hwx]; exact b1.alloc b1.size _)
    have ci : wx.cell? ⟨w1.heap.size, 2, none⟩ = some (.int .i64 (l : Int)) := by rw [hwx]; simp
    have CI := hide ci
    have LI := hide (show w1.heap.size < wx.heap.size by rw [hwx]; simp)
    clear b1 K z0 ci
    go_wp2_with fail
    rw [← hwx]
    clear hwx
    have hd : decide (len < l) = false := by rw [decide_eq_false_iff_not]; omega
    try simp only [hd]
    go_loopw [5, 28] (fun tx ix wr => ∃ k : Nat, k ≤ l - 1 ∧ ix = .int .i64 (k : Int) ∧ tx = .string (textB s f k) ∧ Below wx.heap.size wx wr) (fun _ ix _ => 8 - (intOf ix).toNat)
    case atStart => exact ⟨0, by omega, rfl, rfl, Below.refl _ _⟩
    case round =>
      obtain ⟨k, hk, rfl, rfl, bel⟩ := hrel
      have hk1 : k = l - 1 := by omega
      have hk0 : k = 0 := by omega
      have cl := (bel.cell (p := ⟨w1.heap.size, 2, none⟩) LI.out).trans CI.out
      have BE := hide (bnext BX.out bel)
      clear bel
      go_wp2_with fail
      go_region
      all_goals go_wp2
      all_goals go_ret2
      all_goals (refine ⟨?_, BE.out.drew⟩; rw [hk1]; rfl)
  ·
    have K := hide k
    have HC := hide hc
    have hm2 : cap < 9223372036854775808 := by simp [maxLen] at hmax; omega
    obtain ⟨z0, z1, z2⟩ := hc 0 (by omega)
    rw [Nat.add_zero] at z0
    clear k hc hmax
    obtain ⟨v, hv⟩ : ∃ v, v = f 0 := ⟨_, rfl⟩
    rw [← hv] at K z0 z1 z2
    clear hv
    go_enter Try.func8, Try.ntmps8
    go_wp2_with fail
    refine (K.out _).mono ?_
    rintro e w1 ⟨rfl, b1⟩
    obtain ⟨wx, hwx⟩ : ∃ wx, wx = w1.alloc (.cells #[.string s, .int .i64 m, .int .i64 (l : Int), .int .i64 c] 27) := ⟨_, rfl⟩
    have BX := hide (show Below w.heap.size w wx by rw [hwx]; exact b1.alloc b1.size _)
    have ci : wx.cell? ⟨w1.heap.size, 2, none⟩ = some (.int .i64 (l : Int)) := by rw [hwx]; simp
    have CI := hide ci
    have LI := hide (show w1.heap.size < wx.heap.size by rw [hwx]; simp)
    clear b1 K z0 ci
    go_wp2_with fail
    rw [← hwx]
    clear hwx
    have hd : decide (len < l) = false := by rw [decide_eq_false_iff_not]; omega
    try simp only [hd]
    go_loopw [5, 28] (fun tx ix wr => ∃ k : Nat, k ≤ l - 1 ∧ ix = .int .i64 (k : Int) ∧ tx = .string (textB s f k) ∧ Below wx.heap.size wx wr) (fun _ ix _ => 8 - (intOf ix).toNat)
    case atStart => exact ⟨0, by omega, rfl, rfl, Below.refl _ _⟩
    case round =>
      obtain ⟨k, hk, rfl, rfl, bel⟩ := hrel
      have hk1 : k = l - 1 := by omega
      have hk0 : k = 0 := by omega
      have cl := (bel.cell (p := ⟨w1.heap.size, 2, none⟩) LI.out).trans CI.out
      have BE := hide (bnext BX.out bel)
      clear bel
      go_wp2_with fail
      go_region
      all_goals go_wp2
      all_goals go_ret2
      all_goals (refine ⟨?_, BE.out.drew⟩; rw [hk1]; rfl)
theorem text_more (bb off len cap l : Nat) (f : Nat → Int) (s : ByteArray) (m c : Int) (w : World) (hs : s.size ≤ 4) (hb : bb < w.heap.size) (h1 : 2 ≤ l) (h7 : l ≤ 7) (hle : l ≤ len) (hcap : len ≤ cap) (hmax : cap ≤ maxLen)
    (hc : ∀ i, i < len → w.cell? ⟨bb, off + i, none⟩ = some (.int .u8 (f i)) ∧ 0 ≤ f i ∧ f i ≤ 255) (k : ∀ w, Calls Try.prog 10 #[.int .i64 (f 0)] w fun e w' => e = .returned (.agg #[.string s, .int .i64 m, .int .i64 (l : Int), .int .i64 c]) ∧ Below w.heap.size w w') :
    Calls Try.prog 8 #[.slice (some ⟨bb, off, none⟩) len cap] w fun e w' => e = .returned (.tuple #[.string (textB s f (l - 1)), .int .i64 (l : Int)]) ∧ Below w.heap.size w w' := by
  have hcp : ¬ cap = 1 := by omega
  have K := hide k
  have HC := hide hc
  have hm2 : cap < 9223372036854775808 := by simp [maxLen] at hmax; omega
  obtain ⟨z0, z1, z2⟩ := hc 0 (by omega)
  rw [Nat.add_zero] at z0
  clear k hc hmax
  obtain ⟨v, hv⟩ : ∃ v, v = f 0 := ⟨_, rfl⟩
  rw [← hv] at K z0 z1 z2
  clear hv
  go_enter Try.func8, Try.ntmps8
  go_wp2_with fail
  refine (K.out _).mono ?_
  rintro e w1 ⟨rfl, b1⟩
  obtain ⟨wx, hwx⟩ : ∃ wx, wx = w1.alloc (.cells #[.string s, .int .i64 m, .int .i64 (l : Int), .int .i64 c] 27) := ⟨_, rfl⟩
  have BX := hide (show Below w.heap.size w wx by rw [hwx]; exact b1.alloc b1.size _)
  have ci : wx.cell? ⟨w1.heap.size, 2, none⟩ = some (.int .i64 (l : Int)) := by rw [hwx]; simp
  have CI := hide ci
  have LI := hide (show w1.heap.size < wx.heap.size by rw [hwx]; simp)
  clear b1 K z0 ci
  go_wp2_with fail
  rw [← hwx]
  clear hwx
  have hd : decide (len < l) = false := by rw [decide_eq_false_iff_not]; omega
  try simp only [hd]
  go_loopw [5, 28] (fun tx ix wr => ∃ k : Nat, k ≤ l - 1 ∧ ix = .int .i64 (k : Int) ∧ tx = .string (textB s f k) ∧ Below wx.heap.size wx wr) (fun _ ix _ => 8 - (intOf ix).toNat)
  case atStart => exact ⟨0, by omega, rfl, rfl, Below.refl _ _⟩
  case round =>
    obtain ⟨k, hk, rfl, rfl, bel⟩ := hrel
    by_cases hlt : k < l - 1
    · obtain ⟨y0, y1, y2⟩ := HC.out (k + 1) (by omega)
      rw [show off + (k + 1) = off + 1 + k by omega] at y0
      have cy := ((bnext BX.out bel).cell (p := ⟨bb, off + 1 + k, none⟩) hb).trans y0
      have HT := hide (fun w => two_any (f (k + 1)) w y1 y2)
      have HS : Hid (textB s f (k + 1) = textB s f k ++ ((⟨#[32]⟩ : ByteArray) ++ hexB (f (k + 1)))) := rfl
      have BL := hide bel
      have t1 : (textB s f k).size ≤ 100 := by rw [textB_size]; omega
      have t2 : (hexB (f (k + 1))).size = 2 := rfl
      have t3 : ((⟨#[32]⟩ : ByteArray) ++ hexB (f (k + 1))).size = 3 := by rw [ByteArray.size_append, t2]; rfl
      clear bel y0
      generalize f (k + 1) = z at *
      generalize textB s f k = tk at *
      go_wp2_with fail
      refine (HT.out _).mono ?_
      rintro e w4 ⟨rfl, b4⟩
      have B4 := hide (bnext BL.out b4)
      clear b4 BL cy
      go_wp2_with fail
      go_roundw
      case rel => exact ⟨k + 1, by omega, by go_num, by rw [HS.out], B4.out⟩
      case measure => simp [intOf]; omega
    · have hk1 : k = l - 1 := by omega
      have cl := (bel.cell (p := ⟨w1.heap.size, 2, none⟩) LI.out).trans CI.out
      have BE := hide (bnext BX.out bel)
      clear bel
      go_wp2_with fail
      go_region
      all_goals go_wp2
      all_goals go_ret2
      all_goals (refine ⟨?_, BE.out.drew⟩; rw [hk1]; rfl)
end Go.Proofs.Ytgenckilinmdoaa
