/- The document's answer to what bytes are as words. -/
import Derived.Test.YtgenckilinmdoaaOpRofHi
import Derived.BigQuiet
namespace Go.Proofs.Ytgenckilinmdoaa
open Go.RowKit
set_option linter.unusedVariables false
set_option maxRecDepth 20000

theorem dig_cut (p : Nat) (h : p < 16) : ByteArray.extract ⟨#[48, 49, 50, 51, 52, 53, 54, 55, 56, 57, 97, 98, 99, 100, 101, 102]⟩ p (p + 1) = ⟨#[digU p]⟩ := by
  have hk : p = 0 ∨ p = 1 ∨ p = 2 ∨ p = 3 ∨ p = 4 ∨ p = 5 ∨ p = 6 ∨ p = 7 ∨ p = 8 ∨ p = 9 ∨ p = 10 ∨ p = 11 ∨ p = 12 ∨ p = 13 ∨ p = 14 ∨ p = 15 := by omega
  rcases hk with rfl | rfl | rfl | rfl | rfl | rfl | rfl | rfl | rfl | rfl | rfl | rfl | rfl | rfl | rfl | rfl
  all_goals (apply ba_ext; rfl)
theorem hex_join (t : ByteArray) (x y : UInt8) : t ++ (⟨#[32]⟩ : ByteArray) ++ (⟨#[x]⟩ : ByteArray) ++ (⟨#[y]⟩ : ByteArray) = t ++ ((⟨#[32]⟩ : ByteArray) ++ (⟨#[x, y]⟩ : ByteArray)) := by
  rw [ByteArray.append_assoc, ByteArray.append_assoc]
  congr 1

theorem rtext_none (a : Option Addr) (cap : Nat) (w : World) : Calls Try.prog 9 #[.slice a 0 cap] w fun e w' => e = .returned (.tuple #[.string ⟨#[]⟩, .int .i64 0]) ∧ Below w.heap.size w w' := by
  go_enter Try.func9, Try.ntmps9
  go_wp2
  go_ret2
  exact ⟨rfl, Below.refl _ _⟩

theorem rtext_short (bb off len cap l : Nat) (f : Nat → Int) (s : ByteArray) (m c : Int) (w : World) (h0 : 0 < len) (hl : l ≤ 7) (hle : len < l) (hr : 0 ≤ f 0) (hr1 : f 0 ≤ 255) (hc : w.cell? ⟨bb, off, none⟩ = some (.int .u8 (f 0))) (k : ∀ w, Calls Try.prog 11 #[.int .i64 (f 0)] w fun e w' => e = .returned (.agg #[.string s, .int .i64 m, .int .i64 (l : Int), .int .i64 c]) ∧ Below w.heap.size w w') :
    Calls Try.prog 9 #[.slice (some ⟨bb, off, none⟩) len cap] w fun e w' => e = .returned (.tuple #[.string ⟨#[]⟩, .int .i64 0]) ∧ Below w.heap.size w w' := by
  have K := hide k
  clear k
  generalize f 0 = v at *
  go_enter Try.func9, Try.ntmps9
  go_wp2_with fail
  refine (K.out _).mono ?_
  rintro e w1 ⟨rfl, b1⟩
  have B1 := hide (b1.alloc b1.size (.cells #[.string s, .int .i64 m, .int .i64 (l : Int), .int .i64 c] 26))
  clear b1
  go_wp2
  go_ret2
  exact ⟨rfl, B1.out⟩

set_option maxHeartbeats 1000000 in
theorem rtext_full (bb off len cap l : Nat) (f : Nat → Int) (s : ByteArray) (m c : Int) (w : World) (hs : s.size ≤ 4) (hb : bb < w.heap.size) (h1 : 1 ≤ l) (h7 : l ≤ 7) (hle : l ≤ len) (hmax : len ≤ maxLen)
    (hc : ∀ i, i < len → w.cell? ⟨bb, off + i, none⟩ = some (.int .u8 (f i)) ∧ 0 ≤ f i ∧ f i ≤ 255) (k : ∀ w, Calls Try.prog 11 #[.int .i64 (f 0)] w fun e w' => e = .returned (.agg #[.string s, .int .i64 m, .int .i64 (l : Int), .int .i64 c]) ∧ Below w.heap.size w w') :
    Calls Try.prog 9 #[.slice (some ⟨bb, off, none⟩) len cap] w fun e w' => e = .returned (.tuple #[.string (textB s f (l - 1)), .int .i64 (l : Int)]) ∧ Below w.heap.size w w' := by
  have K := hide k
  have HC := hide hc
  have hm2 : len < 9223372036854775808 := by simp [maxLen] at hmax; omega
  obtain ⟨z0, z1, z2⟩ := hc 0 (by omega)
  rw [Nat.add_zero] at z0
  clear k hc hmax
  obtain ⟨v, hv⟩ : ∃ v, v = f 0 := ⟨_, rfl⟩
  rw [← hv] at K z0 z1 z2
  clear hv
  go_enter Try.func9, Try.ntmps9
  go_wp2_with fail
  refine (K.out _).mono ?_
  rintro e w1 ⟨rfl, b1⟩
  obtain ⟨wx, hwx⟩ : ∃ wx, wx = w1.alloc (.cells #[.string s, .int .i64 m, .int .i64 (l : Int), .int .i64 c] 26) := ⟨_, rfl⟩
  have BX := hide (show Below w.heap.size w wx by rw [hwx]; exact b1.alloc b1.size _)
  have ci : wx.cell? ⟨w1.heap.size, 2, none⟩ = some (.int .i64 (l : Int)) := by rw [hwx]; simp
  have CI := hide ci
  have LI := hide (show w1.heap.size < wx.heap.size by rw [hwx]; simp)
  clear b1 K z0 ci
  go_wp2_with fail
  rw [← hwx]
  clear hwx
  have hd : decide (len < l) = false := by rw [decide_eq_false_iff_not]; omega
  try simp only [hd]
  go_loopw [5, 6] (fun tx ix wr => ∃ k : Nat, k ≤ l - 1 ∧ ix = .int .i64 ((k : Int) + 1) ∧ tx = .string (textB s f k) ∧ Below wx.heap.size wx wr) (fun _ ix _ => 9 - (intOf ix).toNat)
  case atStart => exact ⟨0, by omega, rfl, rfl, Below.refl _ _⟩
  case round =>
    obtain ⟨k, hk, rfl, rfl, bel⟩ := hrel
    have cl := (bel.cell (p := ⟨w1.heap.size, 2, none⟩) LI.out).trans CI.out
    by_cases hlt : k < l - 1
    · obtain ⟨y0, y1, y2⟩ := HC.out (k + 1) (by omega)
      have cy := ((bnext BX.out bel).cell (p := ⟨bb, off + (k + 1), none⟩) hb).trans y0
      have HS : Hid (textB s f (k + 1) = textB s f k ++ ((⟨#[32]⟩ : ByteArray) ++ hexB (f (k + 1)))) := rfl
      have BL := hide bel
      have t1 : (textB s f k).size ≤ 100 := by rw [textB_size]; omega
      clear bel y0
      generalize f (k + 1) = z at *
      generalize textB s f k = tk at *
      obtain ⟨p, hp⟩ : ∃ p : Nat, z / 16 = (p : Int) := ⟨(z / 16).toNat, by omega⟩
      obtain ⟨q, hq⟩ : ∃ q : Nat, z % 16 = (q : Int) := ⟨(z % 16).toNat, by omega⟩
      have p16 : p < 16 := by omega
      have q16 : q < 16 := by omega
      have hh : hexB z = ⟨#[digU p, digU q]⟩ := by unfold hexB; rw [hp, hq, Int.toNat_natCast, Int.toNat_natCast]
      have HH := hide hh
      have d1 := dig_cut p p16
      have d2 := dig_cut q q16
      have v1 : (ByteArray.mk #[32]).size = 1 := rfl
      have v2 : (ByteArray.mk #[digU p]).size = 1 := rfl
      have v3 : (ByteArray.mk #[digU q]).size = 1 := rfl
      have u1 : (tk ++ (⟨#[32]⟩ : ByteArray)).size ≤ 101 := by rw [ByteArray.size_append, v1]; omega
      have u2 : (tk ++ (⟨#[32]⟩ : ByteArray) ++ (⟨#[digU p]⟩ : ByteArray)).size ≤ 102 := by rw [ByteArray.size_append, v2]; omega
      clear hh
      go_wp2_with fail
      go_quiet (fail)
      go_wp2_with fail
      go_roundw
      case rel =>
        refine ⟨k + 1, by omega, by go_num, ?_, below_drew BL.out _⟩
        rw [HS.out, HH.out, hex_join]
      case measure => simp [intOf]; omega
    · have hk1 : k = l - 1 := by omega
      have BE := hide (bnext BX.out bel)
      clear bel
      go_wp2_with fail
      go_quiet (fail)
      go_wp2
      go_ret2
      refine ⟨?_, below_drew BE.out _⟩
      rw [hk1]
      rfl
end Go.Proofs.Ytgenckilinmdoaa
