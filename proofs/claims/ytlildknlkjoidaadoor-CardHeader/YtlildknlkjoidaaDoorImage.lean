/- The law's own maker of images: so many bytes, whatever they are. -/
import Derived.Test.YtlildknlkjoidaaDoorRowkit
import Derived.Test.YtlildknlkjoidaaDoorProg
import Derived.Test.YtlildknlkjoidaaDoorPlain
import Derived.RegionTactic
import Derived.Deep.RegionLaw
namespace Go.Proofs.YtlildknlkjoidaaDoor
open Go.RowKit
set_option linter.unusedVariables false

theorem Tryd.info5 : (Tryd.prog.info? 5).map (fun i => (i.zero, i.size, i.bytes)) = some (some (.int .u8 0), 1, 1) := by kernel_rfl
theorem mk_bytes (n : Nat) (hn : n ≤ 281474976710656) (w : World) :
    (Instr.makeSlice 22 (.int .i64 (n : Int)) (.int .i64 (n : Int))).run Tryd.prog w = .ok (.slice (some ⟨w.heap.size, 0, none⟩) n n) (w.alloc (.cells ((List.replicate n (0 : Int)).map (Value.int .u8)).toArray 5)) := by
  obtain ⟨i, hi, hz⟩ := Option.map_eq_some_iff.1 Tryd.info5
  simp only [Prod.mk.injEq] at hz
  exact make_bytes Tryd.underlying22 hi hz.1 hz.2.1 hz.2.2 n hn w

theorem u8_wrap (x : Int) : 0 ≤ IntKind.u8.wrap x ∧ IntKind.u8.wrap x < 256 := by
  have e : IntKind.u8.wrap x = x % 256 := by rfl
  rw [e]; omega
theorem u8_xor (x y : Int) : 0 ≤ bits .xor .u8 x y ∧ bits .xor .u8 x y < 256 := by
  unfold bits; exact u8_wrap _

theorem image_none (n : Nat) (a : Option Addr) (cap : Nat) (w : World) (hn : n ≤ 1000000) :
    Calls Tryd.prog 8 #[.int .i64 (n : Int), .slice a 0 cap] w fun e w' => ∃ bs : List Int, bs.length = n ∧ e = .returned (.slice (some ⟨w.heap.size, 0, none⟩) n n) ∧ Bytes 5 w' w.heap.size bs ∧ Below w.heap.size w w' := by
  have hm := mk_bytes n (by omega) w
  obtain ⟨w1, hw1⟩ : ∃ w1, w1 = (w.alloc (.cells ((List.replicate n (0 : Int)).map (Value.int .u8)).toArray 5)) := ⟨_, rfl⟩
  have B1 : Hid (Bytes 5 w1 w.heap.size (List.replicate n 0)) := by subst hw1; exact hide Bytes.made
  have L1 : Hid (Below w.heap.size w w1) := by subst hw1; exact hide ((Below.refl _ w).alloc (Nat.le_refl _) _)
  rw [← hw1] at hm
  clear hw1
  go_enter Tryd.func8, Tryd.ntmps8
  go_wp2_with fail
  go_loopw [6] (fun si wr => ∃ (j : Nat) (bs : List Int), j ≤ n ∧ si = .int .i64 (j : Int) ∧ bs.length = n ∧ Bytes 5 wr w.heap.size bs ∧ Below w.heap.size w wr) (fun si _ => n - (intOf si).toNat)
  case atStart => exact ⟨0, _, by omega, rfl, by simp, B1.out, L1.out⟩
  case round =>
    obtain ⟨j, bs, hj, rfl, hl, hb, bel⟩ := hrel
    by_cases h : j < n
    · obtain ⟨hc, c0, c1⟩ := hb.cell j (by omega)
      have hf := hb.free j
      have HB := hide hb
      have BL := hide bel
      clear hb bel
      go_wp2_with fail
      go_roundw
      case rel => exact ⟨j + 1, _, by omega, by go_num, by simpa using hl, HB.out.put j _ (by first | exact u8_wrap _ | skip), BL.out.setCell (Nat.le_refl _) _⟩
      case measure => simp [intOf]; omega
    · obtain rfl : j = n := by omega
      have HB := hide hb
      have BL := hide bel
      clear hb bel
      go_wp2_with fail
      go_ret
      exact ⟨bs, hl, rfl, HB.out, BL.out⟩

theorem image_some (n bb off len cap : Nat) (zs : List Int) (w : World) (hn : n ≤ 1000000) (hl0 : 0 < len) (hlm : len ≤ maxLen) (hbb : bb < w.heap.size)
    (hcb : ∀ i, i < len → w.cell? ⟨bb, off + i, none⟩ = some (.int .u8 (zs.getD i 0)) ∧ (Lit.int .u8 (zs.getD i 0)).wf = true) :
    Calls Tryd.prog 8 #[.int .i64 (n : Int), .slice (some ⟨bb, off, none⟩) len cap] w fun e w' => ∃ bs : List Int, bs.length = n ∧ e = .returned (.slice (some ⟨w.heap.size, 0, none⟩) n n) ∧ Bytes 5 w' w.heap.size bs ∧ Below w.heap.size w w' := by
  have hm := mk_bytes n (by omega) w
  have hlm' : len < 9223372036854775808 := by simp [maxLen] at hlm; omega
  clear hlm
  obtain ⟨w1, hw1⟩ : ∃ w1, w1 = (w.alloc (.cells ((List.replicate n (0 : Int)).map (Value.int .u8)).toArray 5)) := ⟨_, rfl⟩
  have B1 : Hid (Bytes 5 w1 w.heap.size (List.replicate n 0)) := by subst hw1; exact hide Bytes.made
  have L1 : Hid (Below w.heap.size w w1) := by subst hw1; exact hide ((Below.refl _ w).alloc (Nat.le_refl _) _)
  have HC := hide hcb
  rw [← hw1] at hm
  clear hw1 hcb
  have hbg : bb ≠ w.heap.size := by omega
  go_enter Tryd.func8, Tryd.ntmps8
  go_wp2_with fail
  go_loopw [6] (fun si wr => ∃ (j : Nat) (bs : List Int), j ≤ n ∧ si = .int .i64 (j : Int) ∧ bs.length = n ∧ Bytes 5 wr w.heap.size bs ∧ Below w.heap.size w wr) (fun si _ => n - (intOf si).toNat)
  case atStart => exact ⟨0, _, by omega, rfl, by simp, B1.out, L1.out⟩
  case round =>
    obtain ⟨j, bs, hj, rfl, hl, hb, bel⟩ := hrel
    by_cases h : j < n
    · obtain ⟨hc, c0, c1⟩ := hb.cell j (by omega)
      have hf := hb.free j
      have hml : j % len < len := Nat.mod_lt _ hl0
      obtain ⟨hz, wz⟩ := HC.out (j % len) hml
      rw [← bel.cell (p := ⟨bb, off + j % len, none⟩) hbb] at hz
      obtain ⟨z0, z1⟩ := u8_range wz
      generalize zs.getD (j % len) 0 = z at *
      have hz2 : ∀ v, (wr.setCell ⟨w.heap.size, j, none⟩ v).cell? ⟨bb, off + j % len, none⟩ = some (.int .u8 z) := by
        intro v
        exact (World.cell?_setCell_other _ _ _ _ (by intro e; injection e; omega)).trans hz
      have et : Int.tmod (j : Int) (len : Int) = ((j % len : Nat) : Int) := by
        rw [Int.tmod_eq_emod_of_nonneg (by omega)]; simp
      have HB := hide hb
      have BL := hide bel
      clear hb bel wz
      go_wp2_with fail
      go_region
      all_goals (try go_wp2)
      go_roundw
      case rel => exact ⟨j + 1, _, by omega, by go_num, by simpa using hl, (HB.out.put j _ (u8_wrap _)).put j _ (u8_xor _ _), ((BL.out.setCell (Nat.le_refl _) _).setCell (Nat.le_refl _) _).drew⟩
      case measure => simp [intOf]; omega
    · obtain rfl : j = n := by omega
      have HB := hide hb
      have BL := hide bel
      clear hb bel
      go_wp2_with fail
      go_ret
      exact ⟨bs, hl, rfl, HB.out, BL.out⟩

theorem image_any (n : Nat) (a : Option Addr) (len cap : Nat) (zs : List Int) (w : World) (hn : n ≤ 1000000) (h : IsRow .u8 w a len cap zs) :
    Calls Tryd.prog 8 #[.int .i64 (n : Int), .slice a len cap] w fun e w' => ∃ bs : List Int, bs.length = n ∧ e = .returned (.slice (some ⟨w.heap.size, 0, none⟩) n n) ∧ Bytes 5 w' w.heap.size bs ∧ Below w.heap.size w w' := by
  rcases Nat.eq_zero_or_pos len with rfl | hl
  · exact image_none n a cap w hn
  · obtain ⟨b, off, rfl, hb, h1, h2, hc⟩ := h.cells hl
    exact image_some n b off len cap zs w hn hl (by omega) hb hc
end Go.Proofs.YtlildknlkjoidaaDoor
