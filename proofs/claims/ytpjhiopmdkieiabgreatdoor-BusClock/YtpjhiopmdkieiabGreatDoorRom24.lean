/- The law's own maker of images: so many pages of bytes, whatever they are. -/
import Derived.Test.YtpjhiopmdkieiabGreatDoorRows
import Derived.Test.YtpjhiopmdkieiabGreatDoorImage
import Derived.Laws.CopyOwn
namespace Go.Proofs.YtpjhiopmdkieiabGreatDoor.L24
open Go.Proofs.YtpjhiopmdkieiabGreatDoor.C3
open Go.RowKit
set_option linter.unusedVariables false

set_option maxHeartbeats 1000000 in
theorem rom_nil (p : Nat) (hp : p ≤ 1000) (w : World) : Calls Tryz.prog 8 #[.int .i64 (p : Int), .slice none 0 0] w fun e w' => ∃ bs : List Int, bs.length = p * 8192 ∧ e = Ending.returned (.slice (some ⟨w.heap.size, 0, none⟩) (p * 8192) (p * 8192)) ∧ Bytes 5 w' w.heap.size bs ∧ Below w.heap.size w w' := by
  obtain ⟨n, hn⟩ : ∃ n, p * 8192 = n := ⟨_, rfl⟩
  have en : (p : Int) * 8192 = (n : Int) := by omega
  have hm := mk_bytes n (by omega) w
  obtain ⟨w1, hw1⟩ : ∃ w1, w1 = (w.alloc (.cells ((List.replicate n (0 : Int)).map (Value.int .u8)).toArray 5)) := ⟨_, rfl⟩
  have B1 : Hid (Bytes 5 w1 w.heap.size (List.replicate n 0)) := by subst hw1; exact hide Bytes.made
  have L1 : Hid (Below w.heap.size w w1) := by subst hw1; exact hide ((Below.refl _ w).alloc (Nat.le_refl _) _)
  have n1 : n ≤ 8192000 := by omega
  rw [hn]
  rw [← hw1] at hm
  clear hw1 hn
  set_option maxRecDepth 20000 in
  go_enter Tryz.func8, Tryz.ntmps8
  set_option maxRecDepth 20000 in
  go_wp2_with fail
  set_option maxRecDepth 20000 in
  go_loopw [6] (fun si wr => ∃ (j : Nat) (bs : List Int), j ≤ n ∧ si = .int .i64 (j : Int) ∧ bs.length = n ∧ Bytes 5 wr w.heap.size bs ∧ Below w.heap.size w wr) (fun si _ => n - (intOf si).toNat)
  case atStart => exact ⟨0, _, by omega, rfl, by simp, B1.out, L1.out⟩
  case round =>
    obtain ⟨j, bs, hj, rfl, hl, hb, bel⟩ := hrel
    by_cases h : j < n
    · obtain ⟨hc, c0, c1⟩ := hb.cell j (by omega)
      have hf := hb.free j
      have HB := hide hb
      have BL := hide bel
      clear hb bel
      set_option maxRecDepth 20000 in
      go_wp2_with fail
      set_option maxRecDepth 20000 in
      go_roundw
      case rel => exact ⟨j + 1, _, by omega, by go_num, by simpa using hl, HB.out.put j _ (by first | exact u8_wrap _ | skip), BL.out.setCell (Nat.le_refl _) _⟩
      case measure => simp [intOf]; omega
    · obtain rfl : j = n := by omega
      have HB := hide hb
      have BL := hide bel
      clear hb bel
      set_option maxRecDepth 20000 in
      go_wp2_with (first | (refine wpList_copy_splice rfl (.tmp 25) (.tmp 26) 61 61 rfl 5 Tryz.underlying61 (by kernel_rfl) (some ⟨w.heap.size, 0, none⟩) none j j 0 0 rfl rfl w.heap.size 0 (bs.map (Value.int .u8)) 5 HB.out.1 [] (by simp) (fun h => absurd h (by simp)) (by simp) (by simp) w.heap.size w BL.out (Nat.le_refl _) ?_; intro w5 h5 b5))
      set_option maxRecDepth 20000 in
      go_ret
      refine ⟨bs, hl, rfl, ⟨?_, HB.out.2⟩, b5⟩
      have h6 := h5.out
      rw [show splice (bs.map (Value.int .u8)) 0 [] = bs.map (Value.int .u8) by simp [splice]] at h6
      exact h6
set_option maxHeartbeats 1000000 in
theorem rom_row (p : Nat) (hp : p ≤ 1000) (hp1 : 1 ≤ p) (q off len cap : Nat) (zs : List Int) (w : World) (hl1 : 0 < len) (hlen : len ≤ 8192) (hq : q < w.heap.size) (hz : ∀ i, i < len → w.cell? ⟨q, off + i, none⟩ = some (.int .u8 (zs.getD i 0)) ∧ (Lit.int .u8 (zs.getD i 0)).wf = true) :
    Calls Tryz.prog 8 #[.int .i64 (p : Int), .slice (some ⟨q, off, none⟩) len cap] w fun e w' => ∃ bs : List Int, bs.length = p * 8192 ∧ e = Ending.returned (.slice (some ⟨w.heap.size, 0, none⟩) (p * 8192) (p * 8192)) ∧ Bytes 5 w' w.heap.size bs ∧ Below w.heap.size w w' := by
  obtain ⟨n, hn⟩ : ∃ n, p * 8192 = n := ⟨_, rfl⟩
  have en : (p : Int) * 8192 = (n : Int) := by omega
  have hm := mk_bytes n (by omega) w
  obtain ⟨w1, hw1⟩ : ∃ w1, w1 = (w.alloc (.cells ((List.replicate n (0 : Int)).map (Value.int .u8)).toArray 5)) := ⟨_, rfl⟩
  have B1 : Hid (Bytes 5 w1 w.heap.size (List.replicate n 0)) := by subst hw1; exact hide Bytes.made
  have L1 : Hid (Below w.heap.size w w1) := by subst hw1; exact hide ((Below.refl _ w).alloc (Nat.le_refl _) _)
  have n1 : n ≤ 8192000 := by omega
  have n2 : len ≤ n := by omega
  have HZ := hide hz
  have HQ := hide hq
  rw [hn]
  rw [← hw1] at hm
  clear hw1 hn hz hq
  set_option maxRecDepth 20000 in
  go_enter Tryz.func8, Tryz.ntmps8
  set_option maxRecDepth 20000 in
  go_wp2_with fail
  set_option maxRecDepth 20000 in
  go_loopw [6] (fun si wr => ∃ (j : Nat) (bs : List Int), j ≤ n ∧ si = .int .i64 (j : Int) ∧ bs.length = n ∧ Bytes 5 wr w.heap.size bs ∧ Below w.heap.size w wr) (fun si _ => n - (intOf si).toNat)
  case atStart => exact ⟨0, _, by omega, rfl, by simp, B1.out, L1.out⟩
  case round =>
    obtain ⟨j, bs, hj, rfl, hl, hb, bel⟩ := hrel
    by_cases h : j < n
    · obtain ⟨hc, c0, c1⟩ := hb.cell j (by omega)
      have hf := hb.free j
      have HB := hide hb
      have BL := hide bel
      clear hb bel
      set_option maxRecDepth 20000 in
      go_wp2_with fail
      set_option maxRecDepth 20000 in
      go_roundw
      case rel => exact ⟨j + 1, _, by omega, by go_num, by simpa using hl, HB.out.put j _ (by first | exact u8_wrap _ | skip), BL.out.setCell (Nat.le_refl _) _⟩
      case measure => simp [intOf]; omega
    · obtain rfl : j = n := by omega
      have HB := hide hb
      have BL := hide bel
      have HC : Hid (∀ i v, (((List.range len).map fun i => Value.int .u8 (zs.getD i 0)))[i]? = some v → wr.cell? ((⟨q, off, none⟩ : Addr).add i) = some v) := hide (by
        intro i v hv
        obtain ⟨hi, e⟩ := List.getElem?_eq_some_iff.1 hv
        have hi2 : i < len := by simpa using hi
        have e1 : (⟨q, off, none⟩ : Addr).add i = ⟨q, off + i, none⟩ := by unfold Addr.add; split <;> simp_all
        rw [e1, bel.cell (p := ⟨q, off + i, none⟩) HQ.out, (HZ.out i hi2).1, ← e]
        simp)
      clear hb bel
      set_option maxRecDepth 20000 in
      go_wp2_with (first | (refine wpList_copy_splice rfl (.tmp 25) (.tmp 26) 61 61 rfl 5 Tryz.underlying61 (by kernel_rfl) (some ⟨w.heap.size, 0, none⟩) (some ⟨q, off, none⟩) j j len cap rfl rfl w.heap.size 0 (bs.map (Value.int .u8)) 5 HB.out.1 ((List.range len).map fun i => Value.int .u8 (zs.getD i 0)) (by rw [List.length_map, List.length_range]; exact (Nat.min_eq_left n2).symm) (fun _ => ⟨rfl, _, rfl, HC.out⟩) (by rw [List.length_map, List.length_range, List.length_map]; omega) (by intro v hv; obtain ⟨i, _, rfl⟩ := List.mem_map.1 hv; rfl) w.heap.size w BL.out (Nat.le_refl _) ?_; intro w5 h5 b5))
      set_option maxRecDepth 20000 in
      go_ret
      have h6 := h5.out
      refine ⟨(List.range len).map (fun i => zs.getD i 0) ++ bs.drop len, ?_, rfl, ⟨?_, ?_⟩, b5⟩
      · simp; omega
      · rw [h6]
        congr 2
        simp [splice, List.map_drop, List.map_append]
      · intro z hz
        rcases List.mem_append.1 hz with hz | hz
        · obtain ⟨i, hi, rfl⟩ := List.mem_map.1 hz
          exact u8_range (HZ.out i (List.mem_range.1 hi)).2
        · exact HB.out.2 z (List.mem_of_mem_drop hz)
end Go.Proofs.YtpjhiopmdkieiabGreatDoor.L24
