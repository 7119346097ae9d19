/- What a byte is, as an instruction: its name, its mode, its length and its cycles. -/
import Derived.Test.YtgenckilinmdoaaRows
import Derived.Test.YtgenckilinmdoaaPlain
import Derived.Test.YtgenckilinmdoaaKit
import Derived.Test.YtgenckilinmdoaaBits
import Derived.Test.YtgenckilinmdoaaKept
import Derived.Test.YtgenckilinmdoaaLastOp
import Derived.Test.YtgenckilinmdoaaOpRow
import Derived.Test.YtgenckilinmdoaaOpLen
import Derived.Laws.Rows
import Derived.Laws.ResultCell
import Derived.Laws.CopyOwn
import Derived.Deep.RegionWith
import Derived.WalkMore
import Derived.WalkKit
import Derived.Below
import Derived.OneCell
import Derived.Handy
namespace Go.Proofs.Ytgenckilinmdoaa
open Go.RowKit
set_option linter.unusedVariables false
set_option maxRecDepth 20000

/-- What a byte is, as it lies in memory: four cells. -/
def infoC (b : Nat) : Array Value := #[.string (nameOf b), .int .i64 (modeOf b), .int .i64 (lenOf b), .int .i64 (cycOf b)]

theorem of_walk (n : Int) (b : Nat) (s : ByteArray) (m l c : Int) (w : World)
    (cb : ∀ w, Calls Try.prog 14 #[.int .i64 n] w fun e w' => e = .returned (.int .i64 (b : Int)) ∧ w' = w)
    (cr : ∀ w, Calls Try.prog 13 #[.int .i64 (b : Int)] w fun e w' => e = .returned (.agg #[.string s, .int .i64 m, .int .i64 c]) ∧ Below w.heap.size w w')
    (cl : ∀ w, Calls Try.prog 15 #[.int .i64 m] w fun e w' => e = .returned (.int .i64 l) ∧ Below w.heap.size w w') :
    Calls Try.prog 10 #[.int .i64 n] w fun e w' => e = .returned (.agg #[.string s, .int .i64 m, .int .i64 l, .int .i64 c]) ∧ Below w.heap.size w w' := by
  have CB := hide cb
  have CR := hide cr
  have CL := hide cl
  clear cb cr cl
  go_enter Try.func10, Try.ntmps10
  go_wp2_with fail
  refine (CB.out _).mono ?_
  rintro e w1 ⟨rfl, hw⟩
  subst w1
  go_wp2_with fail
  refine (CR.out _).mono ?_
  rintro e w1 ⟨rfl, b1⟩
  obtain ⟨wr, hwr⟩ : ∃ wr, wr = w1.alloc (.cells #[.string s, .int .i64 m, .int .i64 c] 37) := ⟨_, rfl⟩
  have s1 := b1.size
  have r2 := (b1.block w.heap.size (by simp)).trans (heap_alloc_new w _)
  have R2 := hide (show wr.heap[w.heap.size]? = some (.cells #[.string ⟨#[]⟩, .int .i64 0, .int .i64 0, .int .i64 0] 27 (0, 0)) by
    rw [hwr]; exact (((Below.refl w1.heap.size w1).alloc (Nat.le_refl _) _).block w.heap.size (lt_of_block r2)).trans r2)
  have hg : wr.heap[w1.heap.size]? = some (.cells #[.string s, .int .i64 m, .int .i64 c] 37 (0, 0)) := by rw [hwr]; exact heap_alloc_new w1 _
  have BW := hide (show Below w.heap.size w wr by rw [hwr]; exact (((Below.refl w.heap.size w).alloc (Nat.le_refl _) _).trans (b1.mono (by simp))).alloc (by simp at s1; omega) _)
  have LT := hide (lt_of_block hg)
  have c0 : wr.cell? ⟨w1.heap.size, 0, none⟩ = some (.string s) := by simp [World.cell?, hg]
  have c1 : wr.cell? ⟨w1.heap.size, 1, none⟩ = some (.int .i64 m) := by simp [World.cell?, hg]
  have c2 : wr.cell? ⟨w1.heap.size, 2, none⟩ = some (.int .i64 c) := by simp [World.cell?, hg]
  have k0 := kept_cell c0 LT.out
  have k1 := kept_cell c1 LT.out
  have k2 := kept_cell c2 LT.out
  clear r2 hg c0 c1 c2
  go_wp2_with fail
  rw [← hwr]
  clear hwr
  haveI := kept_some wr
  refine wp_region_kept_last _ _ (show _ = [_, _, _, _, _, _, _, _, _, _] ++ [_] from rfl) (by kernel_rfl) (by kernel_rfl) (by kernel_rfl) ?_
  repeat (go_big_quiet_step ((first
    | (go_at_call 15; exact kept_call (CL.out _)))))
  refine wpQuiet_nil ?_
  rintro _ ⟨wk, rfl⟩
  have R3 := hide ((wk.block w.heap.size (lt_of_block R2.out)).trans R2.out)
  have B3 := hide (bnext BW.out wk.below)
  clear CB CR CL k0 k1 k2 R2 BW LT
  go_wp2_with (first
    | (refine wpList_store_row rfl 27 (.tmp 2) (.tmp 16) rfl w.heap.size _ rfl rfl 27 _ R3.out (by kernel_rfl) rfl (by kernel_rfl) ?_))
  (try simp only [Exit.inBlock, Exit.then])
  refine bodyPost_ret (results_cell_row rfl _ _ w.heap.size 27 _ (0, 0) _ rfl (setRow_heap _ _ _ _ _ _ R3.out) Try.underlying27 rfl (by kernel_rfl)) rfl ?_
  exact ⟨rfl, below_setRow B3.out (Nat.le_refl _) _⟩

/-- What a number is, modulo 256, as an instruction. -/
theorem of_any (n : Int) (w : World) : Calls Try.prog 10 #[.int .i64 n] w fun e w' => e = .returned (.agg (infoC (n % 256).toNat)) ∧ Below w.heap.size w w' := by
  obtain ⟨b, hb⟩ : ∃ b : Nat, b = (n % 256).toNat := ⟨_, rfl⟩
  have e : (b : Int) = n % 256 := by omega
  have lt : b < 256 := by omega
  rw [← hb]
  have hm := mode_in b lt
  exact of_walk n b (nameOf b) (modeOf b) (lenOf b) (cycOf b) w (fun w => by rw [e]; exact byte_any n w) (fun w => row_any b lt w) (fun w => len_any (modeOf b) w hm.1 hm.2)
theorem of_byte (b : Nat) (hb : b < 256) (w : World) : Calls Try.prog 10 #[.int .i64 (b : Int)] w fun e w' => e = .returned (.agg (infoC b)) ∧ Below w.heap.size w w' := by
  have k := of_any (b : Int) w
  rw [show ((b : Int) % 256).toNat = b by omega] at k
  exact k
end Go.Proofs.Ytgenckilinmdoaa
