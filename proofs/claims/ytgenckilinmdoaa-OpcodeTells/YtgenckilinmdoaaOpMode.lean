/- The document's modes by their names. -/
import Derived.Test.YtgenckilinmdoaaOpWords
import Derived.BigQuiet
namespace Go.Proofs.Ytgenckilinmdoaa
open Go.RowKit
set_option linter.unusedVariables false
set_option maxRecDepth 20000

def nmB (m : Nat) : ByteArray := ⟨⟨mName m⟩⟩
theorem nm_eq (i m : Nat) (hi : i < 21) (hm : m < 21) : ((nmB i).toList == (nmB m).toList) = (i == m) := by
  show ((ByteArray.mk (mName i).toArray).toList == (ByteArray.mk (mName m).toArray).toList) = _
  rw [ByteArray.toList_mk, ByteArray.toList_mk]
  have h : (List.range 21).all (fun i => (List.range 21).all fun m => (mName i == mName m) == (i == m)) = true := by decide +kernel
  have k := List.all_eq_true.1 (List.all_eq_true.1 h i (List.mem_range.2 hi)) m (List.mem_range.2 hm)
  simpa using k
def nmCells : Array Value := (mNames.map fun l => Value.string ⟨⟨l⟩⟩).toArray
def lnCells : Array Value := (lensL.map fun l => Value.int .i64 l).toArray
theorem nm_at (i : Nat) (hi : i < 21) : nmCells[i]? = some (.string (nmB i)) := by
  have hl : i < mNames.length := hi
  have e : mName i = mNames[i] := by unfold mName; rw [List.getD_eq_getElem?_getD, List.getElem?_eq_getElem hl]; rfl
  show ((mNames.map fun l => Value.string ⟨⟨l⟩⟩).toArray)[i]? = _
  simp [hl, nmB, e]
theorem ln_at (i : Nat) (hi : i < 21) : lnCells[i]? = some (.int .i64 (lensL.getD i 0)) := by
  have hl : i < lensL.length := hi
  show ((lensL.map fun l => Value.int .i64 l).toArray)[i]? = _
  simp [hl]

theorem mode_at (m : Nat) (hm : m < 21) (w : World) : Calls Try.prog 20 #[.string (nmB m)] w fun e w' => e = .returned (.tuple #[.int .i64 (m : Int), .int .i64 (lensL.getD m 0)]) ∧ Below w.heap.size w w' := by
  obtain ⟨s, hs⟩ : ∃ s, s = nmB m := ⟨_, rfl⟩
  rw [← hs]
  have HE : Hid (∀ i, i < 21 → ((nmB i).toList == s.toList) = (i == m)) := by
    rw [hs]
    exact fun i hi => nm_eq i m hi hm
  clear hs
  go_enter Try.func20, Try.ntmps20
  go_wp2_with fail
  obtain ⟨wx, hwx⟩ : ∃ wx, wx = (w.alloc (.cells nmCells 9)).alloc (.cells lnCells 3) := ⟨_, rfl⟩
  have ex : (w.alloc (.cells #[.string ⟨#[105, 109, 112]⟩, .string ⟨#[97, 99, 99]⟩, .string ⟨#[105, 109, 109]⟩, .string ⟨#[122, 112]⟩, .string ⟨#[122, 112, 120]⟩, .string ⟨#[122, 112, 121]⟩, .string ⟨#[105, 110, 120]⟩, .string ⟨#[105, 110, 121]⟩, .string ⟨#[105, 110, 100]⟩, .string ⟨#[97, 98, 115]⟩, .string ⟨#[97, 98, 120]⟩, .string ⟨#[97, 98, 121]⟩, .string ⟨#[106, 105, 110]⟩, .string ⟨#[106, 105, 120]⟩, .string ⟨#[114, 101, 108]⟩, .string ⟨#[122, 112, 114]⟩, .string ⟨#[98, 108, 107]⟩, .string ⟨#[105, 122, 112]⟩, .string ⟨#[105, 122, 120]⟩, .string ⟨#[105, 97, 98]⟩, .string ⟨#[105, 97, 120]⟩] 9)).alloc
    (.cells #[.int .i64 1, .int .i64 1, .int .i64 2, .int .i64 2, .int .i64 2, .int .i64 2, .int .i64 2, .int .i64 2, .int .i64 2, .int .i64 3, .int .i64 3, .int .i64 3, .int .i64 3, .int .i64 3, .int .i64 2, .int .i64 3, .int .i64 7, .int .i64 3, .int .i64 3, .int .i64 4, .int .i64 4] 3) = wx := hwx.symm
  rw [ex]
  have n0 : wx.heap[w.heap.size]? = some (.cells nmCells 9 (0, 0)) := by rw [hwx]; exact heap_alloc2_old _ _ _
  have n1 : wx.heap[w.heap.size + 1]? = some (.cells lnCells 3 (0, 0)) := by rw [hwx]; exact heap_alloc2_new _ _ _
  have N0 : Hid (∀ i, i < 21 → wx.cell? ⟨w.heap.size, i, none⟩ = some (.string (nmB i))) := fun i hi => (cell_of_row wx _ i _ _ _ n0).trans (nm_at i hi)
  have N1 : Hid (∀ i, i < 21 → wx.cell? ⟨w.heap.size + 1, i, none⟩ = some (.int .i64 (lensL.getD i 0))) := fun i hi => (cell_of_row wx _ i _ _ _ n1).trans (ln_at i hi)
  have BX : Hid (Below w.heap.size w wx) := by rw [hwx]; exact ((Below.refl _ w).alloc (Nat.le_refl _) _).alloc (by simp) _
  clear ex hwx n0 n1
  go_loop [6] (fun si => ∃ i : Nat, i ≤ m ∧ si = .int .i64 (i : Int)) (fun si => 21 - (intOf si).toNat)
  case atStart => exact ⟨0, by omega, rfl⟩
  case round =>
    obtain ⟨i, hi, rfl⟩ := hrel
    have c0 := N0.out i (by omega)
    have c1 := N1.out i (by omega)
    have hq := HE.out i (by omega)
    by_cases hlt : i < m
    · rw [show (i == m) = false by simp; omega] at hq
      go_wp2_with fail
      go_round
      case rel => exact ⟨i + 1, by omega, by go_num⟩
      case measure => simp [intOf]; omega
    · have ei : i = m := by omega
      subst ei
      rw [show (i == i) = true by simp] at hq
      obtain ⟨z, hz⟩ : ∃ z, z = lensL.getD i 0 := ⟨_, rfl⟩
      rw [← hz] at c1
      have HZ := hide hz
      clear hz
      go_wp2_with fail
      go_quiet (fail)
      go_wp2
      go_ret2
      rw [← HZ.out]
      exact ⟨rfl, below_drew BX.out _⟩
end Go.Proofs.Ytgenckilinmdoaa
