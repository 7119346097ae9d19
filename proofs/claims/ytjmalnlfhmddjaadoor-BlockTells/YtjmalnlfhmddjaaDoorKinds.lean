/- The kind of a name, and the document's: both find a name in the same list. -/
import Derived.Test.YtjmalnlfhmddjaaDoorBlock
import Derived.Test.YtjmalnlfhmddjaaDoorBlkLaid
import Derived.Test.YtjmalnlfhmddjaaDoorStep
import Derived.Laws.Rows
import Derived.Laws.Tables
namespace Go.Proofs.YtjmalnlfhmddjaaDoor
open Go.RowKit
set_option linter.unusedVariables false

theorem toList_eq {s y : ByteArray} (h : s.toList = y.toList) : s = y := by
  obtain ⟨⟨a⟩⟩ := s
  obtain ⟨⟨b⟩⟩ := y
  have k : (ByteArray.mk a.toArray).toList = (ByteArray.mk b.toArray).toList := h
  rw [ByteArray.toList_mk, ByteArray.toList_mk] at k
  rw [k]
theorem str_ne {s y : ByteArray} (h : ¬ s = y) : (s.toList == y.toList) = false := by
  rw [beq_eq_false_iff_ne]
  exact fun k => h (toList_eq k)
def nmB (j : Nat) : ByteArray := [(⟨#[84, 73, 73]⟩ : ByteArray), ⟨#[84, 68, 68]⟩, ⟨#[84, 73, 78]⟩, ⟨#[84, 73, 65]⟩, ⟨#[84, 65, 73]⟩].getD j ⟨#[]⟩
theorem nm_inj : ∀ j, j < 5 → ∀ k, k < 5 → nmB j = nmB k → j = k := by decide +kernel
theorem names_index (j : Nat) (hj : j < 5) (w : World) : (Instr.index 37 (.agg nameCells) (.int .i64 (j : Int))).run Tryd.prog w = .ok (.string (nmB j)) w := by
  rcases j with _ | _ | _ | _ | _ | j
  · kernel_rfl
  · kernel_rfl
  · kernel_rfl
  · kernel_rfl
  · kernel_rfl
  · omega
theorem names_at (j : Nat) (hj : j < 5) : nameCells[j]? = some (.string (nmB j)) := by
  rcases j with _ | _ | _ | _ | _ | j
  · rfl
  · rfl
  · rfl
  · rfl
  · rfl
  · omega
/-- What is found in the list. -/
def Found (s : ByteArray) (e : Ending) : Prop := (∃ j : Nat, j < 5 ∧ nmB j = s ∧ e = .returned (.tuple #[.int .i64 (j : Int), .bool true])) ∨ ((∀ i, i < 5 → nmB i ≠ s) ∧ e = .returned (.tuple #[.int .i64 0, .bool false]))

theorem kind_at (s : ByteArray) (w : World) (cs : Array Value) (t : TypeId) (fr : Nat × Nat) (hT : w.heap[1]? = some (.cells cs t fr)) (hs : some 5 = some cs.size)
    (hx : ∀ (j : Nat), j < 5 → ∀ w : World, (Instr.index 37 (.agg cs) (.int .i64 (j : Int))).run Tryd.prog w = .ok (.string (nmB j)) w) :
    Calls Tryd.prog 8 #[.string s] w fun e w' => Found s e ∧ w' = w := by
  have hi : (Tryd.prog.info? 37).map (·.size) = some cs.size := Eq.trans (by kernel_rfl) hs
  have HX := hide hx
  have HT := hide hT
  have HI := hide hi
  clear hx hs hi hT
  go_enter Tryd.func8, Tryd.ntmps8
  go_wp2_with (first | (refine wpList_load_row rfl 37 (.global 1) rfl 1 rfl t cs fr _ HT.out Tryd.underlying37 rfl HI.out ?_))
  go_loopw [7] (fun si wr => ∃ j : Nat, j ≤ 5 ∧ si = .int .i64 (j : Int) ∧ (∀ i, i < j → nmB i ≠ s) ∧ wr = w) (fun si _ => 5 - (intOf si).toNat)
  case atStart => exact ⟨0, by omega, rfl, fun i hi => absurd hi (by omega), rfl⟩
  case round =>
    obtain ⟨j, hj, rfl, hne, rfl⟩ := hrel
    have HN := hide hne
    clear hne
    by_cases h : j < 5
    · have hx := HX.out j h
      obtain ⟨y, hy⟩ : ∃ y, y = nmB j := ⟨_, rfl⟩
      rw [← hy] at hx
      have HY := hide hy
      clear hy
      by_cases hys : y = s
      · subst hys
        go_wp2_with fail
        go_ret2
        exact ⟨.inl ⟨j, h, HY.out.symm, rfl⟩, rfl⟩
      · have hb := str_ne (fun h => hys h.symm : ¬ s = y)
        go_wp2_with fail
        go_roundw
        case rel =>
          refine ⟨j + 1, by omega, by go_num, fun i hi => ?_, trivial⟩
          by_cases hij : i = j
          · subst hij; rw [← HY.out]; exact hys
          · exact HN.out i (by omega)
        case measure => simp [intOf]; omega
    · have hj : j = 5 := by omega
      subst hj
      go_wp2_with fail
      go_ret2
      exact ⟨.inr ⟨HN.out, rfl⟩, rfl⟩

theorem rkind_any (s : ByteArray) (w : World) : Calls Tryd.prog 9 #[.string s] w fun e w' => Found s e ∧ Below w.heap.size w w' := by
  go_enter Tryd.func9, Tryd.ntmps9
  go_wp2_with fail
  obtain ⟨wa, hwa⟩ : ∃ wa, wa = w.alloc (.cells nameCells 9) := ⟨_, rfl⟩
  have ex : w.alloc (.cells #[.string ⟨#[84, 73, 73]⟩, .string ⟨#[84, 68, 68]⟩, .string ⟨#[84, 73, 78]⟩, .string ⟨#[84, 73, 65]⟩, .string ⟨#[84, 65, 73]⟩] 9) = wa := hwa.symm
  rw [ex]
  have n0 : wa.heap[w.heap.size]? = some (.cells nameCells 9 (0, 0)) := by rw [hwa]; show (w.heap.push _)[w.heap.size]? = _; simp
  have HX : Hid (∀ j, j < 5 → wa.cell? ⟨w.heap.size, j, none⟩ = some (.string (nmB j))) := fun j hj => (cell_at n0 j).trans (names_at j hj)
  have B0 := hide (by rw [hwa]; exact (Below.refl _ w).alloc (Nat.le_refl _) _ : Below w.heap.size w wa)
  clear hwa ex n0
  go_loopw [5] (fun si wr => ∃ j : Nat, j ≤ 5 ∧ si = .int .i64 (j : Int) ∧ (∀ i, i < j → nmB i ≠ s) ∧ wr = wa) (fun si _ => 5 - (intOf si).toNat)
  case atStart => exact ⟨0, by omega, rfl, fun i hi => absurd hi (by omega), rfl⟩
  case round =>
    obtain ⟨j, hj, rfl, hne, rfl⟩ := hrel
    have HN := hide hne
    clear hne
    by_cases h : j < 5
    · have hx := HX.out j h
      obtain ⟨y, hy⟩ : ∃ y, y = nmB j := ⟨_, rfl⟩
      rw [← hy] at hx
      have HY := hide hy
      clear hy
      by_cases hys : y = s
      · subst hys
        go_wp2_with fail
        go_ret2
        exact ⟨.inl ⟨j, h, HY.out.symm, rfl⟩, B0.out⟩
      · have hb := str_ne hys
        go_wp2_with fail
        go_roundw
        case rel =>
          refine ⟨j + 1, by omega, by go_num, fun i hi => ?_, trivial⟩
          by_cases hij : i = j
          · subst hij; rw [← HY.out]; exact hys
          · exact HN.out i (by omega)
        case measure => simp [intOf]; omega
    · have hj : j = 5 := by omega
      subst hj
      go_wp2_with fail
      go_ret2
      exact ⟨.inr ⟨HN.out, rfl⟩, B0.out⟩

theorem found_one {s : ByteArray} {e f : Ending} (h : Found s e) (k : Found s f) : e = f := by
  rcases h with ⟨i, hi, rfl, rfl⟩ | ⟨h, rfl⟩
  · rcases k with ⟨j, hj, e, rfl⟩ | ⟨k, rfl⟩
    · rw [nm_inj j hj i hi e]
    · exact absurd rfl (k i hi)
  · rcases k with ⟨j, hj, e, rfl⟩ | ⟨k, rfl⟩
    · exact absurd e (h j hj)
    · rfl
/-- What a name is told to be: the same twice. -/
theorem found_some (s : ByteArray) : ∃ (k : Int) (ok : Bool), Found s (.returned (.tuple #[.int .i64 k, .bool ok])) := by
  by_cases h : ∃ j : Nat, j < 5 ∧ nmB j = s
  · obtain ⟨j, hj, e⟩ := h
    exact ⟨j, true, .inl ⟨j, hj, e, rfl⟩⟩
  · exact ⟨0, false, .inr ⟨fun i hi e => h ⟨i, hi, e⟩, rfl⟩⟩
theorem HasNames.pos {w : World} (h : HasNames w) : 1 < w.heap.size := by
  obtain ⟨t, fr, e⟩ := h
  exact lt_block e
theorem HasNames.next {w w' : World} (h : HasNames w) (b : Below w.heap.size w w') : HasNames w' := by
  have hp := h.pos
  obtain ⟨t, fr, e⟩ := h
  exact ⟨t, fr, (b.block 1 hp).trans e⟩
theorem kind_both (s : ByteArray) : ∃ (k : Int) (ok : Bool),
    (∀ w, HasNames w → Calls Tryd.prog 8 #[.string s] w fun e w' => e = .returned (.tuple #[.int .i64 k, .bool ok]) ∧ w' = w) ∧
    (∀ w, Calls Tryd.prog 9 #[.string s] w fun e w' => e = .returned (.tuple #[.int .i64 k, .bool ok]) ∧ Below w.heap.size w w') := by
  obtain ⟨k, ok, h⟩ := found_some s
  refine ⟨k, ok, fun w hN => ?_, fun w => ?_⟩
  · obtain ⟨t, fr, hT⟩ := hN
    exact (kind_at s w nameCells t fr hT rfl (fun j hj w => names_index j hj w)).mono fun e w' ⟨f, hw⟩ => ⟨found_one f h, hw⟩
  · exact (rkind_any s w).mono fun e w' ⟨f, hw⟩ => ⟨found_one f h, hw⟩
end Go.Proofs.YtjmalnlfhmddjaaDoor
