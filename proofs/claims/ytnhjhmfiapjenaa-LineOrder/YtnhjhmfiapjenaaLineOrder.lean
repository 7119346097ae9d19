/- LineOrder, at the landed commit: whatever slice of integers, integer and bool come in, the call returns true: where a sprite's pixel is in front, or the background is empty, it is seen, else the background is; a picture of no sprites changes nothing. No condition. -/
import Derived.Test.YtnhjhmfiapjenaaMix19
import Derived.Test.YtnhjhmfiapjenaaFacts
import Derived.Test.YtnhjhmfiapjenaaBools
import Derived.Test.YtnhjhmfiapjenaaRows
import Derived.Test.YtnhjhmfiapjenaaArrays
import Derived.Test.YtnhjhmfiapjenaaPlainAlu
import Derived.BigQuiet
import Derived.OpenShut
import Derived.ShutString
import Derived.ChangeOld
namespace Go.Proofs.Ytnhjhmfiapjenaa
open Go.ChangeShapes Go.WideShapes Go.ChangeAt Go.RowKit
open Go.ChangeMaps (open_string shut_string)
set_option linter.unusedVariables false

theorem own : ownKnob Try.prog.godebug = none := by kernel_rfl
/-- Block g holds N bools. -/
def rowB (F : Nat → Bool) (N : Nat) : List Value := (List.range N).map fun (j : Nat) => Value.bool (F j)
def RowB (w : World) (g N : Nat) (F : Nat → Bool) : Prop := w.heap[g]? = some (.cells (rowB F N).toArray 4 (0, 0))
theorem rowB_at (F : Nat → Bool) (N j : Nat) (h : j < N) : (rowB F N)[j]? = some (.bool (F j)) := by simp [rowB, h]
theorem rowB_ext {F G : Nat → Bool} {N : Nat} (h : ∀ j, j < N → F j = G j) : rowB F N = rowB G N := by
  unfold rowB
  apply List.map_congr_left
  intro j hj
  rw [h j (List.mem_range.1 hj)]
theorem rowB_set (F : Nat → Bool) (N x : Nat) (v : Bool) : (rowB F N).set x (.bool v) = rowB (fun j => if j = x then v else F j) N := by
  apply List.ext_getElem?
  intro j
  rw [List.getElem?_set]
  by_cases k : j < N
  · rw [rowB_at _ _ _ k, rowB_at _ _ _ k]
    by_cases e : x = j
    · subst e; simp [k, rowB]
    · rw [if_neg e, if_neg (fun h => e h.symm)]
  · rw [List.getElem?_eq_none (by simp [rowB]; omega), List.getElem?_eq_none (by simp [rowB]; omega)]
    by_cases e : x = j
    · subst e; simp [k, rowB]
    · rw [if_neg e]
theorem RowB.lt {w : World} {g N : Nat} {F : Nat → Bool} (h : RowB w g N F) : g < w.heap.size := lt_of_block h
theorem RowB.next {w : World} {g N : Nat} {F : Nat → Bool} (h : RowB w g N F) {w' : World} (k : Below w.heap.size w w') : RowB w' g N F := (k.block g (lt_of_block h)).trans h
theorem RowB.at {w : World} {g N : Nat} {F : Nat → Bool} (h : RowB w g N F) (j : Nat) (hj : j < N) : w.cell? ⟨g, j, none⟩ = some (.bool (F j)) := by rw [cell_of_row w g j _ _ _ h, List.getElem?_toArray]; exact rowB_at _ _ _ hj
theorem RowB.frozen {w : World} {g N : Nat} {F : Nat → Bool} (h : RowB w g N F) (j : Nat) : w.frozen? ⟨g, j, none⟩ = false := frozen_of_row w g j _ _ h
theorem RowB.ext {w : World} {g N : Nat} {F : Nat → Bool} (h : RowB w g N F) {G : Nat → Bool} (e : ∀ j, j < N → F j = G j) : RowB w g N G := by
  unfold RowB
  rw [← rowB_ext e]
  exact h
theorem RowB.set {w : World} {g N : Nat} {F : Nat → Bool} (h : RowB w g N F) (x : Nat) (v : Bool) : RowB (w.setCell ⟨g, x, none⟩ (.bool v)) g N (fun j => if j = x then v else F j) := by
  have e := heap_setCell_same w g x _ _ (.bool v) h
  rw [List.setIfInBounds_toArray, rowB_set] at e
  exact e
theorem RowB.flags {w : World} {g N : Nat} {F : Nat → Bool} (h : RowB w g N F) : FlagsAt w (some ⟨g, 0, none⟩) N F := fun j hj => ⟨g, 0, rfl, h.lt, by rw [Nat.zero_add]; exact h.at j hj⟩
theorem mk_rowB (N : Nat) (hn : N ≤ 65536) (w : World) : (Instr.makeSlice 23 (.int .i64 (N : Int)) (.int .i64 (N : Int))).run Try.prog w = .ok (.slice (some ⟨w.heap.size, 0, none⟩) N N) (w.alloc (.cells (rowB (fun _ => false) N).toArray 4)) := by
  rw [mk_bools N (by omega) w]
  have e : (List.replicate N false).map Value.bool = rowB (fun _ => false) N := by
    apply List.ext_getElem?
    intro j
    by_cases k : j < N
    · rw [rowB_at _ _ _ k]; simp [k]
    · rw [List.getElem?_eq_none (by simp; omega), List.getElem?_eq_none (by simp [rowB]; omega)]
  rw [e]
def loR (B : Nat) (a0 : Option Addr) (N k0 : Nat) (i : Nat) (v : Value) (w : World) : Prop :=
  match i with
  | 0 => v = .slice a0 N k0
  | 1 => v = .int .i64 (N : Int)
  | 2 => ∃ g, v = .slice (some ⟨g, 0, none⟩) N N ∧ RowN w g N (fun _ => 0) ∧ B ≤ g
  | 3 => v = .slice a0 N k0
  | 4 => v = .int .i64 (N : Int)
  | 5 => ∃ g, v = .slice (some ⟨g, 0, none⟩) N N ∧ RowB w g N (fun _ => false) ∧ B ≤ g
  | 6 => ∃ g h, v = .agg #[.slice (some ⟨g, 0, none⟩) N N, .slice (some ⟨h, 0, none⟩) N N] ∧ RowN w g N (fun _ => 0) ∧ B ≤ g ∧ RowB w h N (fun _ => false) ∧ B ≤ h
  | _ => ∃ g, v = .pointer (some ⟨g, 0, none⟩) ∧ w.heap[g]? = some (.cells #[.slice none 0 0, .slice none 0 0] 25 (0, 0)) ∧ B ≤ g
theorem loR_next {B : Nat} {a0 : Option Addr} {N k0 : Nat} (i : Nat) (v : Value) (w w' : World) (h : loR B a0 N k0 i v w) (k : Below w.heap.size w w') : loR B a0 N k0 i v w' := by
  unfold loR at h ⊢
  split at h
  all_goals first
    | exact h
    | (obtain ⟨g, e, r, l⟩ := h; exact ⟨g, e, r.next k, l⟩)
    | (obtain ⟨g, h, e, r, l, q, m⟩ := h; exact ⟨g, h, e, r.next k, l, q.next k, m⟩)
    | (obtain ⟨g, e, r, l⟩ := h; exact ⟨g, e, (k.block g (lt_of_block r)).trans r, l⟩)
/-- What the rounds know of memory. -/
def LoP (w0 : World) (z g h N : Nat) (F : Nat → Int) (G : Nat → Bool) (w : World) : Prop :=
  (z ≠ g ∧ z ≠ h ∧ g ≠ h ∧ w0.heap.size ≤ z ∧ w0.heap.size ≤ g ∧ w0.heap.size ≤ h) ∧ w.heap[z]? = some (.cells #[.slice (some ⟨g, 0, none⟩) N N, .slice (some ⟨h, 0, none⟩) N N] 25 (0, 0)) ∧ RowN w g N F ∧ RowB w h N G ∧ Below w0.heap.size w0 w
theorem types_apart {w : World} {g h : Nat} {c d : Array Value} {t s : TypeId} {p q : Nat × Nat} (h1 : w.heap[g]? = some (.cells c t p)) (h2 : w.heap[h]? = some (.cells d s q)) (n : t ≠ s) : g ≠ h := by
  intro e
  subst e
  have k := h1.symm.trans h2
  simp at k
  exact n k.2.1
def upTo {α : Type} (x y : α) (k j : Nat) : α := if j < k then x else y
theorem upTo_next {α : Type} (x y : α) (k : Nat) : (fun j => if j = k then x else upTo x y k j) = upTo x y (k + 1) := by
  funext j
  unfold upTo
  by_cases e : j = k
  · rw [if_pos e, if_pos (by omega)]
  · rw [if_neg e]
    by_cases q : j < k
    · rw [if_pos q, if_pos (by omega)]
    · rw [if_neg q, if_neg (by omega)]
theorem LoP.put {w0 w : World} {z g h N k : Nat} {x : Int} {y : Bool} (p : LoP w0 z g h N (upTo x 0 k) (upTo y false k) w) {u : World} (hu : u = ((w.setCell ⟨g, k, none⟩ (.int .i64 x)).setCell ⟨h, k, none⟩ (.bool y)).drew) : LoP w0 z g h N (upTo x 0 (k + 1)) (upTo y false (k + 1)) u := by
  obtain ⟨⟨n1, n2, n3, l1, l2, l3⟩, hz, hg, hh, hb⟩ := p
  subst hu
  refine ⟨⟨n1, n2, n3, l1, l2, l3⟩, ?_, ?_, ?_, ?_⟩
  · exact (heap_setCell_other _ _ _ _ n2).trans ((heap_setCell_other _ _ _ _ n1).trans hz)
  · rw [← upTo_next]
    exact (heap_setCell_other _ _ _ _ n3).trans (hg.set k x)
  · rw [← upTo_next]
    exact RowB.set (show RowB (w.setCell ⟨g, k, none⟩ (.int .i64 x)) h N (upTo y false k) from (heap_setCell_other _ _ _ _ (fun e => n3 e.symm)).trans hh) k y
  · exact ((hb.setCell (p := ⟨g, k, none⟩) l2 _).setCell (p := ⟨h, k, none⟩) l3 _).drew
set_option maxHeartbeats 4000000 in
theorem lo_short (N : Nat) (a0 : Option Addr) (len0 k0 : Nat) (c : Int) (fr : Bool) (B : Nat → Int) (q : Int) (w : World) (H0 : Hid (IntsAt w a0 N B)) (hq : bits .and .i64 c 254 = q) (q0 : 0 ≤ q) (q1 : q ≤ 254) (hN : N ≤ 500) (hl : N = len0) : Calls Try.prog 4 #[.slice a0 len0 k0, .int .i64 c, .bool fr] w fun e w' => e = .returned (.bool true) ∧ Below w.heap.size w w' := by
  subst hl
  have hd : decide (500 < (N : Int)) = false := decide_eq_false (by omega)
  go_enter Try.func4, Try.ntmps4
  go_wp2_with fail
  obtain ⟨cc, hcc⟩ : ∃ cc, 1 + q = cc := ⟨_, rfl⟩
  rw [hcc]
  have cc0 : 1 ≤ cc := by omega
  have cc1 : cc ≤ 255 := by omega
  clear hcc hq q0 q1
  have hmk := make_rowN N (by omega)
  have hmb := mk_rowB N (by omega)
  have HMK := hide hmk
  have HMB := hide hmb
  refine under_name fun wa hwa => ?_
  have B0 := hide (show Below w.heap.size w wa by rw [hwa]; exact Below.refl _ _)
  clear hwa hmk hmb
  refine wp_region_facts_last [_, _, _, _, _, _, _, _] _ rfl (loR w.heap.size a0 N k0) _ (fun vals => by simp only [putAll, Act.put, List.setIfInBounds_toArray, List.set_cons_succ, List.set_cons_zero, Nat.reduceAdd]; rfl) (by kernel_rfl) (by kernel_rfl) (by kernel_rfl) (by kernel_rfl) loR_next ?_ ?_
  · refine steps_cons (fun vals u hb hf => ?_) (steps_cons (fun vals u hb hf => ?_) (steps_cons (fun vals u hb hf => ?_) (steps_cons (fun vals u hb hf => ?_) (steps_cons (fun vals u hb hf => ?_) (steps_cons (fun vals u hb hf => ?_) (steps_cons (fun vals u hb hf => ?_) (steps_cons (fun vals u hb hf => ?_) steps_nil)))))))
    · go_wp2_with fail
      exact stepPost_mk _ rfl rfl (Below.refl _ _)
    · obtain ⟨(h0 : vals 0 = .slice a0 N k0), _⟩ := hf
      simp only [h0]
      clear h0
      go_wp2_with fail
      exact stepPost_mk _ rfl rfl (Below.refl _ _)
    · obtain ⟨(h0 : vals 1 = .int .i64 (N : Int)), _⟩ := hf
      simp only [h0]
      clear h0
      have hmk := HMK.out
      go_wp2_with fail
      exact stepPost_mk _ rfl ⟨_, rfl, heap_alloc_new _ _, Nat.le_trans B0.out.size hb.size⟩ ((Below.refl _ _).alloc (Nat.le_refl _) _)
    · go_wp2_with fail
      exact stepPost_mk _ rfl rfl (Below.refl _ _)
    · obtain ⟨(h0 : vals 3 = .slice a0 N k0), _⟩ := hf
      simp only [h0]
      clear h0
      go_wp2_with fail
      exact stepPost_mk _ rfl rfl (Below.refl _ _)
    · obtain ⟨(h0 : vals 4 = .int .i64 (N : Int)), _⟩ := hf
      simp only [h0]
      clear h0
      have hmb := HMB.out
      go_wp2_with fail
      exact stepPost_mk _ rfl ⟨_, rfl, heap_alloc_new _ _, Nat.le_trans B0.out.size hb.size⟩ ((Below.refl _ _).alloc (Nat.le_refl _) _)
    · obtain ⟨⟨g, h2, i2⟩, ⟨h, h5, i5⟩, _⟩ := hf
      simp only [h2, h5]
      clear h2 h5
      have I2 := hide i2
      have I5 := hide i5
      clear i2 i5
      go_wp2_with fail
      exact stepPost_mk _ rfl ⟨g, h, rfl, I2.out.1, I2.out.2, I5.out.1, I5.out.2⟩ (Below.refl _ _)
    · go_wp2_with fail
      exact stepPost_mk _ rfl ⟨_, rfl, heap_alloc_new _ _, Nat.le_trans B0.out.size hb.size⟩ ((Below.refl _ _).alloc (Nat.le_refl _) _)
  intro vals u hb hf
  obtain ⟨_, _, _, _, _, _, ⟨g, h, h6, ig, lg, ih, lh⟩, ⟨z, h7, iz, lz⟩, _⟩ := hf
  have UP := hide (show LoP w z g h N (upTo cc 0 0) (upTo fr false 0) (u.setRow z #[.slice (some ⟨g, 0, none⟩) N N, .slice (some ⟨h, 0, none⟩) N N]) by
    have n1 := types_apart iz ig (by decide)
    have n2 := types_apart iz ih (by decide)
    have n3 := types_apart ig ih (by decide)
    refine ⟨⟨n1, n2, n3, lz, lg, lh⟩, setRow_heap _ _ _ _ _ _ iz, ?_, ?_, below_setRow (bnext B0.out hb) lz _⟩
    · exact ((setRow_other _ _ _ _ (fun e => n1 e.symm)).trans ig).trans (by rw [rowN_ext (G := upTo cc 0 0) fun j _ => by unfold upTo; rw [if_neg (by omega)]])
    · exact ((setRow_other _ _ _ _ (fun e => n2 e.symm)).trans ih).trans (by rw [rowB_ext (G := upTo fr false 0) fun j _ => by unfold upTo; rw [if_neg (by omega)]]))
  simp only [h6, h7]
  clear h6 h7
  have IZ := hide iz
  clear ig ih iz lg lh lz hb
  go_wp2_with (first | (refine wpList_store_row rfl 25 (.tmp 7) (.tmp 27) rfl z _ rfl rfl 25 _ IZ.out (by kernel_rfl) rfl (by kernel_rfl) ?_
                        refine under_list fun u1 hu1 => ?_
                        have LP := hide (show LoP w z g h N (upTo cc 0 0) (upTo fr false 0) u1 by rw [hu1]; exact UP.out)
                        have p0 := (cell_of_row u1 z 0 _ _ _ LP.out.2.1).trans rfl
                        clear hu1))
  clear p0 UP IZ HMK HMB B0
  go_loopw [31] (fun si wr => ∃ k : Nat, k ≤ N ∧ si = .int .i64 (k : Int) ∧ LoP w z g h N (upTo cc 0 k) (upTo fr false k) wr) (fun si _ => N - (intOf si).toNat)
  case atStart => exact ⟨0, Nat.zero_le _, rfl, LP.out⟩
  case round =>
    obtain ⟨k, hk, rfl, hlp⟩ := hrel
    have LK := hide hlp
    clear hlp LP
    by_cases hlt : k < N
    · have p0 := (cell_of_row wr z 0 _ _ _ LK.out.2.1).trans rfl
      have p1 := (cell_of_row wr z 1 _ _ _ LK.out.2.1).trans rfl
      have cg := LK.out.2.2.1.at k hlt
      have zg := LK.out.2.2.1.frozen k
      have ch := LK.out.2.2.2.1.at k hlt
      have zh := LK.out.2.2.2.1.frozen k
      have n1 := LK.out.1.1
      have n2 := LK.out.1.2.1
      have n3 := LK.out.1.2.2.1
      obtain ⟨x, hx⟩ : ∃ x, upTo cc 0 k k = x := ⟨_, rfl⟩
      obtain ⟨y, hy⟩ : ∃ y, upTo fr false k k = y := ⟨_, rfl⟩
      rw [hx] at cg
      rw [hy] at ch
      clear hx hy
      go_wp2_with fail
      go_region
      all_goals go_wp2_with fail
      go_roundw
      case rel => exact ⟨k + 1, by omega, by go_num, LK.out.put rfl⟩
      case measure => simp [intOf]; omega
    · obtain rfl : k = N := by omega
      obtain ⟨C, hC⟩ : ∃ C, upTo cc 0 k = C := ⟨_, rfl⟩
      obtain ⟨F, hF⟩ : ∃ F, upTo fr false k = F := ⟨_, rfl⟩
      rw [hC, hF] at LK
      have HCF := hide (show ∀ j, j < k → C j = cc ∧ F j = fr from fun j hj => ⟨by rw [← hC]; unfold upTo; rw [if_pos hj], by rw [← hF]; unfold upTo; rw [if_pos hj]⟩)
      clear hC hF
      have p0 := (cell_of_row wr z 0 _ _ _ LK.out.2.1).trans rfl
      have p1 := (cell_of_row wr z 1 _ _ _ LK.out.2.1).trans rfl
      go_wp2_with fail
      have H1 := hide (H0.out.next LK.out.2.2.2.2)
      refine (mix_is a0 (some ⟨g, 0, none⟩) (some ⟨h, 0, none⟩) k k0 k k k k k B C F wr H1 (hide LK.out.2.2.1.ints) (hide LK.out.2.2.2.1.flags) (by omega) (by omega) (by omega) (hide fun j hj => by rw [(HCF.out j hj).1]; omega) (by omega)).mono ?_
      rintro e w3 ⟨g3, hg3, rfl, r3, b3⟩
      have R3 := hide r3
      have B3 := hide (bnext LK.out.2.2.2.2 b3)
      clear r3 b3 hg3 LK H1 p0 p1
      go_wp2_with fail
      refine (mix_is a0 none none k k0 0 0 0 0 0 B (fun _ => 0) (fun _ => false) w3 (hide (H0.out.next B3.out)) (hide (intsAt_none _ _ _)) (hide (flagsAt_none _ _ _)) (by omega) (by omega) (by omega) (hide fun j hj => absurd hj (Nat.not_lt_zero _)) rfl).mono ?_
      rintro e w4 ⟨g4, hg4, rfl, r4, b4⟩
      have R4 := hide (show RowN w4 g4 k B from r4.ext fun j hj => by unfold mixOf; rw [if_neg (fun h => absurd h.1 (Nat.not_lt_zero _))])
      have R3 := hide (R3.out.next b4)
      have B4 := hide (bnext B3.out b4)
      clear r4 b4 hg4 B3
      go_wp2_with fail
      go_loopw [11] (fun si wr => ∃ i : Nat, i ≤ k ∧ si = .int .i64 (i : Int) ∧ Below w4.heap.size w4 wr) (fun si _ => k - (intOf si).toNat)
      case atStart => exact ⟨0, Nat.zero_le _, rfl, Below.refl _ _⟩
      case round =>
        obtain ⟨i, hi, rfl, hbr⟩ := hrel
        have BR := hide hbr
        clear hbr
        by_cases hlt2 : i < k
        · obtain ⟨b0, o0, rfl, hb0, e0⟩ := (H0.out.next (bnext B4.out BR.out)) i hlt2
          have e3 := (R3.out.next BR.out).at i hlt2
          have e4 := (R4.out.next BR.out).at i hlt2
          obtain ⟨x, hx⟩ : ∃ x, B i = x := ⟨_, rfl⟩
          obtain ⟨y, hy⟩ : ∃ y, mixOf B k C F i = y := ⟨_, rfl⟩
          have hz : (if fr = true ∨ x = 0 then 256 + cc else x) = y := by
            rw [← hy, ← hx]
            unfold mixOf
            rw [(HCF.out i hlt2).1, (HCF.out i hlt2).2]
            have hne : ¬ cc = 0 := by omega
            simp [hlt2, hne]
          rw [hx] at e0 e4
          rw [hy] at e3
          clear hx hy hb0
          cases fr
          · by_cases qx : x = 0
            · have r1 : (x == 0) = true := by simpa using qx
              rw [if_pos (.inr qx)] at hz
              subst hz
              go_wp2_with fail
              go_quiet (fail)
              go_wp2_with fail
              exact ⟨⟨i + 1, by omega, by go_num, bnext BR.out (below_drew (Below.refl _ _) _)⟩, by simp [intOf]; omega⟩
            · have r1 : (x == 0) = false := by simpa using qx
              rw [if_neg (by rintro (h | h); cases h; exact qx h)] at hz
              subst hz
              go_wp2_with fail
              go_quiet (fail)
              go_wp2_with fail
              exact ⟨⟨i + 1, by omega, by go_num, bnext BR.out (below_drew (Below.refl _ _) _)⟩, by simp [intOf]; omega⟩
          · rw [if_pos (.inl rfl)] at hz
            subst hz
            go_wp2_with fail
            go_quiet (fail)
            go_wp2_with fail
            exact ⟨⟨i + 1, by omega, by go_num, bnext BR.out (below_drew (Below.refl _ _) _)⟩, by simp [intOf]; omega⟩
        · obtain rfl : i = k := by omega
          have A5 := hide (fun (u : World) => heap_alloc_new u (.cells #[.int .i64 0] 3))
          go_wp2_with fail
          refine under_calls fun w5 hw5 => ?_
          have B5 := hide (show Below wr.heap.size wr w5 by rw [hw5]; exact (Below.refl _ _).alloc (Nat.le_refl _) _)
          have I5 := hide (show IntsAt w5 (some ⟨wr.heap.size, 0, none⟩) 1 (fun j => [0].getD j 0) by rw [hw5]; exact ints_lit [0] (heap_alloc_new _ _))
          clear hw5
          refine (mix_is (some ⟨wr.heap.size, 0, none⟩) none none 1 1 0 0 0 0 0 _ (fun _ => 0) (fun _ => false) w5 I5 (hide (intsAt_none _ _ _)) (hide (flagsAt_none _ _ _)) (by omega) (by omega) (by omega) (hide fun j hj => absurd hj (Nat.not_lt_zero _)) rfl).mono ?_
          rintro e w6 ⟨g6, _, rfl, _, b6⟩
          have B6 := hide (bnext (bnext (bnext B4.out BR.out) B5.out) b6)
          clear b6
          go_wp2_with fail
          go_ret
          exact ⟨rfl, B6.out⟩
set_option maxHeartbeats 4000000 in
theorem lo_long (N : Nat) (a0 : Option Addr) (len0 k0 : Nat) (c : Int) (fr : Bool) (B : Nat → Int) (q : Int) (w : World) (H0 : Hid (IntsAt w a0 N B)) (hq : bits .and .i64 c 254 = q) (q0 : 0 ≤ q) (q1 : q ≤ 254) (hN : N ≤ 500) (hN5 : N = 500) (hl : 500 < len0) (hm : len0 ≤ k0) (hk : (k0 : Int) ≤ 9223372036854775807) : Calls Try.prog 4 #[.slice a0 len0 k0, .int .i64 c, .bool fr] w fun e w' => e = .returned (.bool true) ∧ Below w.heap.size w w' := by
  obtain ⟨b0, o0, rfl, hb0, e0⟩ := H0.out 0 (by omega)
  clear hb0 e0
  have hd : decide (500 < (len0 : Int)) = true := decide_eq_true (by omega)
  have hl2 : (500 : Int) ≤ (k0 : Int) := by omega
  go_enter Try.func4, Try.ntmps4
  go_wp2_with fail
  obtain ⟨a0, ha0⟩ : ∃ a : Option Addr, some ⟨b0, o0, none⟩ = a := ⟨_, rfl⟩
  rw [ha0] at H0 ⊢
  rw [show Value.slice a0 500 k0 = .slice a0 N k0 by rw [hN5]]
  clear ha0 hN5 hd hl2 hl hm hk
  obtain ⟨cc, hcc⟩ : ∃ cc, 1 + q = cc := ⟨_, rfl⟩
  rw [hcc]
  have cc0 : 1 ≤ cc := by omega
  have cc1 : cc ≤ 255 := by omega
  clear hcc hq q0 q1
  have hmk := make_rowN N (by omega)
  have hmb := mk_rowB N (by omega)
  have HMK := hide hmk
  have HMB := hide hmb
  refine under_name fun wa hwa => ?_
  have B0 := hide (show Below w.heap.size w wa by rw [hwa]; exact Below.refl _ _)
  clear hwa hmk hmb
  refine wp_region_facts_last [_, _, _, _, _, _, _, _] _ rfl (loR w.heap.size a0 N k0) _ (fun vals => by simp only [putAll, Act.put, List.setIfInBounds_toArray, List.set_cons_succ, List.set_cons_zero, Nat.reduceAdd]; rfl) (by kernel_rfl) (by kernel_rfl) (by kernel_rfl) (by kernel_rfl) loR_next ?_ ?_
  · refine steps_cons (fun vals u hb hf => ?_) (steps_cons (fun vals u hb hf => ?_) (steps_cons (fun vals u hb hf => ?_) (steps_cons (fun vals u hb hf => ?_) (steps_cons (fun vals u hb hf => ?_) (steps_cons (fun vals u hb hf => ?_) (steps_cons (fun vals u hb hf => ?_) (steps_cons (fun vals u hb hf => ?_) steps_nil)))))))
    · go_wp2_with fail
      exact stepPost_mk _ rfl rfl (Below.refl _ _)
    · obtain ⟨(h0 : vals 0 = .slice a0 N k0), _⟩ := hf
      simp only [h0]
      clear h0
      go_wp2_with fail
      exact stepPost_mk _ rfl rfl (Below.refl _ _)
    · obtain ⟨(h0 : vals 1 = .int .i64 (N : Int)), _⟩ := hf
      simp only [h0]
      clear h0
      have hmk := HMK.out
      go_wp2_with fail
      exact stepPost_mk _ rfl ⟨_, rfl, heap_alloc_new _ _, Nat.le_trans B0.out.size hb.size⟩ ((Below.refl _ _).alloc (Nat.le_refl _) _)
    · go_wp2_with fail
      exact stepPost_mk _ rfl rfl (Below.refl _ _)
    · obtain ⟨(h0 : vals 3 = .slice a0 N k0), _⟩ := hf
      simp only [h0]
      clear h0
      go_wp2_with fail
      exact stepPost_mk _ rfl rfl (Below.refl _ _)
    · obtain ⟨(h0 : vals 4 = .int .i64 (N : Int)), _⟩ := hf
      simp only [h0]
      clear h0
      have hmb := HMB.out
      go_wp2_with fail
      exact stepPost_mk _ rfl ⟨_, rfl, heap_alloc_new _ _, Nat.le_trans B0.out.size hb.size⟩ ((Below.refl _ _).alloc (Nat.le_refl _) _)
    · obtain ⟨⟨g, h2, i2⟩, ⟨h, h5, i5⟩, _⟩ := hf
      simp only [h2, h5]
      clear h2 h5
      have I2 := hide i2
      have I5 := hide i5
      clear i2 i5
      go_wp2_with fail
      exact stepPost_mk _ rfl ⟨g, h, rfl, I2.out.1, I2.out.2, I5.out.1, I5.out.2⟩ (Below.refl _ _)
    · go_wp2_with fail
      exact stepPost_mk _ rfl ⟨_, rfl, heap_alloc_new _ _, Nat.le_trans B0.out.size hb.size⟩ ((Below.refl _ _).alloc (Nat.le_refl _) _)
  intro vals u hb hf
  obtain ⟨_, _, _, _, _, _, ⟨g, h, h6, ig, lg, ih, lh⟩, ⟨z, h7, iz, lz⟩, _⟩ := hf
  have UP := hide (show LoP w z g h N (upTo cc 0 0) (upTo fr false 0) (u.setRow z #[.slice (some ⟨g, 0, none⟩) N N, .slice (some ⟨h, 0, none⟩) N N]) by
    have n1 := types_apart iz ig (by decide)
    have n2 := types_apart iz ih (by decide)
    have n3 := types_apart ig ih (by decide)
    refine ⟨⟨n1, n2, n3, lz, lg, lh⟩, setRow_heap _ _ _ _ _ _ iz, ?_, ?_, below_setRow (bnext B0.out hb) lz _⟩
    · exact ((setRow_other _ _ _ _ (fun e => n1 e.symm)).trans ig).trans (by rw [rowN_ext (G := upTo cc 0 0) fun j _ => by unfold upTo; rw [if_neg (by omega)]])
    · exact ((setRow_other _ _ _ _ (fun e => n2 e.symm)).trans ih).trans (by rw [rowB_ext (G := upTo fr false 0) fun j _ => by unfold upTo; rw [if_neg (by omega)]]))
  simp only [h6, h7]
  clear h6 h7
  have IZ := hide iz
  clear ig ih iz lg lh lz hb
  go_wp2_with (first | (refine wpList_store_row rfl 25 (.tmp 7) (.tmp 27) rfl z _ rfl rfl 25 _ IZ.out (by kernel_rfl) rfl (by kernel_rfl) ?_
                        refine under_list fun u1 hu1 => ?_
                        have LP := hide (show LoP w z g h N (upTo cc 0 0) (upTo fr false 0) u1 by rw [hu1]; exact UP.out)
                        have p0 := (cell_of_row u1 z 0 _ _ _ LP.out.2.1).trans rfl
                        clear hu1))
  clear p0 UP IZ HMK HMB B0
  go_loopw [31] (fun si wr => ∃ k : Nat, k ≤ N ∧ si = .int .i64 (k : Int) ∧ LoP w z g h N (upTo cc 0 k) (upTo fr false k) wr) (fun si _ => N - (intOf si).toNat)
  case atStart => exact ⟨0, Nat.zero_le _, rfl, LP.out⟩
  case round =>
    obtain ⟨k, hk, rfl, hlp⟩ := hrel
    have LK := hide hlp
    clear hlp LP
    by_cases hlt : k < N
    · have p0 := (cell_of_row wr z 0 _ _ _ LK.out.2.1).trans rfl
      have p1 := (cell_of_row wr z 1 _ _ _ LK.out.2.1).trans rfl
      have cg := LK.out.2.2.1.at k hlt
      have zg := LK.out.2.2.1.frozen k
      have ch := LK.out.2.2.2.1.at k hlt
      have zh := LK.out.2.2.2.1.frozen k
      have n1 := LK.out.1.1
      have n2 := LK.out.1.2.1
      have n3 := LK.out.1.2.2.1
      obtain ⟨x, hx⟩ : ∃ x, upTo cc 0 k k = x := ⟨_, rfl⟩
      obtain ⟨y, hy⟩ : ∃ y, upTo fr false k k = y := ⟨_, rfl⟩
      rw [hx] at cg
      rw [hy] at ch
      clear hx hy
      go_wp2_with fail
      go_region
      all_goals go_wp2_with fail
      go_roundw
      case rel => exact ⟨k + 1, by omega, by go_num, LK.out.put rfl⟩
      case measure => simp [intOf]; omega
    · obtain rfl : k = N := by omega
      obtain ⟨C, hC⟩ : ∃ C, upTo cc 0 k = C := ⟨_, rfl⟩
      obtain ⟨F, hF⟩ : ∃ F, upTo fr false k = F := ⟨_, rfl⟩
      rw [hC, hF] at LK
      have HCF := hide (show ∀ j, j < k → C j = cc ∧ F j = fr from fun j hj => ⟨by rw [← hC]; unfold upTo; rw [if_pos hj], by rw [← hF]; unfold upTo; rw [if_pos hj]⟩)
      clear hC hF
      have p0 := (cell_of_row wr z 0 _ _ _ LK.out.2.1).trans rfl
      have p1 := (cell_of_row wr z 1 _ _ _ LK.out.2.1).trans rfl
      go_wp2_with fail
      have H1 := hide (H0.out.next LK.out.2.2.2.2)
      refine (mix_is a0 (some ⟨g, 0, none⟩) (some ⟨h, 0, none⟩) k k0 k k k k k B C F wr H1 (hide LK.out.2.2.1.ints) (hide LK.out.2.2.2.1.flags) (by omega) (by omega) (by omega) (hide fun j hj => by rw [(HCF.out j hj).1]; omega) (by omega)).mono ?_
      rintro e w3 ⟨g3, hg3, rfl, r3, b3⟩
      have R3 := hide r3
      have B3 := hide (bnext LK.out.2.2.2.2 b3)
      clear r3 b3 hg3 LK H1 p0 p1
      go_wp2_with fail
      refine (mix_is a0 none none k k0 0 0 0 0 0 B (fun _ => 0) (fun _ => false) w3 (hide (H0.out.next B3.out)) (hide (intsAt_none _ _ _)) (hide (flagsAt_none _ _ _)) (by omega) (by omega) (by omega) (hide fun j hj => absurd hj (Nat.not_lt_zero _)) rfl).mono ?_
      rintro e w4 ⟨g4, hg4, rfl, r4, b4⟩
      have R4 := hide (show RowN w4 g4 k B from r4.ext fun j hj => by unfold mixOf; rw [if_neg (fun h => absurd h.1 (Nat.not_lt_zero _))])
      have R3 := hide (R3.out.next b4)
      have B4 := hide (bnext B3.out b4)
      clear r4 b4 hg4 B3
      go_wp2_with fail
      go_loopw [11] (fun si wr => ∃ i : Nat, i ≤ k ∧ si = .int .i64 (i : Int) ∧ Below w4.heap.size w4 wr) (fun si _ => k - (intOf si).toNat)
      case atStart => exact ⟨0, Nat.zero_le _, rfl, Below.refl _ _⟩
      case round =>
        obtain ⟨i, hi, rfl, hbr⟩ := hrel
        have BR := hide hbr
        clear hbr
        by_cases hlt2 : i < k
        · obtain ⟨b0, o0, rfl, hb0, e0⟩ := (H0.out.next (bnext B4.out BR.out)) i hlt2
          have e3 := (R3.out.next BR.out).at i hlt2
          have e4 := (R4.out.next BR.out).at i hlt2
          obtain ⟨x, hx⟩ : ∃ x, B i = x := ⟨_, rfl⟩
          obtain ⟨y, hy⟩ : ∃ y, mixOf B k C F i = y := ⟨_, rfl⟩
          have hz : (if fr = true ∨ x = 0 then 256 + cc else x) = y := by
            rw [← hy, ← hx]
            unfold mixOf
            rw [(HCF.out i hlt2).1, (HCF.out i hlt2).2]
            have hne : ¬ cc = 0 := by omega
            simp [hlt2, hne]
          rw [hx] at e0 e4
          rw [hy] at e3
          clear hx hy hb0
          cases fr
          · by_cases qx : x = 0
            · have r1 : (x == 0) = true := by simpa using qx
              rw [if_pos (.inr qx)] at hz
              subst hz
              go_wp2_with fail
              go_quiet (fail)
              go_wp2_with fail
              exact ⟨⟨i + 1, by omega, by go_num, bnext BR.out (below_drew (Below.refl _ _) _)⟩, by simp [intOf]; omega⟩
            · have r1 : (x == 0) = false := by simpa using qx
              rw [if_neg (by rintro (h | h); cases h; exact qx h)] at hz
              subst hz
              go_wp2_with fail
              go_quiet (fail)
              go_wp2_with fail
              exact ⟨⟨i + 1, by omega, by go_num, bnext BR.out (below_drew (Below.refl _ _) _)⟩, by simp [intOf]; omega⟩
          · rw [if_pos (.inl rfl)] at hz
            subst hz
            go_wp2_with fail
            go_quiet (fail)
            go_wp2_with fail
            exact ⟨⟨i + 1, by omega, by go_num, bnext BR.out (below_drew (Below.refl _ _) _)⟩, by simp [intOf]; omega⟩
        · obtain rfl : i = k := by omega
          have A5 := hide (fun (u : World) => heap_alloc_new u (.cells #[.int .i64 0] 3))
          go_wp2_with fail
          refine under_calls fun w5 hw5 => ?_
          have B5 := hide (show Below wr.heap.size wr w5 by rw [hw5]; exact (Below.refl _ _).alloc (Nat.le_refl _) _)
          have I5 := hide (show IntsAt w5 (some ⟨wr.heap.size, 0, none⟩) 1 (fun j => [0].getD j 0) by rw [hw5]; exact ints_lit [0] (heap_alloc_new _ _))
          clear hw5
          refine (mix_is (some ⟨wr.heap.size, 0, none⟩) none none 1 1 0 0 0 0 0 _ (fun _ => 0) (fun _ => false) w5 I5 (hide (intsAt_none _ _ _)) (hide (flagsAt_none _ _ _)) (by omega) (by omega) (by omega) (hide fun j hj => absurd hj (Nat.not_lt_zero _)) rfl).mono ?_
          rintro e w6 ⟨g6, _, rfl, _, b6⟩
          have B6 := hide (bnext (bnext (bnext B4.out BR.out) B5.out) b6)
          clear b6
          go_wp2_with fail
          go_ret
          exact ⟨rfl, B6.out⟩
theorem lineOrder_walk (a0 : Option Addr) (len0 cap0 : Nat) (z0 : List Int) (a1 : Int) (a2 : Bool) (w : World) (w0 : IsRow .i64 w a0 len0 cap0 z0) (w1 : (Lit.int .i64 a1).wf = true) :
    Calls Try.prog 4 #[.slice a0 len0 cap0, .int .i64 a1, .bool a2] w fun e w' => e = .returned (.bool true) ∧ Below w.heap.size w w' := by
  have hq : bits .and .i64 a1 254 = (((a1 % 256).toNat &&& 254 : Nat) : Int) := and_low a1 254 (by unfold IsByte; omega)
  have h1 : (a1 % 256).toNat &&& 254 ≤ 254 := Nat.and_le_right
  generalize (a1 % 256).toNat &&& 254 = n at hq h1
  have hm := w0.max
  by_cases hl : len0 ≤ 500
  · exact lo_short len0 a0 len0 cap0 a1 a2 _ (n : Int) w (hide w0.ints) hq (by omega) (by omega) hl rfl
  · exact lo_long 500 a0 len0 cap0 a1 a2 _ (n : Int) w (hide (w0.ints.less (by omega))) hq (by omega) (by omega) (Nat.le_refl _) rfl (by omega) hm.1 (by have := hm.2; simp [maxLen] at this; omega)
set_option maxRecDepth 100000 in
theorem lineOrder_lifted (os : Os) (started : os.Started) (H : Type) (enc : TypeId × Value → H) :
    ReturnsInHanded {} Try.checked os 4 .any (Rows.lineOrderSpec.pre6 enc Try.prog Try.f4 Rows.lineOrderRow.domain false) (Rows.lineOrderSpec.post enc Try.prog Try.f4 false true false false) := by
  refine returnsInHanded_of_change (C := Try.checked) own started (by kernel_rfl) Try.func4
    (ChangeSpec.witness6 (enc := enc) (C := Try.checked) false ⟨#[], #[.slice none 0 0, .int .i64 0, .bool false], []⟩ 8 (by kernel_rfl) (by kernel_rfl) (by kernel_rfl) (by kernel_rfl)) ?_
  intro W base args ds gs before hval0 hW hcnd _
  have hval : ∀ (j : Nat) t v, Try.f4.params[j]? = some t → args[j]? = some v → Value.okWide Try.prog W .any base t v := hval0
  have hW' := hW
  obtain ⟨p, q, hA0, hV, rfl, hfz, hnd⟩ := hW
  have hA : DataW.TrodAll enc Try.prog W 0 (fun _ => true) true Try.f4.params.toList args.toList ds p := hA0
  rw [Try.params4] at hA hval
  obtain ⟨v0, vs0, d0, ds0, p0, q0, hargs, rfl, rfl, h0, r0⟩ := trodAll_cons hA
  obtain ⟨v1, vs1, d1, ds1, p1, q1, rfl, rfl, rfl, h1, r1⟩ := trodAll_cons r0
  obtain ⟨v2, vs2, d2, ds2, p2, q2, rfl, rfl, rfl, h2, r2⟩ := trodAll_cons r1
  obtain ⟨rfl, rfl, rfl⟩ := trodAll_nil r2
  obtain rfl : args = #[v0, v1, v2] := by cases args; simp_all
  obtain ⟨rfl, rfl⟩ := trodVars_none hV
  obtain ⟨a0, len0, cap0, rfl⟩ := okWide_slice Try.underlying22 (hval 0 22 v0 rfl rfl)
  have k0 := h0
  have lt0 : ∀ x ∈ p0, x.block < W.heap.size := by obtain ⟨m, hm⟩ := k0; exact DataW.trod_lt m _ _ _ hm
  obtain ⟨z0, w0⟩ : ∃ zs, IsRow .i64 W a0 len0 cap0 zs := by
    obtain ⟨fuel, hf⟩ := h0
    rcases open_ints Try.underlying22 Try.underlying3 (by kernel_rfl) hf with ⟨hcs, _⟩ | ⟨x, l, c, zs, hcs, _, hl, hm, hz, _, hcell, hwz⟩
    · simp [Value.cells] at hcs
      obtain ⟨rfl, rfl, rfl⟩ := hcs
      exact ⟨[], .inl ⟨rfl, rfl, rfl, rfl⟩⟩
    · simp [Value.cells] at hcs
      obtain ⟨rfl, rfl, rfl⟩ := hcs
      exact ⟨zs, .inr ⟨_, rfl, hl, hm, by simpa using hz, hcell, hwz⟩⟩
  obtain ⟨a1, rfl, rfl, rfl, w1⟩ := open_int Try.underlying3 (hval 1 3 v1 rfl rfl) h1
  obtain ⟨a2, rfl, rfl, rfl⟩ := open_bool Try.underlying4 (hval 2 4 v2 rfl rfl) h2
  clear hA0 hval0
  refine (lineOrder_walk a0 len0 cap0 z0 a1 a2 W w0 w1).mono fun e W' ⟨he, bel⟩ => ?_
  subst he
  exact ⟨_, rfl, _, _, _, [], _, [], hW', trodAll_mk1 (shut_bool Try.underlying4 _), (trodAll_cons_mk (Below.trod laidOut (by kernel_rfl) (of_decide_eq_true (by kernel_rfl)) k0 bel lt0) (trodAll_cons_mk (shut_int Try.underlying3 w1) (trodAll_cons_mk (shut_bool Try.underlying4 _) trodAll_mk0))), rfl, bel.frame _, fun h => by cases h⟩

theorem lineOrder_over : Rows.lineOrderRow.holds Try.pinned (OpenSpec.ofChange Rows.lineOrderSpec) :=
  OpenClaim.holds_of_wide 4 Try.f4 rfl rfl rfl rfl rfl rfl rfl ⟨rfl, rfl, rfl, rfl, rfl⟩ rfl rfl rfl rfl rfl (by kernel_rfl) Try.func4 (by kernel_rfl)
    (of_decide_eq_true (by kernel_rfl)) (by unfold Func.isWrapper; first | (rw [if_pos (by decide +kernel)]; kernel_rfl) | (rw [if_neg (by decide +kernel)]; exact ⟨rfl, rfl⟩))
    (fun os started H enc _ => lineOrder_lifted os started H enc)

theorem lineOrder_holds : Rows.LineOrderSaid := lineOrder_over
#print axioms lineOrder_holds
end Go.Proofs.Ytnhjhmfiapjenaa
