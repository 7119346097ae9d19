/- Contracts of package region: what stands at a place of the bus, which kinds are slow, which are held. -/
import Derived.Test.YthelklkfcllddaaGreatDoorProg
import Derived.Test.YthelklkfcllddaaGreatDoorTopCardsJ01
import Derived.Laws.StructEq
import Derived.Laws.Rows
import Derived.Laws.Tables
import Derived.Laws.ResultCell
import Derived.Laws.CopyOwn
import Derived.WalkMore
import Derived.WalkKit
import Derived.Below
import Derived.OneCell
import Derived.Handy
namespace Go.Proofs.YthelklkfcllddaaGreatDoor.G6
set_option maxRecDepth 20000
open Go.RowKit
set_option linter.unusedVariables false
def portCells : Array Value := #[.int .i64 0, .int .i64 0, .int .i64 4, .int .i64 8, .int .i64 16, .int .i64 2, .int .i64 1, .int .i64 4]
def HasPorts (w : World) : Prop := ∃ t fr, w.heap[1]? = some (.cells portCells t fr)
theorem HasPorts.below {B : Nat} {w w' : World} (h : HasPorts w) (b : Below B w w') (hB : 1 < B) : HasPorts w' := by
  obtain ⟨t, fr, e⟩ := h
  exact ⟨t, fr, (b.block 1 hB).trans e⟩
theorem HasPorts.pos {w : World} (h : HasPorts w) : 1 < w.heap.size := by
  obtain ⟨t, fr, e⟩ := h
  exact lt_of_block e
theorem HasPorts.next {w w' : World} (h : HasPorts w) (b : Below w.heap.size w w') : HasPorts w' := h.below b h.pos
def portAt (j : Nat) : Int := [(0 : Int), 0, 4, 8, 16, 2, 1, 4].getD j 0
theorem HasPorts.cell {w : World} (h : HasPorts w) (j : Nat) (hj : j < 8) : w.cell? ⟨1, j, none⟩ = some (.int .i64 (portAt j)) := by
  obtain ⟨t, fr, e⟩ := h
  rcases j with _ | _ | _ | _ | _ | _ | _ | _ | j
  all_goals first | omega | (simp [World.cell?, e, portCells, portAt])
def kindW (p : Int) : Int := if p < 0 ∨ 2097152 ≤ p then 8 else if p < 1048576 then 0 else if 2031616 ≤ p ∧ p < 2064384 then 1 else if p < 2088960 ∨ 2095104 ≤ p then 8 else 2 + (p - 2088960) / 1024
def pageW (p : Int) : Int := if 0 ≤ p ∧ p < 1048576 then p / 8192 else 0
def atW (p : Int) : Int :=
  if kindW p = 0 ∨ kindW p = 1 then p % 8192 else if kindW p = 2 ∨ kindW p = 7 then p % 4 else if kindW p = 3 then p % 8 else if kindW p = 4 then p % 16 else if kindW p = 5 then p % 2 else 0
theorem held_any (k : Int) (w : World) : Calls Tryz.prog 45 #[.int .i64 k] w fun e w' => e = .returned (.bool (decide (4 ≤ k ∧ k ≤ 7))) ∧ w' = w := by
  by_cases h : 4 ≤ k ∧ k ≤ 7
  · rw [decide_eq_true h]
    have hk : k = 4 ∨ k = 5 ∨ k = 6 ∨ k = 7 := by omega
    rcases hk with rfl | rfl | rfl | rfl
    all_goals
      go_enter Tryz.func45, Tryz.ntmps45
      go_wp2
      go_ret
      exact ⟨rfl, rfl⟩
  · rw [decide_eq_false h]
    have n4 : ¬ k = 4 := by omega
    have n5 : ¬ k = 5 := by omega
    have n6 : ¬ k = 6 := by omega
    have n7 : ¬ k = 7 := by omega
    clear h
    go_enter Tryz.func45, Tryz.ntmps45
    go_wp2
    go_ret
    exact ⟨rfl, rfl⟩
theorem mem_rom (g r : Int) (w : World) (h : g ≤ 127) : Calls Tryz.prog 22 #[.int .i64 g, .int .i64 r] w fun e w' => e = .returned (.agg #[.int .i64 0, .int .i64 g, .int .i64 r]) ∧ Below w.heap.size w w' := by
  go_enter Tryz.func22, Tryz.ntmps22
  go_wp2
  go_returns
  exact ⟨rfl, (Below.refl _ w).alloc (Nat.le_refl _) _⟩
theorem mem_ram (g r : Int) (w : World) (h : 248 ≤ g) (k : g ≤ 251) : Calls Tryz.prog 22 #[.int .i64 g, .int .i64 r] w fun e w' => e = .returned (.agg #[.int .i64 1, .int .i64 0, .int .i64 r]) ∧ Below w.heap.size w w' := by
  go_enter Tryz.func22, Tryz.ntmps22
  go_wp2
  go_returns
  exact ⟨rfl, (Below.refl _ w).alloc (Nat.le_refl _) _⟩
theorem mem_open (g r : Int) (w : World) (h : 127 < g) (k : g < 248 ∨ 251 < g) : Calls Tryz.prog 22 #[.int .i64 g, .int .i64 r] w fun e w' => e = .returned (.agg #[.int .i64 8, .int .i64 0, .int .i64 0]) ∧ Below w.heap.size w w' := by
  by_cases k1 : g < 248
  · clear k
    go_enter Tryz.func22, Tryz.ntmps22
    go_wp2
    go_returns
    exact ⟨rfl, (Below.refl _ w).alloc (Nat.le_refl _) _⟩
  · have k2 : 251 < g := by omega
    clear k
    go_enter Tryz.func22, Tryz.ntmps22
    go_wp2
    go_returns
    exact ⟨rfl, (Below.refl _ w).alloc (Nat.le_refl _) _⟩
theorem port_in (r : Int) (q : Nat) (w : World) (hT : HasPorts w) (hq : q < 6) (h0 : 1024 * (q : Int) ≤ r) (h1 : r < 1024 * (q : Int) + 1024) :
    Calls Tryz.prog 23 #[.int .i64 r] w fun e w' => e = .returned (.agg #[.int .i64 (2 + (q : Int)), .int .i64 0, .int .i64 (r % portAt (2 + q))]) ∧ Below w.heap.size w w' := by
  have hp := hT.pos
  have hc := hT.cell (2 + q) (by omega)
  have hd : r / 1024 = (q : Int) := by omega
  have r0 : 0 ≤ r := by omega
  clear hT h1 h0
  rcases q with _ | _ | _ | _ | _ | _ | q
  ·
    go_enter Tryz.func23, Tryz.ntmps23
    go_wp2
    go_returns
    exact ⟨rfl, (Below.refl _ w).alloc (Nat.le_refl _) _⟩
  ·
    go_enter Tryz.func23, Tryz.ntmps23
    go_wp2
    go_returns
    exact ⟨rfl, (Below.refl _ w).alloc (Nat.le_refl _) _⟩
  ·
    go_enter Tryz.func23, Tryz.ntmps23
    go_wp2
    go_returns
    exact ⟨rfl, (Below.refl _ w).alloc (Nat.le_refl _) _⟩
  ·
    go_enter Tryz.func23, Tryz.ntmps23
    go_wp2
    go_returns
    exact ⟨rfl, (Below.refl _ w).alloc (Nat.le_refl _) _⟩
  ·
    go_enter Tryz.func23, Tryz.ntmps23
    go_wp2
    go_returns
    exact ⟨rfl, (Below.refl _ w).alloc (Nat.le_refl _) _⟩
  ·
    go_enter Tryz.func23, Tryz.ntmps23
    go_wp2
    go_returns
    exact ⟨rfl, (Below.refl _ w).alloc (Nat.le_refl _) _⟩
  · omega
theorem port_out (r : Int) (w : World) (h : 6144 ≤ r) (k : r < 8192) : Calls Tryz.prog 23 #[.int .i64 r] w fun e w' => e = .returned (.agg #[.int .i64 8, .int .i64 0, .int .i64 0]) ∧ Below w.heap.size w w' := by
  have hd : 6 ≤ r / 1024 := by omega
  have hd1 : r / 1024 ≤ 7 := by omega
  go_enter Tryz.func23, Tryz.ntmps23
  go_wp2
  go_returns
  exact ⟨rfl, (Below.refl _ w).alloc (Nat.le_refl _) _⟩
theorem where_beyond (p : Int) (w : World) (h : p < 0 ∨ 2097152 ≤ p) : Calls Tryz.prog 8 #[.int .i64 p] w fun e w' => e = .returned (.agg #[.int .i64 8, .int .i64 0, .int .i64 0]) ∧ Below w.heap.size w w' := by
  by_cases k1 : p < 0
  · clear h
    go_enter Tryz.func8, Tryz.ntmps8
    go_wp2
    go_returns
    exact ⟨rfl, ((Below.refl _ w).alloc (Nat.le_refl _) _).alloc (by simp) _⟩
  · have k2 : 2097152 ≤ p := by omega
    clear h
    go_enter Tryz.func8, Tryz.ntmps8
    go_wp2
    go_returns
    exact ⟨rfl, ((Below.refl _ w).alloc (Nat.le_refl _) _).alloc (by simp) _⟩
theorem where_rom (p : Int) (w : World) (h : 0 ≤ p) (k : p < 1048576) : Calls Tryz.prog 8 #[.int .i64 p] w fun e w' => e = .returned (.agg #[.int .i64 0, .int .i64 (p / 8192), .int .i64 (p % 8192)]) ∧ Below w.heap.size w w' := by
  obtain ⟨g, hg⟩ : ∃ g, g = p / 8192 := ⟨_, rfl⟩
  obtain ⟨r, hr⟩ : ∃ r, r = p % 8192 := ⟨_, rfl⟩
  have c := hide (fun w => mem_rom g r w (by omega))
  have g0 : 0 ≤ g ∧ g ≤ 127 := by omega
  have eg : p / 8192 = g := hg.symm
  have er : p % 8192 = r := hr.symm
  rw [eg, er]
  clear hg hr
  go_enter Tryz.func8, Tryz.ntmps8
  go_wp2_with fail
  refine (c.out _).mono ?_
  rintro e w1 ⟨rfl, b1⟩
  have s1 := b1.size
  have r2 := b1.block w.heap.size (by simp; omega)
  have r3 := b1.block (w.heap.size + 1) (by simp)
  rw [heap_alloc2_old] at r2
  rw [heap_alloc2_new] at r3
  have q2 : (w1.alloc (.cells #[.int .i64 0, .int .i64 g, .int .i64 r] 67)).heap[w.heap.size]? = some (.cells #[.int .i64 0, .int .i64 0, .int .i64 0] 67 (0, 0)) := (((Below.refl w1.heap.size w1).alloc (Nat.le_refl _) _).block w.heap.size (lt_of_block r2)).trans r2
  have q3 : (w1.alloc (.cells #[.int .i64 0, .int .i64 g, .int .i64 r] 67)).heap[w.heap.size + 1]? = some (.cells #[.int .i64 8, .int .i64 0, .int .i64 0] 67 (0, 0)) := (((Below.refl w1.heap.size w1).alloc (Nat.le_refl _) _).block (w.heap.size + 1) (lt_of_block r3)).trans r3
  have BW := hide (((((Below.refl w.heap.size w).alloc (Nat.le_refl _) (.cells #[.int .i64 0, .int .i64 0, .int .i64 0] 67)).alloc (by simp) (.cells #[.int .i64 8, .int .i64 0, .int .i64 0] 67)).trans (b1.mono (by simp; omega))).alloc (by simp at s1; omega) (.cells #[.int .i64 0, .int .i64 g, .int .i64 r] 67))
  have R2 := hide q2
  have R3 := hide q3
  clear b1 s1 r2 r3 q2 q3
  go_wp2_with (first
    | (refine wpList_load_row rfl 67 (.tmp 3) rfl (w.heap.size + 1) rfl 67 _ (0, 0) _ R3.out Tryz.underlying67 rfl (by kernel_rfl) ?_)
    | (refine wpList_store_row rfl 67 (.tmp 2) (.tmp 25) rfl w.heap.size _ rfl rfl 67 _ R2.out (by kernel_rfl) rfl (by kernel_rfl) ?_))
  (try simp only [Exit.inBlock, Exit.then])
  refine bodyPost_ret (results_cell_row rfl _ _ w.heap.size 67 _ (0, 0) _ rfl (setRow_heap _ _ _ _ _ _ R2.out) Tryz.underlying67 rfl (by kernel_rfl)) rfl ?_
  exact ⟨rfl, below_setRow BW.out (Nat.le_refl _) _⟩
theorem where_ram (p : Int) (w : World) (h : 2031616 ≤ p) (k : p < 2064384) : Calls Tryz.prog 8 #[.int .i64 p] w fun e w' => e = .returned (.agg #[.int .i64 1, .int .i64 0, .int .i64 (p % 8192)]) ∧ Below w.heap.size w w' := by
  obtain ⟨g, hg⟩ : ∃ g, g = p / 8192 := ⟨_, rfl⟩
  obtain ⟨r, hr⟩ : ∃ r, r = p % 8192 := ⟨_, rfl⟩
  have c := hide (fun w => mem_ram g r w (by omega) (by omega))
  have g0 : 248 ≤ g ∧ g ≤ 251 := by omega
  have eg : p / 8192 = g := hg.symm
  have er : p % 8192 = r := hr.symm
  rw [er]
  clear hg hr
  go_enter Tryz.func8, Tryz.ntmps8
  go_wp2_with fail
  refine (c.out _).mono ?_
  rintro e w1 ⟨rfl, b1⟩
  have s1 := b1.size
  have r2 := b1.block w.heap.size (by simp; omega)
  have r3 := b1.block (w.heap.size + 1) (by simp)
  rw [heap_alloc2_old] at r2
  rw [heap_alloc2_new] at r3
  have q2 : (w1.alloc (.cells #[.int .i64 1, .int .i64 0, .int .i64 r] 67)).heap[w.heap.size]? = some (.cells #[.int .i64 0, .int .i64 0, .int .i64 0] 67 (0, 0)) := (((Below.refl w1.heap.size w1).alloc (Nat.le_refl _) _).block w.heap.size (lt_of_block r2)).trans r2
  have q3 : (w1.alloc (.cells #[.int .i64 1, .int .i64 0, .int .i64 r] 67)).heap[w.heap.size + 1]? = some (.cells #[.int .i64 8, .int .i64 0, .int .i64 0] 67 (0, 0)) := (((Below.refl w1.heap.size w1).alloc (Nat.le_refl _) _).block (w.heap.size + 1) (lt_of_block r3)).trans r3
  have BW := hide (((((Below.refl w.heap.size w).alloc (Nat.le_refl _) (.cells #[.int .i64 0, .int .i64 0, .int .i64 0] 67)).alloc (by simp) (.cells #[.int .i64 8, .int .i64 0, .int .i64 0] 67)).trans (b1.mono (by simp; omega))).alloc (by simp at s1; omega) (.cells #[.int .i64 1, .int .i64 0, .int .i64 r] 67))
  have R2 := hide q2
  have R3 := hide q3
  clear b1 s1 r2 r3 q2 q3
  go_wp2_with (first
    | (refine wpList_load_row rfl 67 (.tmp 3) rfl (w.heap.size + 1) rfl 67 _ (0, 0) _ R3.out Tryz.underlying67 rfl (by kernel_rfl) ?_)
    | (refine wpList_store_row rfl 67 (.tmp 2) (.tmp 25) rfl w.heap.size _ rfl rfl 67 _ R2.out (by kernel_rfl) rfl (by kernel_rfl) ?_))
  (try simp only [Exit.inBlock, Exit.then])
  refine bodyPost_ret (results_cell_row rfl _ _ w.heap.size 67 _ (0, 0) _ rfl (setRow_heap _ _ _ _ _ _ R2.out) Tryz.underlying67 rfl (by kernel_rfl)) rfl ?_
  exact ⟨rfl, below_setRow BW.out (Nat.le_refl _) _⟩
theorem where_open (p : Int) (w : World) (h : 1048576 ≤ p) (k : p < 2031616 ∨ 2064384 ≤ p) (l : p < 2088960) : Calls Tryz.prog 8 #[.int .i64 p] w fun e w' => e = .returned (.agg #[.int .i64 8, .int .i64 0, .int .i64 0]) ∧ Below w.heap.size w w' := by
  obtain ⟨g, hg⟩ : ∃ g, g = p / 8192 := ⟨_, rfl⟩
  obtain ⟨r, hr⟩ : ∃ r, r = p % 8192 := ⟨_, rfl⟩
  have c := hide (fun w => mem_open g r w (by omega) (by omega))
  have g0 : g < 255 := by omega
  have p1 : p < 2097152 := by omega
  have eg : p / 8192 = g := hg.symm
  have er : p % 8192 = r := hr.symm
  clear hg hr k l
  go_enter Tryz.func8, Tryz.ntmps8
  go_wp2_with fail
  refine (c.out _).mono ?_
  rintro e w1 ⟨rfl, b1⟩
  have s1 := b1.size
  have r2 := b1.block w.heap.size (by simp; omega)
  have r3 := b1.block (w.heap.size + 1) (by simp)
  rw [heap_alloc2_old] at r2
  rw [heap_alloc2_new] at r3
  have q2 : (w1.alloc (.cells #[.int .i64 8, .int .i64 0, .int .i64 0] 67)).heap[w.heap.size]? = some (.cells #[.int .i64 0, .int .i64 0, .int .i64 0] 67 (0, 0)) := (((Below.refl w1.heap.size w1).alloc (Nat.le_refl _) _).block w.heap.size (lt_of_block r2)).trans r2
  have q3 : (w1.alloc (.cells #[.int .i64 8, .int .i64 0, .int .i64 0] 67)).heap[w.heap.size + 1]? = some (.cells #[.int .i64 8, .int .i64 0, .int .i64 0] 67 (0, 0)) := (((Below.refl w1.heap.size w1).alloc (Nat.le_refl _) _).block (w.heap.size + 1) (lt_of_block r3)).trans r3
  have BW := hide (((((Below.refl w.heap.size w).alloc (Nat.le_refl _) (.cells #[.int .i64 0, .int .i64 0, .int .i64 0] 67)).alloc (by simp) (.cells #[.int .i64 8, .int .i64 0, .int .i64 0] 67)).trans (b1.mono (by simp; omega))).alloc (by simp at s1; omega) (.cells #[.int .i64 8, .int .i64 0, .int .i64 0] 67))
  have R2 := hide q2
  have R3 := hide q3
  clear b1 s1 r2 r3 q2 q3
  go_wp2_with (first
    | (refine wpList_load_row rfl 67 (.tmp 3) rfl (w.heap.size + 1) rfl 67 _ (0, 0) _ R3.out Tryz.underlying67 rfl (by kernel_rfl) ?_)
    | (refine wpList_store_row rfl 67 (.tmp 2) (.tmp 30) rfl w.heap.size _ rfl rfl 67 _ R2.out (by kernel_rfl) rfl (by kernel_rfl) ?_))
  (try simp only [Exit.inBlock, Exit.then])
  refine bodyPost_ret (results_cell_row rfl _ _ w.heap.size 67 _ (0, 0) _ rfl (setRow_heap _ _ _ _ _ _ R2.out) Tryz.underlying67 rfl (by kernel_rfl)) rfl ?_
  exact ⟨rfl, below_setRow BW.out (Nat.le_refl _) _⟩
theorem where_port (p x y : Int) (w : World) (hT : HasPorts w) (h : 2088960 ≤ p) (k : p < 2097152)
    (cp : ∀ w, HasPorts w → Calls Tryz.prog 23 #[.int .i64 (p % 8192)] w fun e w' => e = .returned (.agg #[.int .i64 x, .int .i64 0, .int .i64 y]) ∧ Below w.heap.size w w') :
    Calls Tryz.prog 8 #[.int .i64 p] w fun e w' => e = .returned (.agg #[.int .i64 x, .int .i64 0, .int .i64 y]) ∧ Below w.heap.size w w' := by
  obtain ⟨r, hr⟩ : ∃ r, r = p % 8192 := ⟨_, rfl⟩
  have c := hide (fun w => mem_open 255 r w (by omega) (by omega))
  have eg : p / 8192 = 255 := by omega
  have er : p % 8192 = r := hr.symm
  rw [er] at cp
  have CP := hide cp
  have HT := hide hT
  clear hr cp hT
  go_enter Tryz.func8, Tryz.ntmps8
  go_wp2_with fail
  refine (c.out _).mono ?_
  rintro e w1 ⟨rfl, b1⟩
  have s1 := b1.size
  have r2 := b1.block w.heap.size (by simp; omega)
  have r3 := b1.block (w.heap.size + 1) (by simp)
  rw [heap_alloc2_old] at r2
  rw [heap_alloc2_new] at r3
  have q2 : (w1.alloc (.cells #[.int .i64 8, .int .i64 0, .int .i64 0] 67)).heap[w.heap.size]? = some (.cells #[.int .i64 0, .int .i64 0, .int .i64 0] 67 (0, 0)) := (((Below.refl w1.heap.size w1).alloc (Nat.le_refl _) _).block w.heap.size (lt_of_block r2)).trans r2
  have q3 : (w1.alloc (.cells #[.int .i64 8, .int .i64 0, .int .i64 0] 67)).heap[w.heap.size + 1]? = some (.cells #[.int .i64 8, .int .i64 0, .int .i64 0] 67 (0, 0)) := (((Below.refl w1.heap.size w1).alloc (Nat.le_refl _) _).block (w.heap.size + 1) (lt_of_block r3)).trans r3
  have BW := hide (((((Below.refl w.heap.size w).alloc (Nat.le_refl _) (.cells #[.int .i64 0, .int .i64 0, .int .i64 0] 67)).alloc (by simp) (.cells #[.int .i64 8, .int .i64 0, .int .i64 0] 67)).trans (b1.mono (by simp; omega))).alloc (by simp at s1; omega) (.cells #[.int .i64 8, .int .i64 0, .int .i64 0] 67))
  have R2 := hide q2
  have R3 := hide q3
  clear b1 s1 r2 r3 q2 q3
  go_wp2_with (first
    | (refine wpList_load_row rfl 67 (.tmp 3) rfl (w.heap.size + 1) rfl 67 _ (0, 0) _ R3.out Tryz.underlying67 rfl (by kernel_rfl) ?_))
  refine (CP.out _ (HT.out.next BW.out)).mono ?_
  rintro e w3 ⟨rfl, b3⟩
  have q3 := (b3.block w.heap.size (lt_of_block R2.out)).trans R2.out
  have BX := hide (bnext BW.out b3)
  clear R2 BW
  have R2 := hide q3
  have BW := hide BX.out
  clear q3 b3
  go_wp2_with (first
    | (refine wpList_store_row rfl 67 (.tmp 2) (.tmp 29) rfl w.heap.size _ rfl rfl 67 _ R2.out (by kernel_rfl) rfl (by kernel_rfl) ?_))
  (try simp only [Exit.inBlock, Exit.then])
  refine bodyPost_ret (results_cell_row rfl _ _ w.heap.size 67 _ (0, 0) _ rfl (setRow_heap _ _ _ _ _ _ R2.out) Tryz.underlying67 rfl (by kernel_rfl)) rfl ?_
  exact ⟨rfl, below_setRow BW.out (Nat.le_refl _) _⟩
theorem where_any (p : Int) (w : World) (hT : HasPorts w) : Calls Tryz.prog 8 #[.int .i64 p] w fun e w' => e = .returned (.agg #[.int .i64 (kindW p), .int .i64 (pageW p), .int .i64 (atW p)]) ∧ Below w.heap.size w w' := by
  by_cases h1 : p < 0 ∨ 2097152 ≤ p
  · have ek : kindW p = 8 := by unfold kindW; rw [if_pos h1]
    have eg : pageW p = 0 := by unfold pageW; rw [if_neg (by omega)]
    have ea : atW p = 0 := by unfold atW; rw [ek]; rfl
    rw [ek, eg, ea]
    exact where_beyond p w h1
  · by_cases h2 : p < 1048576
    · have ek : kindW p = 0 := by unfold kindW; rw [if_neg h1, if_pos h2]
      have eg : pageW p = p / 8192 := by unfold pageW; rw [if_pos (by omega)]
      have ea : atW p = p % 8192 := by unfold atW; rw [ek]; rfl
      rw [ek, eg, ea]
      exact where_rom p w (by omega) h2
    · have eg : pageW p = 0 := by unfold pageW; rw [if_neg (by omega)]
      by_cases h3 : 2031616 ≤ p ∧ p < 2064384
      · have ek : kindW p = 1 := by unfold kindW; rw [if_neg h1, if_neg h2, if_pos h3]
        have ea : atW p = p % 8192 := by unfold atW; rw [ek]; rfl
        rw [ek, eg, ea]
        exact where_ram p w h3.1 h3.2
      · by_cases h4 : p < 2088960
        · have ek : kindW p = 8 := by unfold kindW; rw [if_neg h1, if_neg h2, if_neg h3, if_pos (by omega)]
          have ea : atW p = 0 := by unfold atW; rw [ek]; rfl
          rw [ek, eg, ea]
          exact where_open p w (by omega) (by omega) h4
        · by_cases h5 : 2095104 ≤ p
          · have ek : kindW p = 8 := by unfold kindW; rw [if_neg h1, if_neg h2, if_neg h3, if_pos (by omega)]
            have ea : atW p = 0 := by unfold atW; rw [ek]; rfl
            rw [ek, eg, ea]
            exact where_port p 8 0 w hT (by omega) (by omega) fun w _ => port_out _ w (by omega) (by omega)
          · obtain ⟨q, hq⟩ : ∃ q : Nat, (q : Int) = (p - 2088960) / 1024 := ⟨((p - 2088960) / 1024).toNat, by omega⟩
            have ek : kindW p = 2 + (q : Int) := by unfold kindW; rw [if_neg h1, if_neg h2, if_neg h3, if_neg (by omega), hq]
            have q6 : q < 6 := by omega
            have ea : atW p = p % 8192 % portAt (2 + q) := by
              unfold atW; rw [ek]
              rcases q with _ | _ | _ | _ | _ | _ | q
              · show p % 4 = p % 8192 % 4; omega
              · show p % 8 = p % 8192 % 8; omega
              · show p % 16 = p % 8192 % 16; omega
              · show p % 2 = p % 8192 % 2; omega
              · show 0 = p % 8192 % 1; omega
              · show p % 4 = p % 8192 % 4; omega
              · omega
            rw [ek, eg, ea]
            exact where_port p _ _ w hT (by omega) (by omega) fun w hT => port_in _ q w hT q6 (by omega) (by omega)
end Go.Proofs.YthelklkfcllddaaGreatDoor.G6
