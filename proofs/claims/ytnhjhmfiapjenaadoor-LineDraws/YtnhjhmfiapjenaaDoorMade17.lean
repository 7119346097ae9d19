/- The law's maker of video memories, of some words, for both sides: its contract. -/
import Derived.Test.YtnhjhmfiapjenaaDoorLines
import Derived.Test.YtnhjhmfiapjenaaDoorGenA
import Derived.Test.YtnhjhmfiapjenaaDoorRef13
namespace Go.Proofs.YtnhjhmfiapjenaaDoor
open Go.RowKit
set_option linter.unusedVariables false

/-- The words behind the first k that were laid. -/
def madeTo (pa pw : Nat → Int) : Nat → Nat → Int
  | 0 => fun _ => 0
  | k + 1 => pokeAt (madeTo pa pw k) (pa k) (pw k)
theorem words_poke {f : Nat → Int} (h : Words (wordAt f)) (n x : Int) : Words (wordAt (pokeAt f n x)) := by
  intro m
  by_cases e : m % 65536 = n % 65536
  · have k := wordAt_same f n x
    have s : wordAt (pokeAt f n x) m = wordAt (pokeAt f n x) n := by unfold wordAt; rw [e]
    rw [s, k]
    split <;> omega
  · rw [wordAt_other f n m x e]
    exact h m
theorem words_zero : Words (wordAt fun _ => 0) := by
  intro n
  unfold wordAt
  split
  · exact ⟨Int.le_refl 0, show (0 : Int) < 65536 by decide⟩
  · exact ⟨Int.le_refl 0, by decide⟩
theorem words_made (pa pw : Nat → Int) : ∀ k, Words (wordAt (madeTo pa pw k))
  | 0 => words_zero
  | k + 1 => words_poke (words_made pa pw k) _ _
/-- A slice of words and their places: its first 80. -/
def IsPokes (w : World) (a : Option Addr) (len : Nat) (pa pw : Nat → Int) : Prop :=
  ∀ i, i < len → i < 80 → ∃ b off, a = some ⟨b, off, none⟩ ∧ b < w.heap.size ∧ w.cell? ⟨b, off + i * 2, none⟩ = some (.int .i64 (pa i)) ∧ w.cell? ⟨b, off + i * 2 + 1, none⟩ = some (.int .i64 (pw i))
theorem IsPokes.next {w w' : World} {a : Option Addr} {len : Nat} {pa pw : Nat → Int} (h : IsPokes w a len pa pw) (k : Below w.heap.size w w') : IsPokes w' a len pa pw := by
  intro i h1 h2
  obtain ⟨b, off, e, hb, c0, c1⟩ := h i h1 h2
  exact ⟨b, off, e, Nat.lt_of_lt_of_le hb k.size, (k.cell (p := ⟨b, _, none⟩) hb).trans c0, (k.cell (p := ⟨b, _, none⟩) hb).trans c1⟩
theorem pokes_in {w : World} {a : Option Addr} {len cap : Nat} (h : IsStructs [some .i64, some .i64] w a len cap) : ∃ pa pw, IsPokes w a len pa pw := by
  rcases Nat.eq_zero_or_pos len with rfl | hl
  · exact ⟨fun _ => 0, fun _ => 0, fun i h1 _ => by omega⟩
  obtain ⟨b, off, e, hb, _, _, hc⟩ := IsStructs.cells h hl
  refine ⟨fun i => intOf ((w.cell? ⟨b, off + i * 2, none⟩).getD undef), fun i => intOf ((w.cell? ⟨b, off + i * 2 + 1, none⟩).getD undef), fun i h1 _ => ⟨b, off, e, hb, ?_, ?_⟩⟩
  · obtain ⟨v, ⟨n, rfl, _⟩, c0⟩ := hc i h1 0 _ rfl
    have c0' : w.cell? ⟨b, off + i * 2, none⟩ = some (.int .i64 n) := c0
    simp only [c0']
    rfl
  · obtain ⟨v, ⟨n, rfl, _⟩, c0⟩ := hc i h1 1 _ rfl
    have c0' : w.cell? ⟨b, off + i * 2 + 1, none⟩ = some (.int .i64 n) := c0
    simp only [c0']
    rfl
/-- The program's memory (block g) and the document's (blocks c and d), made behind w0. -/
def Pair (w0 : World) (g c d : Nat) (f h : Nat → Int) (w : World) : Prop :=
  (w0.heap.size ≤ g ∧ w0.heap.size ≤ c ∧ w0.heap.size ≤ d ∧ g ≠ c ∧ g ≠ d) ∧ HasM w g true f 0 0 1 0 0 ∧ HasR w c d h 0 0 1 0 0 ∧ Below w0.heap.size w0 w
theorem Pair.next {w0 w : World} {g c d : Nat} {f h : Nat → Int} (k : Pair w0 g c d f h w) {w' : World} (b : Below w.heap.size w w') : Pair w0 g c d f h w' := ⟨k.1, k.2.1.next b, k.2.2.1.next b, bnext k.2.2.2 b⟩
theorem Pair.below {w0 w : World} {g c d : Nat} {f h : Nat → Int} (k : Pair w0 g c d f h w) : Below w0.heap.size w0 w := k.2.2.2
theorem Pair.poke {w0 w : World} {g c d : Nat} {f h : Nat → Int} (k : Pair w0 g c d f h w) (n x : Int) (F : Nat → Int) (hF : pokeAt f n x = F) : Calls Tryd.prog 18 #[.pointer (some ⟨g, 0, none⟩), .int .i64 n, .int .i64 x] w fun e w' => e = .returned (.tuple #[]) ∧ Pair w0 g c d F h w' :=
  (poke_is g _ _ _ _ _ _ _ k.2.1 n x F hF).mono fun _ _ hh => ⟨hh.1, k.1, hh.2.1, k.2.2.1.only hh.2.2 (fun e => k.1.2.2.2.1 e.symm) (fun e => k.1.2.2.2.2 e.symm), bonly k.2.2.2 hh.2.2 k.1.1 (Nat.le_refl _)⟩
theorem Pair.rpoke {w0 w : World} {g c d : Nat} {f h : Nat → Int} (k : Pair w0 g c d f h w) (n x : Int) (F : Nat → Int) (hF : pokeAt h n x = F) : Calls Tryd.prog 19 #[.pointer (some ⟨c, 0, none⟩), .int .i64 n, .int .i64 x] w fun e w' => e = .returned (.tuple #[]) ∧ Pair w0 g c d f F w' :=
  (rpoke_is c d _ _ _ _ _ _ _ k.2.2.1 n x F hF).mono fun _ _ hh => ⟨hh.1, k.1, hh.2.2.obj k.2.1 k.1.2.2.2.1 k.1.2.2.2.2, hh.2.1, bonly2 k.2.2.2 hh.2.2 k.1.2.1 k.1.2.2.1 (Nat.le_refl _)⟩
set_option maxHeartbeats 1000000 in
theorem made_short (a : Option Addr) (len cap : Nat) (pa pw : Nat → Int) (w : World) (HR : Hid (IsPokes w a len pa pw)) (hM : len ≤ 80) : Calls Tryd.prog 6 #[.slice a len cap] w fun e w' => ∃ g c d, e = .returned (.tuple #[.pointer (some ⟨g, 0, none⟩), .pointer (some ⟨c, 0, none⟩)]) ∧ Pair w g c d (madeTo pa pw len) (madeTo pa pw len) w' := by
  go_enter Tryd.func6, Tryd.ntmps6
  go_wp2_with fail
  refine (new_any _).mono ?_
  rintro e w1 ⟨rfl, h1, b1⟩
  have H1 := hide (show HasM w1 w.heap.size true (fun _ => 0) 0 0 1 0 0 ∧ Below w.heap.size w w1 from ⟨h1, b1⟩)
  clear h1 b1
  go_wp2_with fail
  refine (rnew_any _).mono ?_
  rintro e w2 ⟨rfl, h2, b2⟩
  have K2 := hide (show Pair w w.heap.size (w1.heap.size + 1) w1.heap.size (madeTo pa pw 0) (madeTo pa pw 0) w2 by
    have hl := H1.out.1.lt
    have hz := H1.out.2.size
    exact ⟨⟨by omega, by omega, by omega, by omega, by omega⟩, H1.out.1.next b2, h2, bnext H1.out.2 b2⟩)
  clear h2 b2 H1
  generalize w1.heap.size + 1 = c at *
  generalize w1.heap.size = d at *
  obtain ⟨g, hg⟩ : ∃ g, w.heap.size = g := ⟨_, rfl⟩
  rw [hg] at K2 ⊢
  clear hg
  go_wp2_with fail
  go_loopw [6] (fun si wr => ∃ (k : Nat), k ≤ len ∧ si = .int .i64 (k : Int) ∧ Pair w g c d (madeTo pa pw k) (madeTo pa pw k) wr) (fun si _ => len - (intOf si).toNat)
  case atStart => exact ⟨0, Nat.zero_le _, rfl, K2.out⟩
  case round =>
    obtain ⟨k, hk, rfl, hv⟩ := hrel
    have VK := hide hv
    clear hv K2
    by_cases hlt : k < len
    · obtain ⟨bb, off, rfl, hbb, hc0, hc1⟩ := HR.out k (by omega) (by omega)
      have HB := hide hbb
      have C0 := hide hc0
      have C1 := hide hc1
      obtain ⟨x, hx⟩ : ∃ x, pa k = x := ⟨_, rfl⟩
      obtain ⟨y, hy⟩ : ∃ y, pw k = y := ⟨_, rfl⟩
      have HF := hide (show pokeAt (madeTo pa pw k) x y = madeTo pa pw (k + 1) by rw [← hx, ← hy]; rfl)
      rw [hx] at C0
      rw [hy] at C1
      have l1 : (k : Int) < len := by omega
      have l2 : k < 80 := by omega
      clear hbb hc0 hc1 hx hy
      go_wp2_with fail
      have hbr : bb < wr.heap.size := Nat.lt_of_lt_of_le HB.out VK.out.below.size
      have k0 := kept_cell ((VK.out.below.cell (p := ⟨bb, off + k * 2, none⟩) HB.out).trans C0.out) hbr
      have k1 := kept_cell ((VK.out.below.cell (p := ⟨bb, off + k * 2 + 1, none⟩) HB.out).trans C1.out) hbr
      haveI := kept_some wr
      refine wp_region_kept_shut _ _ (show _ = [_, _, _, _, _, _, _, _, _, _, _] ++ [_] from rfl) (by kernel_rfl) (by kernel_rfl) (by kernel_rfl) ?_
      repeat (go_big_quiet_step (fail))
      refine wpQuiet_nil ?_
      rintro _ ⟨wk, rfl⟩
      clear k0 k1
      have K3 := hide (VK.out.next wk.below)
      clear VK
      go_wp2_with fail
      refine (K3.out.poke x y _ HF.out).mono ?_
      rintro e w4 ⟨rfl, k4⟩
      have K4 := hide k4
      clear k4 K3
      go_wp2_with fail
      have hbr : bb < w4.heap.size := Nat.lt_of_lt_of_le HB.out K4.out.below.size
      have k0 := kept_cell ((K4.out.below.cell (p := ⟨bb, off + k * 2, none⟩) HB.out).trans C0.out) hbr
      have k1 := kept_cell ((K4.out.below.cell (p := ⟨bb, off + k * 2 + 1, none⟩) HB.out).trans C1.out) hbr
      haveI := kept_some w4
      refine wp_region_kept_shut _ _ (show _ = [_, _, _, _, _, _, _, _, _, _, _] ++ [_] from rfl) (by kernel_rfl) (by kernel_rfl) (by kernel_rfl) ?_
      repeat (go_big_quiet_step (fail))
      refine wpQuiet_nil ?_
      rintro _ ⟨wj, rfl⟩
      clear k0 k1
      have K5 := hide (K4.out.next wj.below)
      clear K4
      go_wp2_with fail
      refine (K5.out.rpoke x y _ HF.out).mono ?_
      rintro e w6 ⟨rfl, k6⟩
      have K6 := hide k6
      clear k6 K5
      go_wp2_with fail
      go_roundw
      case rel => exact ⟨k + 1, by omega, by go_num, K6.out⟩
      case measure => simp [intOf]; omega
    · obtain rfl : k = len := by omega
      go_wp2_with fail
      go_ret2
      exact ⟨g, c, d, rfl, VK.out⟩
set_option maxHeartbeats 1000000 in
theorem made_long (a : Option Addr) (len cap : Nat) (pa pw : Nat → Int) (w : World) (HR : Hid (IsPokes w a len pa pw)) (hM : 80 < len) : Calls Tryd.prog 6 #[.slice a len cap] w fun e w' => ∃ g c d, e = .returned (.tuple #[.pointer (some ⟨g, 0, none⟩), .pointer (some ⟨c, 0, none⟩)]) ∧ Pair w g c d (madeTo pa pw 80) (madeTo pa pw 80) w' := by
  go_enter Tryd.func6, Tryd.ntmps6
  go_wp2_with fail
  refine (new_any _).mono ?_
  rintro e w1 ⟨rfl, h1, b1⟩
  have H1 := hide (show HasM w1 w.heap.size true (fun _ => 0) 0 0 1 0 0 ∧ Below w.heap.size w w1 from ⟨h1, b1⟩)
  clear h1 b1
  go_wp2_with fail
  refine (rnew_any _).mono ?_
  rintro e w2 ⟨rfl, h2, b2⟩
  have K2 := hide (show Pair w w.heap.size (w1.heap.size + 1) w1.heap.size (madeTo pa pw 0) (madeTo pa pw 0) w2 by
    have hl := H1.out.1.lt
    have hz := H1.out.2.size
    exact ⟨⟨by omega, by omega, by omega, by omega, by omega⟩, H1.out.1.next b2, h2, bnext H1.out.2 b2⟩)
  clear h2 b2 H1
  generalize w1.heap.size + 1 = c at *
  generalize w1.heap.size = d at *
  obtain ⟨g, hg⟩ : ∃ g, w.heap.size = g := ⟨_, rfl⟩
  rw [hg] at K2 ⊢
  clear hg
  go_wp2_with fail
  go_loopw [6] (fun si wr => ∃ (k : Nat), k ≤ 80 ∧ si = .int .i64 (k : Int) ∧ Pair w g c d (madeTo pa pw k) (madeTo pa pw k) wr) (fun si _ => 80 - (intOf si).toNat)
  case atStart => exact ⟨0, Nat.zero_le _, rfl, K2.out⟩
  case round =>
    obtain ⟨k, hk, rfl, hv⟩ := hrel
    have VK := hide hv
    clear hv K2
    by_cases hlt : k < 80
    · obtain ⟨bb, off, rfl, hbb, hc0, hc1⟩ := HR.out k (by omega) (by omega)
      have HB := hide hbb
      have C0 := hide hc0
      have C1 := hide hc1
      obtain ⟨x, hx⟩ : ∃ x, pa k = x := ⟨_, rfl⟩
      obtain ⟨y, hy⟩ : ∃ y, pw k = y := ⟨_, rfl⟩
      have HF := hide (show pokeAt (madeTo pa pw k) x y = madeTo pa pw (k + 1) by rw [← hx, ← hy]; rfl)
      rw [hx] at C0
      rw [hy] at C1
      have l1 : (k : Int) < len := by omega
      have l2 : k < 80 := by omega
      clear hbb hc0 hc1 hx hy
      go_wp2_with fail
      have hbr : bb < wr.heap.size := Nat.lt_of_lt_of_le HB.out VK.out.below.size
      have k0 := kept_cell ((VK.out.below.cell (p := ⟨bb, off + k * 2, none⟩) HB.out).trans C0.out) hbr
      have k1 := kept_cell ((VK.out.below.cell (p := ⟨bb, off + k * 2 + 1, none⟩) HB.out).trans C1.out) hbr
      haveI := kept_some wr
      refine wp_region_kept_shut _ _ (show _ = [_, _, _, _, _, _, _, _, _, _, _] ++ [_] from rfl) (by kernel_rfl) (by kernel_rfl) (by kernel_rfl) ?_
      repeat (go_big_quiet_step (fail))
      refine wpQuiet_nil ?_
      rintro _ ⟨wk, rfl⟩
      clear k0 k1
      have K3 := hide (VK.out.next wk.below)
      clear VK
      go_wp2_with fail
      refine (K3.out.poke x y _ HF.out).mono ?_
      rintro e w4 ⟨rfl, k4⟩
      have K4 := hide k4
      clear k4 K3
      go_wp2_with fail
      have hbr : bb < w4.heap.size := Nat.lt_of_lt_of_le HB.out K4.out.below.size
      have k0 := kept_cell ((K4.out.below.cell (p := ⟨bb, off + k * 2, none⟩) HB.out).trans C0.out) hbr
      have k1 := kept_cell ((K4.out.below.cell (p := ⟨bb, off + k * 2 + 1, none⟩) HB.out).trans C1.out) hbr
      haveI := kept_some w4
      refine wp_region_kept_shut _ _ (show _ = [_, _, _, _, _, _, _, _, _, _, _] ++ [_] from rfl) (by kernel_rfl) (by kernel_rfl) (by kernel_rfl) ?_
      repeat (go_big_quiet_step (fail))
      refine wpQuiet_nil ?_
      rintro _ ⟨wj, rfl⟩
      clear k0 k1
      have K5 := hide (K4.out.next wj.below)
      clear K4
      go_wp2_with fail
      refine (K5.out.rpoke x y _ HF.out).mono ?_
      rintro e w6 ⟨rfl, k6⟩
      have K6 := hide k6
      clear k6 K5
      go_wp2_with fail
      go_roundw
      case rel => exact ⟨k + 1, by omega, by go_num, K6.out⟩
      case measure => simp [intOf]; omega
    · obtain rfl : k = 80 := by omega
      go_wp2_with fail
      go_ret2
      exact ⟨g, c, d, rfl, VK.out⟩
theorem made_is (a : Option Addr) (len cap : Nat) (pa pw : Nat → Int) (w : World) (h : IsPokes w a len pa pw) : Calls Tryd.prog 6 #[.slice a len cap] w fun e w' => ∃ g c d, e = .returned (.tuple #[.pointer (some ⟨g, 0, none⟩), .pointer (some ⟨c, 0, none⟩)]) ∧ Pair w g c d (madeTo pa pw (min len 80)) (madeTo pa pw (min len 80)) w' := by
  by_cases hm : len ≤ 80
  · rw [Nat.min_eq_left hm]
    exact made_short a len cap pa pw w (hide h) hm
  · rw [Nat.min_eq_right (by omega)]
    exact made_long a len cap pa pw w (hide h) (by omega)
/-- The words of the document's example, and those of a cell without bits. -/
def twoA (i : Nat) : Int := if i = 0 then 0 else 16
def twoW (i : Nat) : Int := if i = 0 then 12289 else 32896
theorem pokes_two {w : World} {g : Nat} {t : TypeId} (h : w.heap[g]? = some (.cells #[.int .i64 0, .int .i64 12289, .int .i64 16, .int .i64 32896] t (0, 0))) : IsPokes w (some ⟨g, 0, none⟩) 2 twoA twoW := by
  intro i h1 _
  refine ⟨g, 0, rfl, lt_of_block h, ?_, ?_⟩
  · rcases (show i = 0 ∨ i = 1 by omega) with rfl | rfl <;> exact (cell_of_row w g _ _ _ _ h).trans rfl
  · rcases (show i = 0 ∨ i = 1 by omega) with rfl | rfl <;> exact (cell_of_row w g _ _ _ _ h).trans rfl
theorem pokes_one {w : World} {g : Nat} {t : TypeId} {x y : Int} (h : w.heap[g]? = some (.cells #[.int .i64 x, .int .i64 y] t (0, 0))) : IsPokes w (some ⟨g, 0, none⟩) 1 (fun _ => x) (fun _ => y) := by
  intro i h1 _
  obtain rfl : i = 0 := by omega
  exact ⟨g, 0, rfl, lt_of_block h, (cell_of_row w g _ _ _ _ h).trans rfl, (cell_of_row w g _ _ _ _ h).trans rfl⟩
end Go.Proofs.YtnhjhmfiapjenaaDoor
