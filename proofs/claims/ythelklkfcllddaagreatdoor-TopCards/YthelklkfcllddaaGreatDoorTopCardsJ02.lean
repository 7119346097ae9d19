/- Contracts of package card: what its functions tell, by the table of the numbers of pages. -/
import Derived.Test.YthelklkfcllddaaGreatDoorProg
import Derived.Test.YthelklkfcllddaaGreatDoorTopCardsJ01
import Derived.WalkKit
import Derived.RegionTactic
import Derived.Deep.QuietTactic
import Derived.BigQuiet
import Derived.Below
import Derived.LaidEql
import Derived.Stop.Asserts
import Derived.RowKitTokens
import Derived.OneCell
import Derived.Handy
namespace Go.Proofs.YthelklkfcllddaaGreatDoor.C3
set_option maxRecDepth 20000
open Go.RowKit
set_option linter.unusedVariables false
def tabCells : Array Value := #[.int .i64 1, .int .i64 0, .int .i64 2, .int .i64 0, .int .i64 4, .int .i64 0, .int .i64 8, .int .i64 0, .int .i64 16, .int .i64 0, .int .i64 32, .int .i64 0, .int .i64 64, .int .i64 0, .int .i64 128, .int .i64 0, .int .i64 48, .int .i64 1, .int .i64 96, .int .i64 1, .int .i64 320, .int .i64 2]
def HasTab (w : World) : Prop := ∃ t fr, w.heap[2]? = some (.cells tabCells t fr)
theorem HasTab.below {B : Nat} {w w' : World} (h : HasTab w) (b : Below B w w') (hB : 2 < B) : HasTab w' := by
  obtain ⟨t, fr, e⟩ := h
  exact ⟨t, fr, (b.block 2 hB).trans e⟩
theorem HasTab.pos {w : World} (h : HasTab w) : 2 < w.heap.size := by
  obtain ⟨t, fr, e⟩ := h
  exact lt_of_block e
theorem HasTab.next {w w' : World} (h : HasTab w) (b : Below w.heap.size w w') : HasTab w' := h.below b h.pos
def pageAt (j : Nat) : Int := [(1 : Int), 2, 4, 8, 16, 32, 64, 128, 48, 96, 320].getD j 0
def kindAt (j : Nat) : Int := [(0 : Int), 0, 0, 0, 0, 0, 0, 0, 1, 1, 2].getD j 0
theorem tab_index (j : Nat) (hj : j < 11) (w : World) : (Instr.index 122 (.agg tabCells) (.int .i64 (j : Int))).run Tryz.prog w = .ok (.agg #[.int .i64 (pageAt j), .int .i64 (kindAt j)]) w := by
  rcases j with _ | _ | _ | _ | _ | _ | _ | _ | _ | _ | _ | j
  · kernel_rfl
  · kernel_rfl
  · kernel_rfl
  · kernel_rfl
  · kernel_rfl
  · kernel_rfl
  · kernel_rfl
  · kernel_rfl
  · kernel_rfl
  · kernel_rfl
  · kernel_rfl
  · omega
theorem class_at (n : Int) (w : World) (cs : Array Value) (t : TypeId) (fr : Nat × Nat) (hT : w.heap[2]? = some (.cells cs t fr)) (hs : some 22 = some cs.size)
    (hx : ∀ (j : Nat), j < 11 → ∀ w : World, (Instr.index 122 (.agg cs) (.int .i64 (j : Int))).run Tryz.prog w = .ok (.agg #[.int .i64 (pageAt j), .int .i64 (kindAt j)]) w) :
    Calls Tryz.prog 24 #[.int .i64 n] w fun e w' => ((∃ j, j < 11 ∧ pageAt j = n ∧ e = .returned (.tuple #[.int .i64 (kindAt j), .bool true])) ∨ ((∀ i, i < 11 → pageAt i ≠ n) ∧ e = .returned (.tuple #[.int .i64 0, .bool false]))) ∧ Below w.heap.size w w' := by
  have hi : (Tryz.prog.info? 122).map (·.size) = some cs.size := Eq.trans (by kernel_rfl) hs
  have HX := hide hx
  have HT := hide hT
  have HI := hide hi
  clear hx hs hi hT
  go_enter Tryz.func24, Tryz.ntmps24
  go_wp2_with (first | (refine wpList_load_row rfl 122 (.global 2) rfl 2 rfl t cs fr _ HT.out Tryz.underlying122 rfl HI.out ?_))
  go_loopw [7] (fun si wr => ∃ j : Nat, j ≤ 11 ∧ si = .int .i64 (j : Int) ∧ (∀ i, i < j → pageAt i ≠ n) ∧ Below w.heap.size w wr) (fun si _ => 11 - (intOf si).toNat)
  case atStart => exact ⟨0, by omega, rfl, fun i hi => absurd hi (by omega), Below.refl _ _⟩
  case round =>
    obtain ⟨j, hj, rfl, hne, bel⟩ := hrel
    have HN := hide hne
    have BL := hide bel
    clear hne bel
    by_cases h : j < 11
    · have hx := HX.out j h
      obtain ⟨p, hp⟩ : ∃ p, p = pageAt j := ⟨_, rfl⟩
      obtain ⟨k, hk⟩ : ∃ k, k = kindAt j := ⟨_, rfl⟩
      rw [← hp, ← hk] at hx
      have HP := hide hp
      have HK := hide hk
      clear hp hk
      by_cases hpn : p = n
      · set_option maxRecDepth 20000 in
        go_wp2_with fail
        go_ret2
        refine ⟨.inl ⟨j, h, by rw [← HP.out]; exact hpn, ret_kb HK.out rfl⟩, BL.out.alloc BL.out.size _⟩
      · set_option maxRecDepth 20000 in
        go_wp2_with fail
        go_roundw
        case rel =>
          refine ⟨j + 1, by omega, by go_num, fun i hi => ?_, ?_⟩
          · by_cases hij : i = j
            · subst hij; rw [← HP.out]; exact hpn
            · exact HN.out i (by omega)
          · exact BL.out.alloc BL.out.size _
        case measure => simp [intOf]; omega
    · have hj : j = 11 := by omega
      subst hj
      go_wp2_with fail
      go_ret2
      exact ⟨.inr ⟨HN.out, rfl⟩, BL.out⟩
def kindOf (n : Int) : Int := if n = 48 ∨ n = 96 then 1 else if n = 320 then 2 else 0
def known (n : Int) : Bool := decide (n = 1 ∨ n = 2 ∨ n = 4 ∨ n = 8 ∨ n = 16 ∨ n = 32 ∨ n = 64 ∨ n = 128 ∨ n = 48 ∨ n = 96 ∨ n = 320)
theorem known_at (j : Nat) (hj : j < 11) : known (pageAt j) = true ∧ kindOf (pageAt j) = kindAt j := by
  revert j; decide
theorem known_none {n : Int} (h : ∀ i, i < 11 → pageAt i ≠ n) : known n = false ∧ kindOf n = 0 := by
  have h0 : (1 : Int) ≠ n := h 0 (by decide)
  have h1 : (2 : Int) ≠ n := h 1 (by decide)
  have h2 : (4 : Int) ≠ n := h 2 (by decide)
  have h3 : (8 : Int) ≠ n := h 3 (by decide)
  have h4 : (16 : Int) ≠ n := h 4 (by decide)
  have h5 : (32 : Int) ≠ n := h 5 (by decide)
  have h6 : (64 : Int) ≠ n := h 6 (by decide)
  have h7 : (128 : Int) ≠ n := h 7 (by decide)
  have h8 : (48 : Int) ≠ n := h 8 (by decide)
  have h9 : (96 : Int) ≠ n := h 9 (by decide)
  have hA : (320 : Int) ≠ n := h 10 (by decide)
  constructor
  · unfold known; rw [decide_eq_false_iff_not]; omega
  · unfold kindOf; rw [if_neg (by omega), if_neg (by omega)]
theorem class_any (n : Int) (w : World) (hT : HasTab w) :
    Calls Tryz.prog 24 #[.int .i64 n] w fun e w' => e = .returned (.tuple #[.int .i64 (kindOf n), .bool (known n)]) ∧ Below w.heap.size w w' := by
  obtain ⟨t, fr, hT⟩ := hT
  refine (class_at n w tabCells t fr hT rfl (fun j hj w => tab_index j hj w)).mono ?_
  rintro e w' ⟨⟨j, hj, rfl, rfl⟩ | ⟨h, rfl⟩, b⟩
  · rw [(known_at j hj).1, (known_at j hj).2]; exact ⟨rfl, b⟩
  · rw [(known_none h).1, (known_none h).2]; exact ⟨rfl, b⟩
theorem pages_nil (w : World) : Calls Tryz.prog 6 #[.pointer none] w fun e w' => e = .returned (.int .i64 0) ∧ w' = w := by
  go_enter Tryz.func6, Tryz.ntmps6
  go_wp2
  go_ret
  exact ⟨rfl, rfl⟩
theorem pages_of (a : Addr) (s : Option Addr) (len cap : Nat) (w : World) (hl : len < 4611686018427387904) (h : w.cell? a = some (.slice s len cap)) :
    Calls Tryz.prog 6 #[.pointer (some a)] w fun e w' => e = .returned (.int .i64 ((len / 8192 : Nat) : Int)) ∧ w' = w := by
  go_enter Tryz.func6, Tryz.ntmps6
  go_wp2
  go_ret
  exact ⟨rfl, rfl⟩
theorem byte_out (a : Addr) (s : Option Addr) (len cap : Nat) (p q : Int) (w : World) (hl : len < 4611686018427387904) (h : w.cell? a = some (.slice s len cap)) (ho : p < 0 ∨ ((len / 8192 : Nat) : Int) ≤ p ∨ q < 0 ∨ 8192 ≤ q) :
    Calls Tryz.prog 53 #[.pointer (some a), .int .i64 p, .int .i64 q] w fun e w' => e = .returned (.int .i64 255) ∧ w' = w := by
  have HP := hide (pages_of a s len cap w hl h)
  generalize ((len / 8192 : Nat) : Int) = m at *
  clear h
  go_enter Tryz.func53, Tryz.ntmps53
  by_cases h1 : p < 0
  · set_option maxRecDepth 20000 in
    go_wp2_with (first | (go_at_call 6; refine HP.out.mono ?_; rintro e w' ⟨rfl, rfl⟩))
    go_ret
    exact ⟨rfl, rfl⟩
  · by_cases h2 : m ≤ p
    · set_option maxRecDepth 20000 in
      go_wp2_with (first | (go_at_call 6; refine HP.out.mono ?_; rintro e w' ⟨rfl, rfl⟩))
      go_ret
      exact ⟨rfl, rfl⟩
    · by_cases h3 : q < 0
      · set_option maxRecDepth 20000 in
        go_wp2_with (first | (go_at_call 6; refine HP.out.mono ?_; rintro e w' ⟨rfl, rfl⟩))
        go_ret
        exact ⟨rfl, rfl⟩
      · have h4 : 8192 ≤ q := by omega
        go_wp2_with (first | (go_at_call 6; refine HP.out.mono ?_; rintro e w' ⟨rfl, rfl⟩))
        go_ret
        exact ⟨rfl, rfl⟩
theorem byte_in (a : Addr) (b off len cap p q : Nat) (z : Int) (w : World) (hl : len < 4611686018427387904) (h : w.cell? a = some (.slice (some ⟨b, off, none⟩) len cap)) (hp : p < len / 8192) (hq : q < 8192)
    (hz : w.cell? ⟨b, off + (p * 8192 + q), none⟩ = some (.int .u8 z)) (z0 : 0 ≤ z) (z1 : z < 256) :
    Calls Tryz.prog 53 #[.pointer (some a), .int .i64 p, .int .i64 q] w fun e w' => e = .returned (.int .i64 z) ∧ w' = w := by
  have HP := hide (pages_of a (some ⟨b, off, none⟩) len cap w hl h)
  have hm : (p : Int) < ((len / 8192 : Nat) : Int) := by omega
  have h1 : (p : Int) * 8192 + q < len := by omega
  have h2 : ((p : Int) * 8192 + q).toNat = p * 8192 + q := by omega
  generalize ((len / 8192 : Nat) : Int) = m at *
  clear hp
  go_enter Tryz.func53, Tryz.ntmps53
  go_wp2_with (first | (go_at_call 6; refine HP.out.mono ?_; rintro e w' ⟨rfl, rfl⟩))
  go_ret
  exact ⟨rfl, rfl⟩
end Go.Proofs.YthelklkfcllddaaGreatDoor.C3
