/- Of consoles and cards that no call made there is no state: the walk. -/
import Derived.Test.YtbkecffdejafcaaDoorNobody27
import Derived.Test.YtbkecffdejafcaaDoorRowkit
namespace Go.Proofs.YtbkecffdejafcaaDoor
open Go.RowKit
set_option linter.unusedVariables false
set_option linter.unusedSimpArgs false
theorem keep_cell {w w' : World} {g : Nat} {cs : Array Value} {t : TypeId} (k : Below w.heap.size w w') (h : w.heap[g]? = some (.cells cs t (0, 0))) (i : Nat) : w'.cell? ⟨g, i, none⟩ = cs[i]? := cell_of_row w' g i _ _ _ ((k.block g (lt_of_block h)).trans h)
set_option maxHeartbeats 2000000 in
theorem stateNobody_walk (a0 : Option Addr) (len0 cap0 : Nat) (z0 : List Int) (W : World) (w0 : IsRow .u8 W a0 len0 cap0 z0) (hL : True) :
    Calls Tryd.prog 3 #[.slice a0 len0 cap0] W fun e w' => e = .returned (.bool true) ∧ Below W.heap.size W w' := by
  clear hL w0
  set_option maxRecDepth 20000 in
  go_enter Tryd.func3, Tryd.ntmps3
  set_option maxRecDepth 20000 in
  go_wp2_with (first
    | (refine wpList_built rfl 63 _ rfl #[] (by simp) _ built_0 ?_
       obtain ⟨R, hR⟩ : ∃ R, rowF (segs L0) 9263 = R := ⟨_, rfl⟩
       rw [hR]
       replace hR := hide hR))
  refine under_name fun w3 hw3 => ?_
  have q0 : w3.heap[W.heap.size]? = some (.cells #[.int .i64 0, .int .i64 0, .int .i64 0, .int .i64 0, .int .i64 0, .int .i64 0, .bool false, .int .i64 0, .pointer none, .int .i64 0, .int .i64 0, .int .i64 0, .int .i64 0, .int .i64 0, .int .i64 0, .int .i64 0, .int .i64 0] 32 (0, 0)) := by
    rw [hw3, heap_alloc_old _ _ (by first | (simp; done) | (simp; omega)), heap_alloc_old _ _ (by first | (simp; done) | (simp; omega)), heap_alloc_old _ _ (by simp)]
    exact heap_alloc_new _ _
  have Z3 := hide (show HasF 63 w3 (W.heap.size + 1) 9263 (segs L0) by
    rw [hw3]
    unfold HasF
    rw [hR.out, heap_alloc_old _ _ (by first | (simp; done) | (simp; omega)), heap_alloc_old _ _ (by first | (simp; done) | (simp; omega))]
    have k := heap_alloc_new (W.alloc (.cells #[.int .i64 0, .int .i64 0, .int .i64 0, .int .i64 0, .int .i64 0, .int .i64 0, .bool false, .int .i64 0, .pointer none, .int .i64 0, .int .i64 0, .int .i64 0, .int .i64 0, .int .i64 0, .int .i64 0, .int .i64 0, .int .i64 0] 32)) (.cells R 63)
    rwa [show (W.alloc (.cells #[.int .i64 0, .int .i64 0, .int .i64 0, .int .i64 0, .int .i64 0, .int .i64 0, .bool false, .int .i64 0, .pointer none, .int .i64 0, .int .i64 0, .int .i64 0, .int .i64 0, .int .i64 0, .int .i64 0, .int .i64 0, .int .i64 0] 32)).heap.size = W.heap.size + 1 by simp] at k)
  have q2 : w3.heap[W.heap.size + 1 + 1]? = some (.cells #[.int .i64 0, .int .i64 0, .int .i64 0, .int .i64 0, .int .i64 0, .int .i64 0, .bool false, .int .i64 0, .pointer (some ⟨W.heap.size + 1, 0, none⟩), .int .i64 0, .int .i64 0, .int .i64 0, .int .i64 0, .int .i64 0, .int .i64 0, .int .i64 0, .int .i64 0] 32 (0, 0)) := by
    rw [hw3, heap_alloc_old _ _ (by simp)]
    have k := heap_alloc_new ((W.alloc (.cells #[.int .i64 0, .int .i64 0, .int .i64 0, .int .i64 0, .int .i64 0, .int .i64 0, .bool false, .int .i64 0, .pointer none, .int .i64 0, .int .i64 0, .int .i64 0, .int .i64 0, .int .i64 0, .int .i64 0, .int .i64 0, .int .i64 0] 32)).alloc (.cells R 63)) (.cells #[.int .i64 0, .int .i64 0, .int .i64 0, .int .i64 0, .int .i64 0, .int .i64 0, .bool false, .int .i64 0, .pointer (some ⟨W.heap.size + 1, 0, none⟩), .int .i64 0, .int .i64 0, .int .i64 0, .int .i64 0, .int .i64 0, .int .i64 0, .int .i64 0, .int .i64 0] 32)
    rwa [show ((W.alloc (.cells #[.int .i64 0, .int .i64 0, .int .i64 0, .int .i64 0, .int .i64 0, .int .i64 0, .bool false, .int .i64 0, .pointer none, .int .i64 0, .int .i64 0, .int .i64 0, .int .i64 0, .int .i64 0, .int .i64 0, .int .i64 0, .int .i64 0] 32)).alloc (.cells R 63)).heap.size = W.heap.size + 1 + 1 by simp] at k
  have q3 : w3.heap[W.heap.size + 1 + 1 + 1]? = some (.cells #[.pointer none, .pointer (some ⟨W.heap.size, 0, none⟩), .pointer (some ⟨W.heap.size + 1 + 1, 0, none⟩)] 23 (0, 0)) := by
    rw [hw3]
    have k := heap_alloc_new (((W.alloc (.cells #[.int .i64 0, .int .i64 0, .int .i64 0, .int .i64 0, .int .i64 0, .int .i64 0, .bool false, .int .i64 0, .pointer none, .int .i64 0, .int .i64 0, .int .i64 0, .int .i64 0, .int .i64 0, .int .i64 0, .int .i64 0, .int .i64 0] 32)).alloc (.cells R 63)).alloc (.cells #[.int .i64 0, .int .i64 0, .int .i64 0, .int .i64 0, .int .i64 0, .int .i64 0, .bool false, .int .i64 0, .pointer (some ⟨W.heap.size + 1, 0, none⟩), .int .i64 0, .int .i64 0, .int .i64 0, .int .i64 0, .int .i64 0, .int .i64 0, .int .i64 0, .int .i64 0] 32)) (.cells #[.pointer none, .pointer (some ⟨W.heap.size, 0, none⟩), .pointer (some ⟨W.heap.size + 1 + 1, 0, none⟩)] 23)
    rwa [show (((W.alloc (.cells #[.int .i64 0, .int .i64 0, .int .i64 0, .int .i64 0, .int .i64 0, .int .i64 0, .bool false, .int .i64 0, .pointer none, .int .i64 0, .int .i64 0, .int .i64 0, .int .i64 0, .int .i64 0, .int .i64 0, .int .i64 0, .int .i64 0] 32)).alloc (.cells R 63)).alloc (.cells #[.int .i64 0, .int .i64 0, .int .i64 0, .int .i64 0, .int .i64 0, .int .i64 0, .bool false, .int .i64 0, .pointer (some ⟨W.heap.size + 1, 0, none⟩), .int .i64 0, .int .i64 0, .int .i64 0, .int .i64 0, .int .i64 0, .int .i64 0, .int .i64 0, .int .i64 0] 32)).heap.size = W.heap.size + 1 + 1 + 1 by simp] at k
  have B3 := hide (show Below W.heap.size W w3 by
    rw [hw3]
    exact ((((Below.refl _ W).alloc (Nat.le_refl _) _).alloc (by simp) _).alloc (by simp; omega) _).alloc (by simp; omega) _)
  clear hw3
  have K0 := hide (encode_none (isNone_nil w3))
  have K1 := hide (encode_none (isNone_no (w := w3) (c := W.heap.size) ((cell_of_row w3 _ 8 _ _ _ q0).trans rfl)))
  have K2 := hide (encode_none (isNone_plain (w := w3) (c := W.heap.size + 1 + 1) (b := W.heap.size + 1) ((cell_of_row w3 _ 8 _ _ _ q2).trans rfl) Z3.out))
  have s0 : w3.cell? ⟨W.heap.size + 1 + 1 + 1, 0, none⟩ = some (.pointer none) := (cell_of_row w3 _ 0 _ _ _ q3).trans rfl
  have s1 : w3.cell? ⟨W.heap.size + 1 + 1 + 1, 1, none⟩ = some (.pointer (some ⟨W.heap.size, 0, none⟩)) := (cell_of_row w3 _ 1 _ _ _ q3).trans rfl
  have s2 : w3.cell? ⟨W.heap.size + 1 + 1 + 1, 2, none⟩ = some (.pointer (some ⟨W.heap.size + 1 + 1, 0, none⟩)) := (cell_of_row w3 _ 2 _ _ _ q3).trans rfl
  clear q0 q2 q3 Z3 hR
  obtain ⟨g3, e3⟩ : ∃ g, W.heap.size + 1 + 1 + 1 = g := ⟨_, rfl⟩
  obtain ⟨g2, e2⟩ : ∃ g, W.heap.size + 1 + 1 = g := ⟨_, rfl⟩
  obtain ⟨g1, e1⟩ : ∃ g, W.heap.size + 1 = g := ⟨_, rfl⟩
  obtain ⟨g0, e0⟩ : ∃ g, W.heap.size = g := ⟨_, rfl⟩
  simp only [e3, e2, e1] at K0 K1 K2 s0 s1 s2 ⊢
  rw [e0] at s1 K1 ⊢
  have E0 := hide e0
  clear e0 e1 e2 e3
  go_loopw [19] (fun s19 wr => ∃ k : Int, (k = 0 ∨ k = 1 ∨ k = 2 ∨ k = 3) ∧ s19 = .int .i64 k ∧ wr = w3) (fun s19 _ => (3 - intOf s19).toNat)
  case atStart => exact ⟨0, .inl rfl, rfl, rfl⟩
  case round =>
    obtain ⟨k, hk, rfl, rfl⟩ := hrel
    rcases hk with rfl | rfl | rfl | rfl
    · set_option maxRecDepth 20000 in
      go_wp2_with (first | (go_at_call 4; refine K0.out.mono ?_; rintro e w' ⟨rfl, hw⟩; subst w'))
      go_roundw
      case rel => exact ⟨1, .inr (.inl rfl), by go_num, by first | rfl | trivial⟩
      case measure => simp [intOf]
    · set_option maxRecDepth 20000 in
      go_wp2_with (first | (go_at_call 4; refine K1.out.mono ?_; rintro e w' ⟨rfl, hw⟩; subst w'))
      go_roundw
      case rel => exact ⟨2, .inr (.inr (.inl rfl)), by go_num, by first | rfl | trivial⟩
      case measure => simp [intOf]
    · set_option maxRecDepth 20000 in
      go_wp2_with (first | (go_at_call 4; refine K2.out.mono ?_; rintro e w' ⟨rfl, hw⟩; subst w'))
      go_roundw
      case rel => exact ⟨3, .inr (.inr (.inr rfl)), by go_num, by first | rfl | trivial⟩
      case measure => simp [intOf]
    · clear K0 K1 K2 s0 s1 s2
      set_option maxRecDepth 20000 in
      go_wp2
      refine under_name fun w4 hw4 => ?_
      have p0 : w4.heap[wr.heap.size]? = some (.cells #[.slice none 0 0] 69 (0, 0)) := by
        rw [hw4, heap_alloc_old _ _ (by simp)]
        exact heap_alloc_new _ _
      have p1 : w4.heap[wr.heap.size + 1]? = some (.cells #[.pointer none, .pointer (some ⟨wr.heap.size, 0, none⟩)] 40 (0, 0)) := by
        rw [hw4]
        have k := heap_alloc_new (wr.alloc (.cells #[.slice none 0 0] 69)) (.cells #[.pointer none, .pointer (some ⟨wr.heap.size, 0, none⟩)] 40)
        rwa [show (wr.alloc (.cells #[.slice none 0 0] 69)).heap.size = wr.heap.size + 1 by simp] at k
      have B4 := hide (show Below wr.heap.size wr w4 by
        rw [hw4]
        exact ((Below.refl _ wr).alloc (Nat.le_refl _) _).alloc (by simp) _)
      clear hw4
      have HS := hide (fun (w' : World) (k : Below w4.heap.size w4 w') (i : Nat) => keep_cell k p1 i)
      have HC := hide (fun (w' : World) (k : Below w4.heap.size w4 w') (i : Nat) => keep_cell k p0 i)
      clear p0 p1
      obtain ⟨g5, e5⟩ : ∃ g, wr.heap.size + 1 = g := ⟨_, rfl⟩
      obtain ⟨g4, e4⟩ : ∃ g, wr.heap.size = g := ⟨_, rfl⟩
      simp only [e5] at HS ⊢
      rw [e4] at HC HS ⊢
      have E4 := hide e4
      clear e4 e5
      go_loopw [40] (fun s40 wq => ∃ k : Int, (k = 0 ∨ k = 1 ∨ k = 2) ∧ s40 = .int .i64 k ∧ Below w4.heap.size w4 wq) (fun s40 _ => (2 - intOf s40).toNat)
      case atStart => exact ⟨0, .inl rfl, rfl, Below.refl _ _⟩
      case round =>
        obtain ⟨k, hk, rfl, bel⟩ := hrel
        rcases hk with rfl | rfl | rfl
        · have s0 := (HS.out _ bel 0).trans (show _ = some (.pointer none) from rfl)
          have KD := hide (fun w => decode_none (l := .slice a0 len0 cap0) (pages_nil w))
          have BL := hide bel
          clear bel
          set_option maxRecDepth 20000 in
          go_wp2_with (first | (go_at_call 5; refine (KD.out _).mono ?_; rintro e w6 ⟨rfl, hw⟩; have B6 := hide (show Below w4.heap.size w4 w6 by rw [hw]; exact BL.out.alloc BL.out.size _); clear hw))
          go_roundw
          case rel => exact ⟨1, .inr (.inl rfl), by go_num, B6.out⟩
          case measure => simp [intOf]
        · have s0 := (HS.out _ bel 1).trans (show _ = some (.pointer (some ⟨g4, 0, none⟩)) from rfl)
          have KD := hide (decode_none (l := .slice a0 len0 cap0) (pages_plain ((HC.out _ bel 0).trans rfl)))
          have BL := hide bel
          clear bel
          set_option maxRecDepth 20000 in
          go_wp2_with (first | (go_at_call 5; refine KD.out.mono ?_; rintro e w6 ⟨rfl, hw⟩; have B6 := hide (show Below w4.heap.size w4 w6 by rw [hw]; exact BL.out.alloc BL.out.size _); clear hw))
          go_roundw
          case rel => exact ⟨2, .inr (.inr rfl), by go_num, B6.out⟩
          case measure => simp [intOf]
        · set_option maxRecDepth 20000 in
          go_wp2
          go_ret
          exact ⟨rfl, by rw [← E0.out] at *; exact B3.out.trans ((bnext B4.out bel).mono B3.out.size)⟩
end Go.Proofs.YtbkecffdejafcaaDoor
