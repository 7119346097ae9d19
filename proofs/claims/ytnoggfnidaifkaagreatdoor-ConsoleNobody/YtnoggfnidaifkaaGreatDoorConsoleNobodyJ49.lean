/- The document's console of a card of one page: New. -/
import Derived.Test.YtnoggfnidaifkaaGreatDoorConsoleNobodyJ41
import Derived.Test.YtnoggfnidaifkaaGreatDoorConsoleNobodyJ47
import Derived.Test.YtnoggfnidaifkaaGreatDoorConsoleNobodyJ48
import Derived.Test.YtnoggfnidaifkaaGreatDoorConsoleNobodyJ21
import Derived.Test.YtnoggfnidaifkaaGreatDoorConsoleNobodyJ23
import Derived.Test.YtnoggfnidaifkaaGreatDoorConsoleNobodyJ36
import Derived.Test.YtnoggfnidaifkaaGreatDoorConsoleNobodyJ22
import Derived.Test.YtnoggfnidaifkaaGreatDoorConsoleNobodyJ01
namespace Go.Proofs.YtnoggfnidaifkaaGreatDoor.L25
set_option maxRecDepth 20000
open B4 C3 D24 G6 I11 J23 L24 M5 P22 R15 T10 V12 W13
open Go.RowKit
set_option linter.unusedVariables false
set_option linter.unusedSimpArgs false
def flS : Nat → Int := up (fun _ => 0) 1 248
def LY (q r c : Nat) : List (Nat × (Nat → Value)) := LN 1 (.slice (some ⟨q, 0, none⟩) 8192 8192) r c flS (rnTo 6)
def HasN (w : World) (b c d r q : Nat) (bs : List Int) : Prop := HasY w b c d r (LY q r c) (fun _ => 0) 0 0 1 0 0 (fun _ => 0) ∧ Bytes 5 w q bs ∧ bs.length = 8192 ∧ b ≠ q
theorem HasN.next {w w' : World} {b c d r q : Nat} {bs : List Int} (h : HasN w b c d r q bs) (k : Below w.heap.size w w') : HasN w' b c d r q bs := ⟨h.1.next k, h.2.1.next k, h.2.2⟩
theorem ydot_0 (f : Nat → Int) (w : World) : Calls Tryz.prog 75 #[.agg (V12.rowV 0 0 f)] w fun e w' => e = Ending.returned (.int .i64 4) ∧ Below w.heap.size w w' := by
  have c0 := (V12.hasV_new 132 w 0 0 f).c0
  go_enter Tryz.func75, Tryz.ntmps75
  go_wp2_with (first | (go_at_call 119; refine (mod_any _ _ _ (by decide) (by decide)).mono ?_; rintro e w' ⟨rfl, rfl⟩))
  go_ret
  exact ⟨rfl, (Below.refl _ w).alloc (Nat.le_refl _) _⟩
theorem core_next {w w' : World} {k b : Nat} {p z : Int} (hk : w.heap[k]? = some (.cells #[.int .i64 0, .int .i64 0, .int .i64 0, .int .i64 0, .int .i64 p, .int .i64 z, .bool false, .int .i64 0, .pointer (some ⟨b, 0, none⟩), .int .i64 0] 180 (0, 0))) (q : Below w.heap.size w w') : w'.heap[k]? = some (.cells #[.int .i64 0, .int .i64 0, .int .i64 0, .int .i64 0, .int .i64 p, .int .i64 z, .bool false, .int .i64 0, .pointer (some ⟨b, 0, none⟩), .int .i64 0] 180 (0, 0)) := (q.block k (lt_of_block hk)).trans hk
theorem yslow_rom (x : Int) (k : Value) (w : World) (hx : kindW x = 0) : Calls Tryz.prog 157 #[k, .int .i64 x] w fun e w' => e = Ending.returned (.int .i64 x) ∧ Below w.heap.size w w' := by
  have K := hide (rwhere_any x)
  rw [hx] at K
  go_enter Tryz.func157, Tryz.ntmps157
  go_wp2_with (first | (go_at_call 213; refine (K.out _).mono ?_; rintro e w' ⟨rfl, hw⟩; subst w'))
  go_ret
  exact ⟨rfl, Below.refl _ _⟩
set_option maxHeartbeats 2000000 in
theorem ycread {w : World} {k b c d r q : Nat} {bs : List Int} {p z : Int} (hk : w.heap[k]? = some (.cells #[.int .i64 0, .int .i64 0, .int .i64 0, .int .i64 0, .int .i64 p, .int .i64 z, .bool false, .int .i64 0, .pointer (some ⟨b, 0, none⟩), .int .i64 0] 180 (0, 0))) (h : HasN w b c d r q bs) (x : Int) (j : Nat) (hp : physOf flS x = (j : Int)) (h0 : kindW (j : Int) = 0) (h1 : pageW (j : Int) = 0) (h2 : atW (j : Int) = (j : Int)) (hj : j < 8192) :
    Calls Tryz.prog 115 #[.pointer (some ⟨k, 0, none⟩), .int .i64 x] w fun e w' => e = Ending.returned (.int .i64 (bs.getD j 0)) ∧ Below w.heap.size w w' := by
  have HK := hide hk
  have H := hide h
  have HP := hide (fun (w : World) => rphys_any flS x w)
  rw [hp] at HP
  change Hid (∀ w : World, Calls Tryz.prog 158 #[.agg (rowF (iv flS) 8), .int .i64 x] w fun e w' => e = Ending.returned (.int .i64 (j : Int)) ∧ Below w.heap.size w w') at HP
  have HS := hide (fun (w : World) => yslow_rom (j : Int) (.pointer (some ⟨k, 0, none⟩)) w h0)
  have HR : Hid (∀ u, Below w.heap.size w u → Calls Tryz.prog 156 #[.pointer (some ⟨b, 0, none⟩), .int .i64 (j : Int)] u fun e w' => e = Ending.returned (.int .i64 (bs.getD j 0)) ∧ Below u.heap.size u w') := hide (fun u hb => by
    have hu := h.next hb
    have n1 := hu.2.2.1
    exact yread_rom hu.1 (j : Int) 0 (j : Int) (fun w => by have q := rwhere_any (j : Int) w; rw [h0, h1, h2] at q; exact q) rfl rfl rfl hu.2.1 n1 (x := 0) (fun w => rpage_any 1 0 0 w) (by decide) (by decide) (by omega) (by omega) j (by omega) hj)
  have F8 := hide (show ∀ i, i < 8 → segs (LY q r c) (4 + i) = iv flS i from fun i hi => by
    have g := segs_get (LY q r c) 4 8 (iv flS) i rfl hi
    rw [show soff (LY q r c) 4 = 4 from rfl] at g
    exact g)
  clear hk h hp h0 h1 h2
  go_enter Tryz.func115, Tryz.ntmps115
  go_wp2_with fail
  refine wp_region_facts (factR [eqF (.pointer (some ⟨k, 0, none⟩)), eqF (.pointer (some ⟨k, 0, none⟩)), eqF (.pointer (some ⟨k, 8, none⟩)), eqF (.pointer (some ⟨b, 0, none⟩)), eqF (.pointer (some ⟨k, 0, none⟩)), eqF (.pointer (some ⟨k, 0, none⟩)), eqF (.pointer (some ⟨k, 0, none⟩)), eqF (.pointer (some ⟨k, 8, none⟩)), eqF (.pointer (some ⟨b, 0, none⟩)), eqF (.pointer (some ⟨b, 0, none⟩)), eqF (.pointer (some ⟨b, 4, none⟩)), eqF (.agg (rowF (iv flS) 8)), eqF (.int .i64 x), eqF (.int .i64 (j : Int)), eqF (.int .i64 (j : Int)), eqF (.int .i64 (bs.getD j 0)), eqF (.int .i64 (bs.getD j 0))]) _ (fun vals => by simp only [List.append_eq, List.cons_append, List.nil_append, putAll, Act.put, List.setIfInBounds_toArray, List.set_cons_succ, List.set_cons_zero, Nat.reduceAdd]; rfl) (by kernel_rfl) (by kernel_rfl) (by kernel_rfl) (factR_next (by simp only [List.mem_cons, List.not_mem_nil, or_false, forall_eq_or_imp, forall_eq]; refine ⟨eqF_next, eqF_next, eqF_next, eqF_next, eqF_next, eqF_next, eqF_next, eqF_next, eqF_next, eqF_next, eqF_next, eqF_next, eqF_next, eqF_next, eqF_next, eqF_next, eqF_next⟩)) ?_ ?_
  · refine steps_cons (fun vals u hb hf => ?_) (steps_cons (fun vals u hb hf => ?_) (steps_cons (fun vals u hb hf => ?_) (steps_cons (fun vals u hb hf => ?_) (steps_cons (fun vals u hb hf => ?_) (steps_cons (fun vals u hb hf => ?_) (steps_cons (fun vals u hb hf => ?_) (steps_cons (fun vals u hb hf => ?_) (steps_cons (fun vals u hb hf => ?_) (steps_cons (fun vals u hb hf => ?_) (steps_cons (fun vals u hb hf => ?_) (steps_cons (fun vals u hb hf => ?_) (steps_cons (fun vals u hb hf => ?_) (steps_cons (fun vals u hb hf => ?_) (steps_cons (fun vals u hb hf => ?_) (steps_cons (fun vals u hb hf => ?_) (steps_cons (fun vals u hb hf => ?_) steps_nil))))))))))))))))
    · set_option maxRecDepth 20000 in
      go_wp2_with fail
      exact stepPost_mk _ rfl rfl (Below.refl _ _)
    · obtain ⟨(h0 : vals 0 = .pointer (some ⟨k, 0, none⟩)), _⟩ := hf
      simp only [h0]
      clear h0
      go_wp2_with fail
      exact stepPost_mk _ rfl rfl (Below.refl _ _)
    · obtain ⟨(h1 : vals 1 = .pointer (some ⟨k, 0, none⟩)), _⟩ := hf
      simp only [h1]
      clear h1
      go_wp2_with fail
      exact stepPost_mk _ rfl rfl (Below.refl _ _)
    · obtain ⟨(h2 : vals 2 = .pointer (some ⟨k, 8, none⟩)), _⟩ := hf
      simp only [h2]
      clear h2
      have q := (cell_of_row u k 8 _ _ _ (core_next HK.out hb)).trans (show _ = some (.pointer (some ⟨b, 0, none⟩)) from rfl)
      go_wp2_with fail
      exact stepPost_mk _ rfl rfl (Below.refl _ _)
    · set_option maxRecDepth 20000 in
      go_wp2_with fail
      exact stepPost_mk _ rfl rfl (Below.refl _ _)
    · set_option maxRecDepth 20000 in
      go_wp2_with fail
      exact stepPost_mk _ rfl rfl (Below.refl _ _)
    · obtain ⟨(h5 : vals 5 = .pointer (some ⟨k, 0, none⟩)), _⟩ := hf
      simp only [h5]
      clear h5
      go_wp2_with fail
      exact stepPost_mk _ rfl rfl (Below.refl _ _)
    · obtain ⟨(h6 : vals 6 = .pointer (some ⟨k, 0, none⟩)), _⟩ := hf
      simp only [h6]
      clear h6
      go_wp2_with fail
      exact stepPost_mk _ rfl rfl (Below.refl _ _)
    · obtain ⟨(h7 : vals 7 = .pointer (some ⟨k, 8, none⟩)), _⟩ := hf
      simp only [h7]
      clear h7
      have q := (cell_of_row u k 8 _ _ _ (core_next HK.out hb)).trans (show _ = some (.pointer (some ⟨b, 0, none⟩)) from rfl)
      go_wp2_with fail
      exact stepPost_mk _ rfl rfl (Below.refl _ _)
    · obtain ⟨(h8 : vals 8 = .pointer (some ⟨b, 0, none⟩)), _⟩ := hf
      simp only [h8]
      clear h8
      go_wp2_with fail
      exact stepPost_mk _ rfl rfl (Below.refl _ _)
    · obtain ⟨(h9 : vals 9 = .pointer (some ⟨b, 0, none⟩)), _⟩ := hf
      simp only [h9]
      clear h9
      go_wp2_with fail
      exact stepPost_mk _ rfl rfl (Below.refl _ _)
    · obtain ⟨(h10 : vals 10 = .pointer (some ⟨b, 4, none⟩)), _⟩ := hf
      simp only [h10]
      clear h10
      go_wp2_with (first | (refine wpList_load_part rfl 49 (.tmp 15) rfl b 4 rfl (H.out.next hb).1.1 8 (by decide) (iv flS) F8.out _ Tryz.underlying49 rfl (by kernel_rfl) ?_))
      exact stepPost_mk _ rfl rfl (Below.refl _ _)
    · set_option maxRecDepth 20000 in
      go_wp2_with fail
      exact stepPost_mk _ rfl rfl (Below.refl _ _)
    · obtain ⟨(h11 : vals 11 = .agg (rowF (iv flS) 8)), (h12 : vals 12 = .int .i64 x), _⟩ := hf
      simp only [h11, h12]
      clear h11 h12
      go_wp2_with fail
      refine (HP.out u).mono ?_
      rintro e u2 ⟨rfl, b2⟩
      go_wp2_with fail
      exact stepPost_mk _ rfl rfl b2
    · obtain ⟨(h4 : vals 4 = .pointer (some ⟨k, 0, none⟩)), (h13 : vals 13 = .int .i64 (j : Int)), _, _⟩ := hf
      simp only [h4, h13]
      clear h4 h13
      go_wp2_with fail
      refine (HS.out u).mono ?_
      rintro e u2 ⟨rfl, b2⟩
      go_wp2_with fail
      exact stepPost_mk _ rfl rfl b2
    · obtain ⟨(h3 : vals 3 = .pointer (some ⟨b, 0, none⟩)), (h14 : vals 14 = .int .i64 (j : Int)), _, _⟩ := hf
      simp only [h3, h14]
      clear h3 h14
      go_wp2_with fail
      refine (HR.out u hb).mono ?_
      rintro e u2 ⟨rfl, b2⟩
      go_wp2_with fail
      exact stepPost_mk _ rfl rfl b2
    · obtain ⟨(h15 : vals 15 = .int .i64 (bs.getD j 0)), _, (h0 : vals 0 = .pointer (some ⟨k, 0, none⟩)), (h1 : vals 1 = .pointer (some ⟨k, 0, none⟩)), (h2 : vals 2 = .pointer (some ⟨k, 8, none⟩)), (h3 : vals 3 = .pointer (some ⟨b, 0, none⟩)), (h4 : vals 4 = .pointer (some ⟨k, 0, none⟩)), (h5 : vals 5 = .pointer (some ⟨k, 0, none⟩)), (h6 : vals 6 = .pointer (some ⟨k, 0, none⟩)), (h7 : vals 7 = .pointer (some ⟨k, 8, none⟩)), (h8 : vals 8 = .pointer (some ⟨b, 0, none⟩)), (h9 : vals 9 = .pointer (some ⟨b, 0, none⟩)), (h10 : vals 10 = .pointer (some ⟨b, 4, none⟩)), (h11 : vals 11 = .agg (rowF (iv flS) 8)), (h12 : vals 12 = .int .i64 x), (h13 : vals 13 = .int .i64 (j : Int)), (h14 : vals 14 = .int .i64 (j : Int)), _, _⟩ := hf
      simp only [h15, h0, h1, h2, h3, h4, h5, h6, h7, h8, h9, h10, h11, h12, h13, h14]
      clear h15 h0 h1 h2 h3 h4 h5 h6 h7 h8 h9 h10 h11 h12 h13 h14
      go_wp2_with fail
      exact stepPost_mk _ rfl rfl (Below.refl _ _)
  rintro vals wq hb hall
  obtain ⟨_, _, _, _, _, _, _, _, _, _, _, _, _, _, _, _, (h16 : vals 16 = .int .i64 (bs.getD j 0)), _⟩ := hall
  simp only [h16]
  clear h16
  go_wp2_with fail
  go_ret
  exact ⟨rfl, hb⟩
theorem yword {w : World} {k b c d r q : Nat} {bs : List Int} {p z : Int} (hk : w.heap[k]? = some (.cells #[.int .i64 0, .int .i64 0, .int .i64 0, .int .i64 0, .int .i64 p, .int .i64 z, .bool false, .int .i64 0, .pointer (some ⟨b, 0, none⟩), .int .i64 0] 180 (0, 0))) (h : HasN w b c d r q bs) :
    Calls Tryz.prog 73 #[.pointer (some ⟨k, 0, none⟩), .int .i64 65534, .int .i64 65535] w fun e w' => (∃ n, e = Ending.returned (.int .i64 n)) ∧ Below w.heap.size w w' := by
  have K1 := hide (ycread hk h 65534 8190 (by decide) (by decide) (by decide) (by decide) (by decide))
  have K2 := hide (fun w' (q : Below w.heap.size w w') => ycread (core_next hk q) (h.next q) 65535 8191 (by decide) (by decide) (by decide) (by decide) (by decide))
  clear hk h
  obtain ⟨x1, e1⟩ : ∃ y, bs.getD 8190 0 = y := ⟨_, rfl⟩
  obtain ⟨x2, e2⟩ : ∃ y, bs.getD 8191 0 = y := ⟨_, rfl⟩
  rw [e1] at K1
  rw [e2] at K2
  clear e1 e2
  go_enter Tryz.func73, Tryz.ntmps73
  go_wp2_with fail
  refine K1.out.mono ?_
  rintro e w1 ⟨rfl, b1⟩
  have B1 := hide b1
  clear b1
  go_wp2_with fail
  refine (K2.out _ B1.out).mono ?_
  rintro e w2 ⟨rfl, b2⟩
  have B2 := hide (bnext B1.out b2)
  clear b2
  go_wp2_with (first | (go_at_call 116; refine (rjoin_any _ _ _).mono ?_; rintro e w' ⟨rfl, rfl⟩))
  go_ret
  exact ⟨⟨_, rfl⟩, B2.out⟩
theorem core_set {w : World} {b c d r q k o : Nat} {bs : List Int} {v : Value} (h : HasN w b c d r q bs) (n : b < k ∧ r < k ∧ c < k ∧ d < k ∧ q < k) : HasN (w.setCell ⟨k, o, none⟩ v) b c d r q bs := by
  obtain ⟨hy, hb, hl, hn⟩ := h
  have e : OnlyE (fun i => i = k) w (w.setCell ⟨k, o, none⟩ v) := ⟨rfl, rfl, rfl, by simp [World.setCell], fun i hi hE => heap_setCell_other w _ i _ hE⟩
  exact ⟨⟨e.obj hy.1 (by omega), ⟨e.obj hy.2.1.1 (by omega), e.obj hy.2.1.2.1 (by omega), hy.2.1.2.2⟩, e.obj hy.2.2.1 (by omega), hy.2.2.2⟩, ⟨e.obj hb.1 (by omega), hb.2⟩, hl, hn⟩
theorem but_own {w a : World} {b k o : Nat} {v : Value} (h : But b w a) (hk : w.heap.size ≤ k) : But b w (a.setCell ⟨k, o, none⟩ v) :=
  ⟨h.1, h.2.1, h.2.2.1, by simpa [World.setCell] using h.size, fun i hi hE => (heap_setCell_other a ⟨k, o, none⟩ i v (show i ≠ k by omega)).trans (h.block i hi hE)⟩
set_option maxHeartbeats 2000000 in
theorem ystart {w : World} {b c d r q : Nat} {bs : List Int} (h : HasN w b c d r q bs) :
    Calls Tryz.prog 43 #[.pointer (some ⟨b, 0, none⟩)] w fun e w' => ∃ k, e = Ending.returned (.pointer (some ⟨k, 0, none⟩)) ∧ HasN w' b c d r q bs ∧ But b w w' := by
  have H := hide h
  have LT := hide h.1.1.lt
  clear h
  go_enter Tryz.func43, Tryz.ntmps43
  go_upto_region 2 with (first
    | (refine wpList_store_part rfl 49 (.tmp 7) (.tmp 5) rfl b 4 8 (iv flS) rfl rfl H.out.1.1 (by decide) (by kernel_rfl) (fun _ _ => rfl) ?_))
  refine under_name fun w1 hw1 => ?_
  have b1 : But b w w1 := by rw [hw1]; exact But.cells _ _ _ (But.refl b w)
  have H1 := hide (show HasN w1 b c d r q bs by
    obtain ⟨hy, hb, hl, hn⟩ := H.out
    have g := hy.1.cells 4 8 (iv flS)
    rw [← hw1] at g
    have F8 : ∀ i, i < 8 → segs (LY q r c) (4 + i) = iv flS i := fun i hi => by
      have g := segs_get (LY q r c) 4 8 (iv flS) i rfl hi
      rw [show soff (LY q r c) 4 = 4 from rfl] at g
      exact g
    refine ⟨hy.row b1 (g.ext fun j hj => ?_) hy.2.2.2.1 rfl rfl, ⟨b1.obj hb.1 (fun e => hn e.symm), hb.2⟩, hl, hn⟩
    by_cases e : 4 ≤ j ∧ j < 4 + 8
    · rw [if_pos e]
      have g := F8 (j - 4) (by omega)
      rw [show 4 + (j - 4) = j by omega] at g
      exact g.symm
    · rw [if_neg e])
  have B1 := hide b1
  clear hw1 b1 H
  go_upto_region 3 with fail
  refine under_name fun w2 hw2 => ?_
  have G2 := hide (show w2.heap[w1.heap.size]? = some (.cells #[.int .i64 0, .int .i64 0, .int .i64 0, .int .i64 0, .int .i64 0, .int .i64 0, .bool false, .int .i64 0, .pointer (some ⟨b, 0, none⟩), .int .i64 0] 180 (0, 0)) by rw [hw2]; exact heap_alloc_new _ _)
  have H2 := hide (show HasN w2 b c d r q bs by rw [hw2]; exact H1.out.next ((Below.refl _ _).alloc (Nat.le_refl _) _))
  have B2 := hide (show But b w w2 by rw [hw2]; exact B1.out.andBelow ((Below.refl _ _).alloc (Nat.le_refl _) _))
  have KL := hide (show w.heap.size ≤ w1.heap.size ∧ b < w1.heap.size ∧ r < w1.heap.size ∧ c < w1.heap.size ∧ d < w1.heap.size ∧ q < w1.heap.size from ⟨B1.out.size, H1.out.1.1.lt, H1.out.1.2.2.1.lt, lt_of_block H1.out.1.2.1.1, lt_of_block H1.out.1.2.1.2.1, H1.out.2.1.lt⟩)
  obtain ⟨k, hk⟩ : ∃ k, w1.heap.size = k := ⟨_, rfl⟩
  rw [hk] at G2 KL ⊢
  clear hw2 hk H1 B1
  have c4 : w2.cell? ⟨k, 4, none⟩ = some (.int .i64 0) := (cell_of_row _ k 4 _ _ _ G2.out).trans rfl
  have f4 := frozen_of_row w2 k 4 _ _ G2.out
  go_upto_region 4 with fail
  refine under_name fun w3 hw3 => ?_
  have G3 := hide (show w3.heap[k]? = some (.cells #[.int .i64 0, .int .i64 0, .int .i64 0, .int .i64 0, .int .i64 4, .int .i64 0, .bool false, .int .i64 0, .pointer (some ⟨b, 0, none⟩), .int .i64 0] 180 (0, 0)) by rw [hw3]; exact heap_setCell_same w2 k 4 _ _ _ G2.out)
  have H3 := hide (show HasN w3 b c d r q bs by rw [hw3]; exact core_set H2.out KL.out.2)
  have B3 := hide (show But b w w3 by rw [hw3]; exact but_own B2.out KL.out.1)
  clear hw3 G2 H2 B2 c4 f4
  go_wp2_with fail
  refine (yword (p := 4) (z := 0) G3.out H3.out).mono ?_
  rintro e w4 ⟨⟨pc, rfl⟩, b4⟩
  have G4 := hide ((b4.block k (lt_of_block G3.out)).trans G3.out)
  have H4 := hide (H3.out.next b4)
  have B4 := hide (B3.out.andBelow b4)
  clear b4 G3 H3 B3
  have c5 : w4.cell? ⟨k, 5, none⟩ = some (.int .i64 0) := (cell_of_row _ k 5 _ _ _ G4.out).trans rfl
  have f5 := frozen_of_row w4 k 5 _ _ G4.out
  go_upto_region 5 with fail
  refine under_name fun w5 hw5 => ?_
  have G5 := hide (show w5.heap[k]? = some (.cells #[.int .i64 0, .int .i64 0, .int .i64 0, .int .i64 0, .int .i64 4, .int .i64 pc, .bool false, .int .i64 0, .pointer (some ⟨b, 0, none⟩), .int .i64 0] 180 (0, 0)) by rw [hw5]; exact heap_setCell_same w4 k 5 _ _ _ G4.out)
  have H5 := hide (show HasN w5 b c d r q bs by rw [hw5]; exact core_set H4.out KL.out.2)
  have B5 := hide (show But b w w5 by rw [hw5]; exact but_own B4.out KL.out.1)
  clear hw5 G4 H4 B4 c5 f5
  have c9 : w5.cell? ⟨k, 9, none⟩ = some (.int .i64 0) := (cell_of_row _ k 9 _ _ _ G5.out).trans rfl
  have f9 := frozen_of_row w5 k 9 _ _ G5.out
  go_upto_region 6 with fail
  refine under_name fun w6 hw6 => ?_
  have G6 := hide (show w6.heap[k]? = some (.cells #[.int .i64 0, .int .i64 0, .int .i64 0, .int .i64 0, .int .i64 4, .int .i64 pc, .bool false, .int .i64 0, .pointer (some ⟨b, 0, none⟩), .int .i64 0] 180 (0, 0)) by rw [hw6]; exact heap_setCell_same w5 k 9 _ _ _ G5.out)
  have H6 := hide (show HasN w6 b c d r q bs by rw [hw6]; exact core_set H5.out KL.out.2)
  have B6 := hide (show But b w w6 by rw [hw6]; exact but_own B5.out KL.out.1)
  clear hw6 G5 H5 B5 c9 f9
  go_wp2
  go_ret
  exact ⟨k, rfl, H6.out, B6.out⟩
theorem ylines_0 (w : World) : Calls Tryz.prog 76 #[.agg (rowF (iv fun _ => 0) 514)] w fun e w' => e = Ending.returned (.int .i64 262) ∧ Below w.heap.size w w' := by
  have k := rlines_any 0 0 (fun _ => 0) w
  rw [← vF_row, show vF 0 0 (fun _ => 0) = fun _ => 0 from funext fun j => by unfold vF; split <;> first | rfl | (split <;> rfl)] at k
  exact k
theorem ydot_F (w : World) : Calls Tryz.prog 75 #[.agg (rowF (iv fun _ => 0) 514)] w fun e w' => e = Ending.returned (.int .i64 4) ∧ Below w.heap.size w w' := by
  have k := ydot_0 (fun _ => 0) w
  rw [← vF_row, show vF 0 0 (fun _ => 0) = fun _ => 0 from funext fun j => by unfold vF; split <;> first | rfl | (split <;> rfl)] at k
  exact k
theorem yof_0 (w : World) : Calls Tryz.prog 74 #[.agg #[.int .i64 4, .int .i64 262, .int .i64 0, .int .i64 0, .int .i64 0, .int .i64 0]] w fun e w' => e = Ending.returned (.agg #[.int .i64 8, .int .i64 3, .int .i64 4, .int .i64 4, .int .i64 262]) ∧ Below w.heap.size w w' :=
  (rof_any 4 262 0 0 0 0 w).mono fun e w' ⟨e1, b1⟩ => ⟨e1.trans (by kernel_rfl), b1⟩
theorem yzero_20 (w : World) : (zeroValue 41).run Tryz.prog w = .ok (.agg (rowF (iv fun _ => 0) 20)) w := by kernel_rfl
set_option maxHeartbeats 4000000 in
theorem ygeometry {w : World} {y k b c d r q : Nat} {bs : List Int} (hy : w.heap[y]? = some (.cells #[.pointer (some ⟨k, 0, none⟩), .pointer (some ⟨b, 0, none⟩), .int .i64 0, .int .i64 0, .int .i64 0, .int .i64 0, .int .i64 0, .int .i64 0, .int .i64 0, .int .i64 0, .slice none 0 0, .slice none 0 0] 128 (0, 0))) (h : HasN w b c d r q bs) :
    Calls Tryz.prog 44 #[.pointer (some ⟨y, 0, none⟩)] w fun e w' => e = Ending.returned (.tuple #[]) ∧ But y w w' := by
  have SR := hide (show ∀ j, j < 20 → segs (LY q r c) (13 + j) = iv (fun _ => 0) j from fun j hj => by
    have g := segs_get (LY q r c) 5 21 (iv fun _ => 0) (j + 1) rfl (by omega)
    rw [show soff (LY q r c) 5 = 12 from rfl, show 12 + (j + 1) = 13 + j by omega] at g
    exact g)
  have SV := hide (show ∀ j, j < 514 → segs (LY q r c) (293 + j) = iv (fun _ => 0) j from fun j hj => by
    have g := segs_get (LY q r c) 11 514 (iv fun _ => 0) j rfl hj
    rw [show soff (LY q r c) 11 = 293 from rfl] at g
    exact g)
  have H := hide h
  have HY := hide hy
  have KD := hide ydot_F
  have KL := hide ylines_0
  have KO := hide yof_0
  have I20 := hide (show (Tryz.prog.info? 41).map (·.size) = some (rowF (iv fun _ => 0) 20).size by rw [rowF_size]; kernel_rfl)
  have O20 := hide (rowF_one (fun _ => 0) 20)
  have Z20 := hide yzero_20
  obtain ⟨ZR, hZR⟩ : ∃ z, rowF (iv fun _ => 0) 20 = z := ⟨_, rfl⟩
  have HZR := hide hZR
  rw [hZR] at I20 O20 Z20
  have y1 : w.cell? ⟨y, 1, none⟩ = some (.pointer (some ⟨b, 0, none⟩)) := (cell_of_row w y 1 _ _ _ hy).trans rfl
  have YL := hide (lt_of_block hy)
  clear hZR h hy
  go_enter Tryz.func44, Tryz.ntmps44
  go_upto_region 1 with (first
    | (refine wpList_load_part rfl 41 (.tmp 9) rfl b 13 rfl H.out.1.1 20 (by decide) (iv fun _ => 0) SR.out _ Tryz.underlying41 rfl (by kernel_rfl) ?_; rw [HZR.out])
    | (refine wpList_alloced rfl 41 rfl ZR Z20.out ?_)
    | (refine wpList_store_row rfl 41 (.tmp 2) (.tmp 10) rfl w.heap.size _ rfl rfl 41 _ (heap_alloc_new _ _) I20.out rfl O20.out ?_))
  refine under_name fun w2 hw2 => ?_
  have q2 : w2.heap[w.heap.size]? = some (.cells ZR 41 (0, 0)) := by rw [hw2]; exact setRow_heap _ _ _ ZR _ _ (heap_alloc_new _ _)
  have bw : Below w.heap.size w w2 := by
    rw [hw2]
    exact below_setRow ((Below.refl _ w).alloc (Nat.le_refl _) _) (Nat.le_refl _) _
  have BW := hide bw
  have H2 := hide (H.out.next bw)
  have Y2 := hide ((bw.block y YL.out).trans HY.out)
  have k1 := kept_cell ((cell_of_row w2 y 1 _ _ _ Y2.out).trans (show _ = some (.pointer (some ⟨b, 0, none⟩)) from rfl)) (lt_of_block Y2.out)
  have c11 := kept_cell ((cell_of_row w2 _ 11 _ _ _ q2).trans (show _ = some (Value.int .i64 0) by rw [← HZR.out]; exact rowF_at _ 20 11 (by decide))) (lt_of_block q2)
  have c12 := kept_cell ((cell_of_row w2 _ 12 _ _ _ q2).trans (show _ = some (Value.int .i64 0) by rw [← HZR.out]; exact rowF_at _ 20 12 (by decide))) (lt_of_block q2)
  have c13 := kept_cell ((cell_of_row w2 _ 13 _ _ _ q2).trans (show _ = some (Value.int .i64 0) by rw [← HZR.out]; exact rowF_at _ 20 13 (by decide))) (lt_of_block q2)
  have c14 := kept_cell ((cell_of_row w2 _ 14 _ _ _ q2).trans (show _ = some (Value.int .i64 0) by rw [← HZR.out]; exact rowF_at _ 20 14 (by decide))) (lt_of_block q2)
  have RV : Hid (∀ u, (∃ x : Kept w2, u = x.val) → u.rangeAt b 293 (rowF (iv fun _ => 0) 514).toList) := hide (fun u hu => by
    obtain ⟨x, hx⟩ := hu
    rw [hx, ← rowF_ext SV.out]
    exact (H2.out.next x.below).1.1.range 293 514 (by decide))
  have IV := hide (show (Tryz.prog.info? 132).map (·.size) = some (rowF (iv fun _ => 0) 514).size by rw [rowF_size]; kernel_rfl)
  obtain ⟨VR, hVR⟩ : ∃ z, rowF (iv fun _ => 0) 514 = z := ⟨_, rfl⟩
  rw [hVR] at RV KD KL IV
  clear hVR hw2 q2 bw SR SV H HY y1
  simp only [Act.put, List.setIfInBounds_toArray, List.set_cons_succ, List.set_cons_zero]
  haveI := kept_some w2
  refine wp_region_kept_shut _ _ (show _ = [_, _, _, _, _, _, _, _, _, _, _, _, _, _, _, _, _, _, _, _, _, _, _, _, _, _, _, _, _] ++ [_] from rfl) (by kernel_rfl) (by kernel_rfl) (by kernel_rfl) ?_
  repeat (first
    | (refine wpQuiet_mid rfl 132 (.tmp 17) rfl b 293 rfl VR _ RV.out Tryz.underlying132 rfl IV.out ?_; simp only [Act.put, List.setIfInBounds_toArray, List.set_cons_succ, List.set_cons_zero])
    | (refine wpQuiet_mid rfl 132 (.tmp 25) rfl b 293 rfl VR _ RV.out Tryz.underlying132 rfl IV.out ?_; simp only [Act.put, List.setIfInBounds_toArray, List.set_cons_succ, List.set_cons_zero])
    | go_big_quiet_step ((first
        | (go_at_call 75; exact kept_call (KD.out _))
        | (go_at_call 76; exact kept_call (KL.out _))
        | (go_at_call 74; exact kept_call (KO.out _)))))
  refine wpQuiet_nil ?_
  rintro _ ⟨wk, rfl⟩
  have Y3 := hide ((wk.block y (lt_of_block Y2.out)).trans Y2.out)
  have B3 := hide (bnext BW.out wk.below)
  clear k1 c11 c12 c13 c14 RV KD KL KO
  have y2 := (cell_of_row wk.val y 2 _ _ _ Y3.out).trans (show _ = some (Value.int .i64 0) from rfl)
  have y3 := (cell_of_row wk.val y 3 _ _ _ Y3.out).trans (show _ = some (Value.int .i64 0) from rfl)
  have y4 := (cell_of_row wk.val y 4 _ _ _ Y3.out).trans (show _ = some (Value.int .i64 0) from rfl)
  have y5 := (cell_of_row wk.val y 5 _ _ _ Y3.out).trans (show _ = some (Value.int .i64 0) from rfl)
  have y6 := (cell_of_row wk.val y 6 _ _ _ Y3.out).trans (show _ = some (Value.int .i64 0) from rfl)
  have f2 := frozen_of_row wk.val y 2 _ _ Y3.out
  have f3 := frozen_of_row wk.val y 3 _ _ Y3.out
  have f4 := frozen_of_row wk.val y 4 _ _ Y3.out
  have f5 := frozen_of_row wk.val y 5 _ _ Y3.out
  have f6 := frozen_of_row wk.val y 6 _ _ Y3.out
  go_wp2
  refine bodyPost_end (P := Tryz.prog) (fn := Tryz.f44) (results_none rfl _ _ _) rfl ?_
  exact ⟨rfl, (((((But.of B3.out).set 2 _).set 3 _).set 4 _).set 5 _).set 6 _⟩
theorem ynew26 {w : World} {b c d r q : Nat} {bs : List Int} (h : HasN w b c d r q bs) : Calls Tryz.prog 17 #[.pointer (some ⟨b, 0, none⟩)] w fun e w' => (∃ y, e = Ending.returned (.pointer (some ⟨y, 0, none⟩))) ∧ But b w w' := by
  have KS := hide (ystart h)
  clear h
  go_enter Tryz.func17, Tryz.ntmps17
  go_wp2_with fail
  refine KS.out.mono ?_
  rintro e w1 ⟨k, rfl, h1, b1⟩
  have KG := hide (ygeometry (w := w1.alloc (.cells #[.pointer (some ⟨k, 0, none⟩), .pointer (some ⟨b, 0, none⟩), .int .i64 0, .int .i64 0, .int .i64 0, .int .i64 0, .int .i64 0, .int .i64 0, .int .i64 0, .int .i64 0, .slice none 0 0, .slice none 0 0] 128)) (y := w1.heap.size) (heap_alloc_new _ _) (h1.next ((Below.refl _ _).alloc (Nat.le_refl _) _)))
  have B1 := hide b1
  clear h1 b1 KS
  go_wp2_with fail
  refine KG.out.mono ?_
  rintro e w2 ⟨rfl, b2⟩
  have bA := B1.out.andBelow ((Below.refl w1.heap.size w1).alloc (Nat.le_refl _) (.cells #[.pointer (some ⟨k, 0, none⟩), .pointer (some ⟨b, 0, none⟩), .int .i64 0, .int .i64 0, .int .i64 0, .int .i64 0, .int .i64 0, .int .i64 0, .int .i64 0, .int .i64 0, .slice none 0 0, .slice none 0 0] 128))
  have B2 := hide (show But b w w2 from ⟨b2.1.trans bA.1, b2.2.1.trans bA.2.1, b2.2.2.1.trans bA.2.2.1, Nat.le_trans bA.size b2.size, fun i hi hE => (b2.block i (Nat.lt_of_lt_of_le hi bA.size) (by have := B1.out.size; omega)).trans (bA.block i hi hE)⟩)
  go_wp2
  go_ret
  exact ⟨⟨_, rfl⟩, B2.out⟩
end Go.Proofs.YtnoggfnidaifkaaGreatDoor.L25
