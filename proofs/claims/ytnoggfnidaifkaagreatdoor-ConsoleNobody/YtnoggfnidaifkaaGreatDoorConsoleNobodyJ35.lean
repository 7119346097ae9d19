/- The console: the contracts of Valid and of what it asks, where the answer is yes. -/
import Derived.Test.YtnoggfnidaifkaaGreatDoorConsoleNobodyJ32
import Derived.Test.YtnoggfnidaifkaaGreatDoorConsoleNobodyJ33
import Derived.Test.YtnoggfnidaifkaaGreatDoorConsoleNobodyJ12
import Derived.Test.YtnoggfnidaifkaaGreatDoorConsoleNobodyJ34
namespace Go.Proofs.YtnoggfnidaifkaaGreatDoor.L25
set_option maxRecDepth 20000
open A2 B4 C3 G6 I11 J23 K9 L24 M5 N8 O7 P22 R15 T10 V12 W13
open Go.RowKit
set_option linter.unusedVariables false
theorem upTo_yes (m : Int) (g off n cap : Nat) (f : Nat → Int) (w : World) (hn : n ≤ 100000) (hc : ∀ i, i < n → w.cell? ⟨g, off + i, none⟩ = some (.int .i64 (f i))) (hf : ∀ i, i < n → 0 ≤ f i ∧ f i ≤ m) :
    Calls Tryz.prog 22 #[.int .i64 m, .slice (some ⟨g, off, none⟩) n cap] w fun e w' => e = Ending.returned (.bool true) ∧ w' = w := by
  have HC := hide hc
  have HF := hide hf
  clear hc hf
  go_enter Tryz.func22, Tryz.ntmps22
  go_wp2
  go_loopw [9] (fun s9 wr => ∃ k : Nat, k ≤ n ∧ s9 = .int .i64 k ∧ wr = w) (fun s9 _ => n - (intOf s9).toNat)
  case atStart => exact ⟨0, Nat.zero_le _, rfl, rfl⟩
  case round =>
    obtain ⟨k, hk, rfl, hw⟩ := hrel
    subst hw
    by_cases hlt : k < n
    · have c0 := HC.out k hlt
      have f0 := HF.out k hlt
      have f1 : ¬ f k < 0 := by omega
      have f2 : ¬ m < f k := by omega
      obtain ⟨y, hy⟩ : ∃ y, f k = y := ⟨_, rfl⟩
      rw [hy] at c0 f0 f1 f2
      clear hy
      go_wp2
      exact ⟨⟨k + 1, by omega, by go_num, trivial⟩, by simp [intOf]; omega⟩
    · set_option maxRecDepth 20000 in
      go_wp2
      go_ret
      exact ⟨rfl, rfl⟩
theorem upTo_no (m x : Int) (g n cap : Nat) (w : World) (h0 : 0 < n) (hn : n ≤ 100000) (hc : w.cell? ⟨g, 0, none⟩ = some (.int .i64 x)) (hf : x < 0) :
    Calls Tryz.prog 22 #[.int .i64 m, .slice (some ⟨g, 0, none⟩) n cap] w fun e w' => e = Ending.returned (.bool false) ∧ w' = w := by
  have hn2 : (0 : Int) < (n : Int) := by omega
  have HN := hide hn2
  go_enter Tryz.func22, Tryz.ntmps22
  go_wp2
  go_loopw [9] (fun s9 wr => s9 = .int .i64 0 ∧ wr = w) (fun s9 _ => 0)
  case atStart => exact ⟨rfl, rfl⟩
  case round =>
    obtain ⟨rfl, hw⟩ := hrel
    subst hw
    have h1 := HN.out
    go_wp2
    go_ret
    exact ⟨rfl, rfl⟩
theorem lit_cells {w : World} {T : TypeId} (xs : List Int) (i : Nat) (hi : i < xs.length) : (w.alloc (.cells (xs.map (Value.int .i64)).toArray T)).cell? ⟨w.heap.size, 0 + i, none⟩ = some (.int .i64 (xs.getD i 0)) := by
  rw [Nat.zero_add, cell_of_row _ _ i _ _ _ (heap_alloc_new _ _)]
  simp [hi]
theorem up_lit (m : Int) (xs : List Int) (n : Nat) (hn : xs.length = n) (n1 : n ≤ 1000) (hf : ∀ x ∈ xs, 0 ≤ x ∧ x ≤ m) (T : TypeId) (w : World) (g : Nat) (hg : g = w.heap.size) :
    Calls Tryz.prog 22 #[.int .i64 m, .slice (some ⟨g, 0, none⟩) n n] (w.alloc (.cells (xs.map (Value.int .i64)).toArray T)) fun e w' => e = Ending.returned (.bool true) ∧ w' = (w.alloc (.cells (xs.map (Value.int .i64)).toArray T)) := by
  subst hn
  subst hg
  refine upTo_yes m w.heap.size 0 xs.length xs.length (fun i => xs.getD i 0) _ (by omega) (fun i hi => lit_cells xs i hi) (fun i hi => hf _ ?_)
  rw [List.getD_eq_getElem?_getD, List.getElem?_eq_getElem hi]
  exact List.getElem_mem _
def CoreOk (R : Nat → Int) (l : Int) : Prop := (0 ≤ R 0 ∧ R 0 ≤ 255) ∧ (0 ≤ R 1 ∧ R 1 ≤ 255) ∧ (0 ≤ R 2 ∧ R 2 ≤ 255) ∧ (0 ≤ R 3 ∧ R 3 ≤ 255) ∧ (0 ≤ R 4 ∧ R 4 ≤ 255) ∧ (0 ≤ R 5 ∧ R 5 ≤ 65535) ∧ (0 ≤ l ∧ l ≤ 255)
set_option maxHeartbeats 2000000 in
theorem isCore_yes (R : Nat → Int) (f : Bool) (l : Int) (h : CoreOk R l) (w : World) : Calls Tryz.prog 20 #[.agg #[.int .i64 (R 0), .int .i64 (R 1), .int .i64 (R 2), .int .i64 (R 3), .int .i64 (R 4), .int .i64 (R 5), .bool f, .int .i64 l]] w fun e w' => e = Ending.returned (.bool true) ∧ Below w.heap.size w w' := by
  obtain ⟨h0, h1, h2, h3, h4, h5, h6⟩ := h
  obtain ⟨r0, e0⟩ : ∃ r, R 0 = r := ⟨_, rfl⟩
  obtain ⟨r1, e1⟩ : ∃ r, R 1 = r := ⟨_, rfl⟩
  obtain ⟨r2, e2⟩ : ∃ r, R 2 = r := ⟨_, rfl⟩
  obtain ⟨r3, e3⟩ : ∃ r, R 3 = r := ⟨_, rfl⟩
  obtain ⟨r4, e4⟩ : ∃ r, R 4 = r := ⟨_, rfl⟩
  obtain ⟨r5, e5⟩ : ∃ r, R 5 = r := ⟨_, rfl⟩
  rw [e0] at h0 ⊢
  rw [e1] at h1 ⊢
  rw [e2] at h2 ⊢
  rw [e3] at h3 ⊢
  rw [e4] at h4 ⊢
  rw [e5] at h5 ⊢
  clear e0 e1 e2 e3 e4 e5
  have K1 := hide (fun (T : TypeId) (w : World) (q : Nat) (hq : q = w.heap.size) => up_lit 255 [r0, r1, r2, r3, r4, l] 6 rfl (by decide) (by intro x hx; simp only [List.mem_cons, List.not_mem_nil, or_false] at hx; omega) T w q hq)
  have K2 := hide (fun (T : TypeId) (w : World) (q : Nat) (hq : q = w.heap.size) => up_lit 65535 [r5] 1 rfl (by decide) (by intro x hx; simp only [List.mem_cons, List.not_mem_nil, or_false] at hx; omega) T w q hq)
  simp only [List.map_cons, List.map_nil] at K1 K2
  clear h0 h1 h2 h3 h4 h5 h6
  go_enter Tryz.func20, Tryz.ntmps20
  go_wp2_with fail
  refine (K1.out _ _ _ (by simp)).mono ?_
  rintro e w1 ⟨rfl, rfl⟩
  go_wp2_with fail
  refine (K2.out _ _ _ (by simp)).mono ?_
  rintro e w1 ⟨rfl, rfl⟩
  go_wp2_with fail
  go_ret
  exact ⟨rfl, by
    have b1 := (Below.refl w.heap.size w).alloc (Nat.le_refl _) (.cells #[.int .i64 r0, .int .i64 r1, .int .i64 r2, .int .i64 r3, .int .i64 r4, .int .i64 r5, .bool f, .int .i64 l] 35)
    have b2 := b1.alloc b1.size (.cells #[.int .i64 r0, .int .i64 r1, .int .i64 r2, .int .i64 r3, .int .i64 r4, .int .i64 r5] 33)
    have b3 := b2.alloc b2.size (.cells #[.int .i64 r0, .int .i64 r1, .int .i64 r2, .int .i64 r3, .int .i64 r4, .int .i64 l] 3)
    exact b3.alloc b3.size _⟩
def GeoOk (x t v k n : Int) : Prop := (n = 262 ∨ n = 263) ∧ (8 ≤ x ∧ x ≤ 512) ∧ (3 ≤ t ∧ t ≤ v ∧ v ≤ n) ∧ k = min v (n - 1)
set_option maxHeartbeats 2000000 in
theorem isGeometry_yes (x t v k n : Int) (h : GeoOk x t v k n) (w : World) : Calls Tryz.prog 21 #[.agg #[.int .i64 x, .int .i64 t, .int .i64 v, .int .i64 k, .int .i64 n]] w fun e w' => e = Ending.returned (.bool true) ∧ Below w.heap.size w w' := by
  obtain ⟨hn, ⟨x0, x1⟩, ⟨t0, t1, v1⟩, hk⟩ := h
  have hk2 : (v ≤ n - 1 ∧ k = v) ∨ (n - 1 < v ∧ k = n - 1) := by omega
  clear hk
  rcases hn with rfl | rfl
  all_goals
    rcases hk2 with ⟨hv, rfl⟩ | ⟨hv, rfl⟩
    all_goals
      go_enter Tryz.func21, Tryz.ntmps21
      go_wp2
      go_ret
      exact ⟨rfl, (Below.refl _ w).alloc (Nat.le_refl _) _⟩
def VZ (Z : Nat → Nat → Int) : Prop := (0 ≤ Z 7 0 ∧ Z 7 0 ≤ 3) ∧ (∀ j, j < 256 → 0 ≤ Z 2 j ∧ Z 2 j ≤ 65535) ∧ Z 3 0 ≤ 63 ∧ (∀ j : Nat, j < 8 → 0 ≤ Z 9 j ∧ Z 9 j ≤ 255) ∧ (0 ≤ Z 10 0 ∧ Z 10 0 ≤ 255) ∧ (∀ j, j < 5 → 0 ≤ Z 15 (2 * j) ∧ Z 15 (2 * j) ≤ 65535) ∧ (0 ≤ Z 14 3 ∧ Z 14 3 ≤ 5) ∧ Z 17 0 = 0 ∧ R15.okR (Z 0 0) (fun j => Z 0 (j + 1)) = true
theorem seg_at {w : World} {b v c d : Nat} {bs : List Int} {Z : Nat → Nat → Int} (h : HasP w b v c d bs Z) (k : Nat) {n : Nat} {f : Nat → Value} (hk : (XP v c Z)[k]? = some (n, f)) {a : Nat} (ha : (blens.take k).sum = a) : ∀ j, j < n → segs (XP v c Z) (a + j) = f j := fun j hj => by
  have q := segs_get (XP v c Z) k n f j hk hj
  rw [h.isB.off k ha] at q
  exact q
set_option maxHeartbeats 2000000 in
theorem isPalette_yes {w : World} {b v c d : Nat} {bs : List Int} {Z : Nat → Nat → Int} (h : HasM w b v c d bs Z) (hv : VZ Z) : Calls Tryz.prog 51 #[.pointer (some ⟨b, 8483, none⟩)] w fun e w' => e = Ending.returned (.bool true) ∧ Below w.heap.size w w' := by
  have c0 : w.cell? ⟨b, 8483, none⟩ = some (.int .i64 (Z 10 0)) := h.1.1.get 10 rfl 0 (by decide) (a := 8483) (by rw [h.1.isB.off 10 (a := 8483) rfl]) (by decide)
  have c1 : w.cell? ⟨b, 8484, none⟩ = some (.int .i64 (Z 10 1)) := h.1.1.get 10 rfl 1 (by decide) (a := 8484) (by rw [h.1.isB.off 10 (a := 8483) rfl]) (by decide)
  have LB := h.1.1.lt
  have HC := hide (show ∀ i, i < 512 → w.cell? ⟨b, 8485 + i, none⟩ = some (.int .i64 (Z 10 (i + 2))) from fun i hi => h.1.1.get 10 rfl (i + 2) (by omega) (a := 8485 + i) (by rw [h.1.isB.off 10 (a := 8483) rfl]; omega) (by omega))
  have g := good_of h.2.2.1
  have K1 := hide (fun (T : TypeId) (w : World) (q : Nat) (hq : q = w.heap.size) => up_lit 255 [Z 10 0] 1 rfl (by decide) (by intro x hx; simp only [List.mem_cons, List.not_mem_nil, or_false] at hx; have := hv.2.2.2.2.1; omega) T w q hq)
  have K2 := hide (fun (T : TypeId) (w : World) (q : Nat) (hq : q = w.heap.size) => up_lit 511 [Z 10 1] 1 rfl (by decide) (by intro x hx; simp only [List.mem_cons, List.not_mem_nil, or_false] at hx; have := g.2.2.2.2.1; omega) T w q hq)
  have HF := hide (show ∀ i, i < 512 → 0 ≤ Z 10 (i + 2) ∧ Z 10 (i + 2) ≤ 511 from fun i _ => by have := g.2.2.2.2.2.1 i; omega)
  simp only [List.map_cons, List.map_nil] at K1 K2
  obtain ⟨y0, e0⟩ : ∃ y, Z 10 0 = y := ⟨_, rfl⟩
  obtain ⟨y1, e1⟩ : ∃ y, Z 10 1 = y := ⟨_, rfl⟩
  rw [e0] at K1 c0
  rw [e1] at K2 c1
  clear e0 e1 h hv g
  go_enter Tryz.func51, Tryz.ntmps51
  go_wp2_with fail
  refine (K1.out _ _ _ (by simp)).mono ?_
  rintro e w1 ⟨rfl, rfl⟩
  go_wp2_with fail
  refine (K2.out _ _ _ (by simp)).mono ?_
  rintro e w1 ⟨rfl, rfl⟩
  go_wp2_with fail
  have b1 := (Below.refl w.heap.size w).alloc (Nat.le_refl _) (.cells #[.int .i64 y0] 3)
  have b2 := b1.alloc b1.size (.cells #[.int .i64 y1] 3)
  refine (upTo_yes 511 b 8485 512 512 (fun i => Z 10 (i + 2)) _ (by decide) (fun i hi => (b2.cell (p := ⟨b, 8485 + i, none⟩) LB).trans (HC.out i hi)) HF.out).mono ?_
  rintro e w1 ⟨rfl, rfl⟩
  go_wp2_with fail
  go_ret
  exact ⟨rfl, b2⟩
set_option maxHeartbeats 2000000 in
theorem isPicture_yes {w : World} {b v c d : Nat} {bs : List Int} {Z : Nat → Nat → Int} (h : HasM w b v c d bs Z) (hv : VZ Z) : Calls Tryz.prog 50 #[.pointer (some ⟨b, 0, none⟩)] w fun e w' => e = Ending.returned (.bool true) ∧ Below w.heap.size w w' := by
  have HB := hide h.1.1
  have LB := h.1.1.lt
  have SG := hide (show ∀ j, j < 21 → segs (XP v c Z) (0 + j) = iv (Z 0) j from seg_at h.1 0 rfl rfl)
  have s3 : w.cell? ⟨b, 278, none⟩ = some (.int .i64 (Z 3 0)) := h.1.1.get1 3 rfl (a := 278) (h.1.isB.off 3 rfl) (by decide)
  have g := good_of h.2.2.1
  have HC := hide (show ∀ i, i < 256 → w.cell? ⟨b, 22 + i, none⟩ = some (.int .i64 (Z 2 i)) from fun i hi => h.1.1.get 2 rfl i hi (a := 22 + i) (by rw [h.1.isB.off 2 (a := 22) rfl]) (by omega))
  have HF := hide hv.2.1
  have K1 := hide (fun (T : TypeId) (w : World) (q : Nat) (hq : q = w.heap.size) => up_lit 63 [Z 3 0] 1 rfl (by decide) (by intro x hx; simp only [List.mem_cons, List.not_mem_nil, or_false] at hx; have := hv.2.2.1; have := g.2.2.1; omega) T w q hq)
  simp only [List.map_cons, List.map_nil] at K1
  have KR : Hid (Calls Tryz.prog 84 #[.agg (rowF (iv (Z 0)) 21)] w fun e w' => e = Ending.returned (.bool true) ∧ Below w.heap.size w w') := hide (by
    rw [← gF_eta (Z 0), gF_row]
    have k := R15.valid_any (Z 0 0) (fun j => Z 0 (j + 1)) (fun j hj => by
      have q := g.2.1 j hj
      simp only [Lit.wf, Bool.and_eq_true, decide_eq_true_eq]
      exact ⟨Int.le_trans (by decide) q.1, Int.le_trans (Int.le_of_lt q.2) (by decide)⟩) w h.1.2.2.2.1.2.2
    rw [hv.2.2.2.2.2.2.2.2] at k
    exact k)
  obtain ⟨y0, e0⟩ : ∃ y, Z 3 0 = y := ⟨_, rfl⟩
  rw [e0] at K1 s3
  clear e0 h hv g
  go_enter Tryz.func50, Tryz.ntmps50
  go_wp2_with (first
    | (refine wpList_load_part rfl 43 (.tmp 5) rfl b 0 rfl HB.out 21 (by decide) (iv (Z 0)) SG.out _ Tryz.underlying43 rfl (by kernel_rfl) ?_)
    | (go_at_call 84; refine KR.out.mono ?_; rintro e w1 ⟨rfl, b1⟩; have B1 := hide b1; have s3 := (b1.cell (p := ⟨b, 278, none⟩) LB).trans s3; clear b1))
  refine (K1.out _ _ _ (by simp)).mono ?_
  rintro e w2 ⟨rfl, rfl⟩
  go_wp2_with fail
  have b2 := B1.out.alloc B1.out.size (.cells #[.int .i64 y0] 3)
  refine (upTo_yes 65535 b 22 256 256 (fun i => Z 2 i) _ (by decide) (fun i hi => (b2.cell (p := ⟨b, 22 + i, none⟩) LB).trans (HC.out i hi)) HF.out).mono ?_
  rintro e w3 ⟨rfl, rfl⟩
  go_wp2_with fail
  go_ret
  exact ⟨rfl, b2⟩
set_option maxHeartbeats 2000000 in
theorem isPort_yes {w : World} {b v c d : Nat} {bs : List Int} {Z : Nat → Nat → Int} (h : HasM w b v c d bs Z) (hv : VZ Z) : Calls Tryz.prog 52 #[.pointer (some ⟨b, 0, none⟩)] w fun e w' => e = Ending.returned (.bool true) ∧ Below w.heap.size w w' := by
  have HB := hide h.1.1
  have LB := h.1.1.lt
  have SG := hide (show ∀ j, j < 10 → segs (XP v c Z) (9251 + j) = pcZ (Z 15) j from seg_at h.1 15 rfl rfl)
  have s3 : w.cell? ⟨b, 9250, none⟩ = some (.int .i64 (Z 14 3)) := h.1.1.get 14 rfl 3 (by decide) (a := 9250) (by rw [h.1.isB.off 14 (a := 9247) rfl]) (by decide)
  have KP : ∀ k : Nat, k < 5 → Hid (∀ (T : TypeId) (w : World) (g : Nat), g = w.heap.size → Calls Tryz.prog 22 #[.int .i64 65535, .slice (some ⟨g, 0, none⟩) 1 1] (w.alloc (.cells #[.int .i64 (Z 15 (2 * k))] T)) fun e w' => e = Ending.returned (.bool true) ∧ w' = (w.alloc (.cells #[.int .i64 (Z 15 (2 * k))] T))) := fun k hk => hide (fun T w g hg => up_lit 65535 [Z 15 (2 * k)] 1 rfl (by decide) (by intro x hx; simp only [List.mem_cons, List.not_mem_nil, or_false] at hx; rw [hx]; exact hv.2.2.2.2.2.1 k hk) T w g hg)
  have KI : Hid (∀ (T : TypeId) (w : World) (g : Nat), g = w.heap.size → Calls Tryz.prog 22 #[.int .i64 5, .slice (some ⟨g, 0, none⟩) 1 1] (w.alloc (.cells #[.int .i64 (Z 14 3)] T)) fun e w' => e = Ending.returned (.bool true) ∧ w' = (w.alloc (.cells #[.int .i64 (Z 14 3)] T))) := hide (fun T w g hg => up_lit 5 [Z 14 3] 1 rfl (by decide) (by intro x hx; simp only [List.mem_cons, List.not_mem_nil, or_false] at hx; rw [hx]; exact hv.2.2.2.2.2.2.1) T w g hg)
  have IX : ∀ k : Nat, k < 5 → ∀ w : World, (Instr.index 68 (.agg (rowF (pcZ (Z 15)) 10)) (.int .i64 (k : Int))).run Tryz.prog w = .ok (.agg #[.int .i64 (Z 15 (2 * k)), .bool (isB (Z 15 (2 * k + 1)))]) w := fun k hk w => by
    rcases (show k = 0 ∨ k = 1 ∨ k = 2 ∨ k = 3 ∨ k = 4 by omega) with rfl | rfl | rfl | rfl | rfl <;> kernel_rfl
  obtain ⟨y3, e3⟩ : ∃ y, Z 14 3 = y := ⟨_, rfl⟩
  rw [e3] at s3 KI
  obtain ⟨PR, hPR⟩ : ∃ PR, rowF (pcZ (Z 15)) 10 = PR := ⟨_, rfl⟩
  rw [hPR] at IX
  have HI := hide IX
  have HS := hide s3
  clear h hv e3 IX s3
  go_enter Tryz.func52, Tryz.ntmps52
  go_wp2_with (first
    | (refine wpList_load_part rfl 68 (.tmp 7) rfl b 9251 rfl HB.out 10 (by decide) (pcZ (Z 15)) SG.out _ Tryz.underlying68 rfl (by kernel_rfl) ?_; rw [hPR]; clear hPR))
  go_loopw [9] (fun s9 wr => ∃ k : Nat, k ≤ 5 ∧ s9 = .int .i64 (k : Int) ∧ Below w.heap.size w wr) (fun s9 _ => 5 - (intOf s9).toNat)
  case atStart => exact ⟨0, Nat.zero_le _, rfl, Below.refl _ _⟩
  case round =>
    obtain ⟨k, hk, rfl, hb⟩ := hrel
    have HBw := hide hb
    clear hb
    by_cases hlt : k < 5
    · have ix := HI.out k hlt
      have KK := KP k hlt
      obtain ⟨y, hy⟩ : ∃ y, Z 15 (2 * k) = y := ⟨_, rfl⟩
      obtain ⟨z, hz⟩ : ∃ z, isB (Z 15 (2 * k + 1)) = z := ⟨_, rfl⟩
      rw [hy, hz] at ix
      rw [hy] at KK
      clear hy hz
      go_wp2_with fail
      refine (KK.out _ _ _ (by simp)).mono ?_
      rintro e w1 ⟨rfl, rfl⟩
      have BW := hide ((HBw.out.alloc HBw.out.size (.cells #[.int .i64 y, .bool z] 67)).alloc (HBw.out.alloc HBw.out.size _).size (.cells #[.int .i64 y] 3))
      go_wp2_with fail
      go_roundw
      case rel => exact ⟨k + 1, by omega, by go_num, BW.out⟩
      case measure => simp [intOf]; omega
    · have k5 : k = 5 := by omega
      subst k5
      have s3 := (HBw.out.cell (p := ⟨b, 9250, none⟩) LB).trans HS.out
      go_wp2_with fail
      refine (KI.out _ _ _ (by simp)).mono ?_
      rintro e w1 ⟨rfl, rfl⟩
      go_wp2_with fail
      go_ret
      exact ⟨rfl, HBw.out.alloc HBw.out.size _⟩
set_option maxHeartbeats 2000000 in
theorem isMade_yes {w : World} {b v c d : Nat} {bs : List Int} {Z : Nat → Nat → Int} (h : HasM w b v c d bs Z) (hv : VZ Z) : Calls Tryz.prog 46 #[.pointer (some ⟨b, 0, none⟩)] w fun e w' => e = Ending.returned (.bool true) ∧ Below w.heap.size w w' := by
  have LB := h.1.1.lt
  have c1 := h.1.1.get1 1 rfl (a := 21) (h.1.isB.off 1 rfl) (by decide)
  have c6 := h.1.1.get1 6 rfl (a := 281) (h.1.isB.off 6 rfl) (by decide)
  obtain ⟨q1, q2, q3, q4, q5, q6, q7, q8, ⟨p0, p1⟩, q10⟩ := h.1
  have KP := hide (pages_of ⟨c, 0, none⟩ (some ⟨d, 0, none⟩) bs.length bs.length w (by omega) q3.1)
  have KW := hide (W13.words_is v _ _ _ _ _ _ w q2 0 1 0 rfl (by decide) (by decide))
  have p2 : (0 : Int) < ((bs.length / 8192 : Nat) : Int) := by omega
  generalize ((bs.length / 8192 : Nat) : Int) = n at *
  clear q1 q2 q3 q4 q5 q6 q7 q8 q10 p0 p1 h hv
  go_enter Tryz.func46, Tryz.ntmps46
  go_wp2_with (first
    | (go_at_call 29; refine KP.out.mono ?_; rintro e w2 ⟨rfl, hw⟩; subst w2)
    | (go_at_call 77; refine KW.out.mono ?_; rintro e w2 ⟨rfl, _, b2⟩; have B2 := hide b2; clear b2))
  go_ret
  exact ⟨rfl, B2.out⟩
end Go.Proofs.YtnoggfnidaifkaaGreatDoor.L25
