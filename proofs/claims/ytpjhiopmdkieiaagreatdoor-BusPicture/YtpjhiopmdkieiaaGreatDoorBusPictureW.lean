/- The walk of BusPicture. -/
import Derived.Test.YtpjhiopmdkieiaaGreatDoorPict24
import Derived.Test.YtpjhiopmdkieiaaGreatDoorPhase
import Derived.Test.YtpjhiopmdkieiaaGreatDoorBusLaid
namespace Go.Proofs.YtpjhiopmdkieiaaGreatDoor
open Go.Proofs.YtpjhiopmdkieiaaGreatDoor.B4 Go.Proofs.YtpjhiopmdkieiaaGreatDoor.C3 Go.Proofs.YtpjhiopmdkieiaaGreatDoor.G6 Go.Proofs.YtpjhiopmdkieiaaGreatDoor.I11 Go.Proofs.YtpjhiopmdkieiaaGreatDoor.J23 Go.Proofs.YtpjhiopmdkieiaaGreatDoor.L24 Go.Proofs.YtpjhiopmdkieiaaGreatDoor.M5 Go.Proofs.YtpjhiopmdkieiaaGreatDoor.P22 Go.Proofs.YtpjhiopmdkieiaaGreatDoor.R15 Go.Proofs.YtpjhiopmdkieiaaGreatDoor.T10 Go.Proofs.YtpjhiopmdkieiaaGreatDoor.V12 Go.Proofs.YtpjhiopmdkieiaaGreatDoor.W13
open Go.RowKit
set_option linter.unusedVariables false
/-- The words behind k rounds. -/
def wrTo (A S : Int) (zs : List Int) : Nat → Nat → Int
  | 0 => fun _ => 0
  | k + 1 => pokeAt (wrTo A S zs k) (placeAt A S k) (zs.getD k 0 % 65536)
theorem placeAt_apart (A S : Int) (hS : S = 1 ∨ S = 32 ∨ S = 64 ∨ S = 128) (k m : Nat) (hk : k < m) (hm : m ≤ 60) : placeAt A S k % 65536 ≠ placeAt A S m % 65536 := by
  unfold placeAt
  rcases hS with rfl | rfl | rfl | rfl <;> omega
theorem wrTo_at (A S : Int) (hS : S = 1 ∨ S = 32 ∨ S = 64 ∨ S = 128) (zs : List Int) : ∀ m, m ≤ 60 → ∀ k, k < m → wordAt (wrTo A S zs m) (placeAt A S k) = if placeAt A S k < 32768 then zs.getD k 0 % 65536 else 0
  | 0, _, k, h => by omega
  | m + 1, hm, k, h => by
    show wordAt (pokeAt (wrTo A S zs m) (placeAt A S m) (zs.getD m 0 % 65536)) (placeAt A S k) = _
    have h0 := placeAt_ge A S k
    have h1 := placeAt_lt A S k
    by_cases e : k = m
    · subst e
      rw [wordAt_same, show placeAt A S k % 65536 = placeAt A S k by omega, Int.emod_emod_of_dvd _ (Int.dvd_refl _)]
    · rw [wordAt_other _ _ _ _ (placeAt_apart A S hS k m (by omega) (by omega))]
      exact wrTo_at A S hS zs m (by omega) k (by omega)
theorem place_is (A S : Int) (A0 : 0 ≤ A) (A1 : A < 16384) (hS : S = 1 ∨ S = 32 ∨ S = 64 ∨ S = 128) (k : Nat) (hk : k ≤ 40) : placeAt A S k = A + k * S ∧ placeAt A S k < 32768 := by
  unfold placeAt
  rcases hS with rfl | rfl | rfl | rfl <;> omega
/-! ### What each register becomes -/
theorem step_of (q : Int) (q0 : 0 ≤ q) (q1 : q < 4) : ∃ S : Int, (S = 1 ∨ S = 32 ∨ S = 64 ∨ S = 128) ∧ R15.farOf (R15.pairOf (q * 2048) 11) = S ∧ ∀ w, (Instr.index 91 (.agg #[.int .i64 1, .int .i64 32, .int .i64 64, .int .i64 128]) (.int .i64 q)).run Tryz.prog w = .ok (.int .i64 S) w := by
  rcases (show q = 0 ∨ q = 1 ∨ q = 2 ∨ q = 3 by omega) with rfl | rfl | rfl | rfl
  · exact ⟨1, .inl rfl, by decide, fun w => by kernel_rfl⟩
  · exact ⟨32, .inr (.inl rfl), by decide, fun w => by kernel_rfl⟩
  · exact ⟨64, .inr (.inr (.inl rfl)), by decide, fun w => by kernel_rfl⟩
  · exact ⟨128, .inr (.inr (.inr rfl)), by decide, fun w => by kernel_rfl⟩
theorem and_wide (h : Int) : bits .and .i64 h 65535 = h % 65536 := and_65535 h
theorem five_low (q : Int) (q0 : 0 ≤ q) (q1 : q < 4) : bits .and .i64 (R15.halfOf 0 2 (q * 2048 % 256)) (R15.mk 5) = 0 := by
  rcases (show q = 0 ∨ q = 1 ∨ q = 2 ∨ q = 3 by omega) with rfl | rfl | rfl | rfl <;> decide
theorem five_high (q : Int) (q0 : 0 ≤ q) (q1 : q < 4) : bits .and .i64 (R15.halfOf 0 3 (q * 2048 / 256 % 256)) (R15.mk 5) = q * 2048 := by
  rcases (show q = 0 ∨ q = 1 ∨ q = 2 ∨ q = 3 by omega) with rfl | rfl | rfl | rfl <;> decide
theorem wide_low (n y : Int) (hy : n % 256 = y) (i : Nat) (hi : R15.mk i = 65535) : bits .and .i64 (R15.halfOf 0 2 y) (R15.mk i) = n % 256 := by
  rw [hi, and_65535]
  unfold R15.halfOf R15.lowOf
  rw [if_pos rfl]
  omega
theorem wide_high (A : Int) (A0 : 0 ≤ A) (A1 : A < 16384) (i : Nat) (hi : R15.mk i = 65535) : bits .and .i64 (R15.halfOf (A % 256) 3 (A / 256 % 256)) (R15.mk i) = A := by
  rw [hi, and_65535]
  unfold R15.halfOf R15.highOf
  rw [if_neg (by decide)]
  omega
theorem oneS_keep {A B : World → Prop} {p i : Nat} {d : Nat → Bool} {w : World} (hi : ¬ p = i) (h : oneS A B p d w) : oneS A B p (updD d i) w := ⟨fun e => h.1 (by rwa [updD_other _ hi] at e), fun e => h.2 (by rwa [updD_other _ hi] at e)⟩
/-! ### The closure at each register -/
theorem reg_5 {w : World} {b v c d g : Nat} {bs : List Int} (hg : g ≠ b ∧ g ≠ v) (cg : w.heap[g]? = some (.cells #[.pointer (some ⟨b, 0, none⟩)] 24 (0, 0))) (h : HasX w b v c d (PL v c 0 fun _ => 0) bs (fun _ => 0) 0 0 1 0 0) (q S : Int) (q0 : 0 ≤ q) (q1 : q < 4) (hS : S = 1 ∨ S = 32 ∨ S = 64 ∨ S = 128) (eS : R15.farOf (R15.pairOf (q * 2048) 11) = S) : Calls Tryz.prog 23 #[.int .i64 5, .int .i64 (q * 2048), .pointer (some ⟨g, 0, none⟩)] w fun e w' => e = Ending.returned (.tuple #[]) ∧ HasX w' b v c d (PL v c 5 (R15.upd (R15.upd (fun _ => 0) 5 0) 5 (q * 2048))) bs (fun _ => 0) 0 0 S 0 0 ∧ OnlyE (EX b v) w w' := by
  refine reg_any 5 (q * 2048) (fun w => HasX w b v c d (PL v c 0 fun _ => 0) bs (fun _ => 0) 0 0 1 0 0) (fun w => HasX w b v c d (PL v c 5 fun _ => 0) bs (fun _ => 0) 0 0 1 0 0) (fun w => HasX w b v c d (PL v c 5 (R15.upd (fun _ => 0) 5 0)) bs (fun _ => 0) 0 0 1 0 0) _ hg cg h
    (fun w h => p_sel h 5 5 (by decide)) (fun w h => p_low5 h _ _ 0 rfl (five_low q q0 q1)) (fun w h => ?_)
  have k := p_high5 h (q * 2048 / 256) _ (q * 2048) rfl (five_high q q0 q1) (by rw [eS]; rcases hS with rfl | rfl | rfl | rfl <;> decide) (by rw [eS]; rcases hS with rfl | rfl | rfl | rfl <;> decide)
  rw [eS] at k
  exact k
theorem reg_0 {w : World} {b v c d g : Nat} {bs : List Int} {f : Nat → Int} {wr rd st lo bu : Int} {R : Nat → Int} {s : Int} (hg : g ≠ b ∧ g ≠ v) (cg : w.heap[g]? = some (.cells #[.pointer (some ⟨b, 0, none⟩)] 24 (0, 0))) (h : HasX w b v c d (PL v c s R) bs f wr rd st lo bu) (A : Int) (A0 : 0 ≤ A) (A1 : A < 16384) (hR : R 0 = 0) : Calls Tryz.prog 23 #[.int .i64 0, .int .i64 A, .pointer (some ⟨g, 0, none⟩)] w fun e w' => e = Ending.returned (.tuple #[]) ∧ HasX w' b v c d (PL v c 0 (R15.upd (R15.upd R 0 (A % 256)) 0 A)) bs f A rd st lo bu ∧ OnlyE (EX b v) w w' := by
  refine reg_any 0 A (fun w => HasX w b v c d (PL v c s R) bs f wr rd st lo bu) (fun w => HasX w b v c d (PL v c 0 R) bs f wr rd st lo bu) (fun w => HasX w b v c d (PL v c 0 (R15.upd R 0 (A % 256))) bs f (A % 256) rd st lo bu) _ hg cg h
    (fun w h => p_sel h 0 0 (by decide)) (fun w h => p_low0 h A _ (A % 256) rfl (by rw [hR]; exact wide_low A _ rfl 0 (by decide)) (A % 256) (by omega)) (fun w h => ?_)
  exact p_high0 h (A / 256) _ A rfl (by rw [R15.upd_same]; exact wide_high A A0 A1 0 (by decide)) A (by omega)
theorem reg_1 {w : World} {b v c d g : Nat} {bs : List Int} {f : Nat → Int} {wr rd st lo bu : Int} {R : Nat → Int} {s : Int} (hg : g ≠ b ∧ g ≠ v) (cg : w.heap[g]? = some (.cells #[.pointer (some ⟨b, 0, none⟩)] 24 (0, 0))) (h : HasX w b v c d (PL v c s R) bs f wr rd st lo bu) (A u : Int) (A0 : 0 ≤ A) (A1 : A < 16384) (hR : R 1 = 0) (hu : wordAt f A = u) : Calls Tryz.prog 23 #[.int .i64 1, .int .i64 A, .pointer (some ⟨g, 0, none⟩)] w fun e w' => e = Ending.returned (.tuple #[]) ∧ HasX w' b v c d (PL v c 1 (R15.upd (R15.upd R 1 (A % 256)) 1 A)) bs f wr A st lo u ∧ OnlyE (EX b v) w w' := by
  refine reg_any 1 A (fun w => HasX w b v c d (PL v c s R) bs f wr rd st lo bu) (fun w => HasX w b v c d (PL v c 1 R) bs f wr rd st lo bu) (fun w => HasX w b v c d (PL v c 1 (R15.upd R 1 (A % 256))) bs f wr rd st lo bu) _ hg cg h
    (fun w h => p_sel h 1 1 (by decide)) (fun w h => p_low1 h A _ (A % 256) rfl (by rw [hR]; exact wide_low A _ rfl 1 (by decide))) (fun w h => ?_)
  exact p_high1 h (A / 256) _ A rfl (by rw [R15.upd_same]; exact wide_high A A0 A1 1 (by decide)) A u (by omega) hu
theorem reg_2 {w : World} {b v c d g : Nat} {bs : List Int} {f : Nat → Int} {wr rd st lo bu : Int} {R : Nat → Int} {s : Int} (hg : g ≠ b ∧ g ≠ v) (cg : w.heap[g]? = some (.cells #[.pointer (some ⟨b, 0, none⟩)] 24 (0, 0))) (h : HasX w b v c d (PL v c s R) bs f wr rd st lo bu) (n u : Int) (F : Nat → Int) (hF : pokeAt f wr (n % 65536) = F) (e0 : 0 ≤ wr) (e1 : wr < 65536) (s0 : 0 ≤ st) (s1 : st < 65536) (hu : (wr + st) % 65536 = u) : Calls Tryz.prog 23 #[.int .i64 2, .int .i64 n, .pointer (some ⟨g, 0, none⟩)] w fun e w' => e = Ending.returned (.tuple #[]) ∧ (∃ R' : Nat → Int, (∀ i, i ≠ 2 → R' i = R i) ∧ HasX w' b v c d (PL v c 2 R') bs F u rd st (n % 256) bu) ∧ OnlyE (EX b v) w w' := by
  refine reg_any 2 n (fun w => HasX w b v c d (PL v c s R) bs f wr rd st lo bu) (fun w => HasX w b v c d (PL v c 2 R) bs f wr rd st lo bu) (fun w => ∃ z, HasX w b v c d (PL v c 2 (R15.upd R 2 z)) bs f wr rd st (n % 256) bu) _ hg cg h
    (fun w h => p_sel h 2 2 (by decide)) (fun w h => (p_low2 h n _ _ rfl rfl (n % 256) (by omega)).mono fun e w' ⟨e1, x, o⟩ => ⟨e1, ⟨_, x⟩, o⟩) (fun w ⟨z, h⟩ => ?_)
  exact (p_high2 h (n / 256) _ _ rfl rfl (n % 65536) u F (by omega) hF e0 e1 s0 s1 hu).mono fun e w' ⟨e1, x, o⟩ => ⟨e1, ⟨_, fun i hi => by rw [R15.upd_other _ _ _ _ hi, R15.upd_other _ _ _ _ hi], x⟩, o⟩
set_option maxHeartbeats 4000000 in
theorem picture_short (a0 a2 A q S : Int) (s : Option Addr) (len cap : Nat) (zs : List Int) (W : World) (hr : IsRow .i64 W s len cap zs) (hA : bits .and .i64 a0 16383 = A) (A0 : 0 ≤ A) (A1 : A < 16384) (hq : bits .and .i64 a2 3 = q) (q0 : 0 ≤ q) (q1 : q < 4) (hS : S = 1 ∨ S = 32 ∨ S = 64 ∨ S = 128) (eS : R15.farOf (R15.pairOf (q * 2048) 11) = S) (iS : ∀ w, (Instr.index 91 (.agg #[.int .i64 1, .int .i64 32, .int .i64 64, .int .i64 128]) (.int .i64 q)).run Tryz.prog w = .ok (.int .i64 S) w) (hm : len ≤ 40) (hL : Tabs W ∧ HasErr W) :
    Calls Tryz.prog 7 #[.int .i64 a0, .slice s len cap, .int .i64 a2] W fun e w' => e = .returned (.bool true) ∧ Below W.heap.size W w' := by
  have M := hide (machine_1 hL.1 hL.2)
  have HR := hide hr
  have HS := hide hS
  have ES := hide eS
  clear hL hr hS eS
  set_option maxRecDepth 20000 in
  go_enter Tryz.func7, Tryz.ntmps7
  set_option maxRecDepth 20000 in
  go_wp2_with fail
  refine M.out.mono ?_
  rintro e w1 ⟨b, v, c, d, bs, rfl, hl, x1, ⟨lb, lv⟩, b1⟩
  rw [lb_pl] at x1
  have X1 := hide x1
  have B1 := hide b1
  have NB := hide (show ∀ k, EX b v k → W.heap.size ≤ k from fun k e => by rcases e with rfl | rfl; exact lb; exact lv)
  clear x1 b1 lb lv hl M
  set_option maxRecDepth 20000 in
  go_upto_region 2 with fail
  refine under_name fun w2 hw2 => ?_
  have bb2 : Below w1.heap.size w1 w2 := by rw [hw2]; exact (Below.refl _ w1).alloc (Nat.le_refl _) _
  have G2 := hide (show w2.heap[w1.heap.size]? = some (.cells #[.pointer (some ⟨b, 0, none⟩)] 24 (0, 0)) by rw [hw2]; exact heap_alloc_new _ _)
  have NG := hide (show ¬ EX b v w1.heap.size from fun e => by have h1 := X1.out.1.lt; have h2 := X1.out.2.1.lt; rcases e with e | e <;> omega)
  have X2 := hide (X1.out.next bb2)
  have B2 := hide (bnext B1.out bb2)
  generalize w1.heap.size = g at *
  have HG := hide (show g ≠ b ∧ g ≠ v from ⟨fun e => NG.out (.inl e), fun e => NG.out (.inr e)⟩)
  clear hw2 bb2 X1 B1
  have c0 := (cell_of_row w2 g 0 _ _ _ G2.out).trans rfl
  set_option maxRecDepth 20000 in
  go_wp2_with fail
  refine (reg_5 HG.out G2.out X2.out q S q0 q1 HS.out ES.out).mono ?_
  rintro e w3 ⟨rfl, x3, o3⟩
  clear c0
  have X3 := hide x3
  have B3 := hide (B2.out.trans (o3.below NB.out B2.out.size))
  have G3 := hide (o3.obj G2.out NG.out)
  clear x3 o3 X2 B2 G2
  have c0 := (cell_of_row w3 g 0 _ _ _ G3.out).trans rfl
  set_option maxRecDepth 20000 in
  go_wp2_with fail
  refine (reg_0 HG.out G3.out X3.out A A0 A1 rfl).mono ?_
  rintro e w4 ⟨rfl, x4, o4⟩
  clear c0
  replace x4 : ∃ (sl : Int) (R : Nat → Int), (R 1 = 0 ∧ R 5 = q * 2048) ∧ HasX w4 b v c d (PL v c sl R) bs (wrTo A S zs 0) (placeAt A S 0) 0 S 0 0 := ⟨0, _, ⟨rfl, rfl⟩, by rw [placeAt_zero A S A0 (by omega)]; exact x4⟩
  have X4 := hide x4
  have B4 := hide (B3.out.trans (o4.below NB.out B3.out.size))
  have G4 := hide (o4.obj G3.out NG.out)
  clear x4 o4 X3 B3 G3
  set_option maxRecDepth 20000 in
  go_wp2_with fail
  go_loopw [10] (fun s10 wr => ∃ (k : Nat) (sl lo : Int) (R : Nat → Int), k ≤ len ∧ s10 = .int .i64 (k : Int) ∧ (R 1 = 0 ∧ R 5 = q * 2048) ∧ HasX wr b v c d (PL v c sl R) bs (wrTo A S zs k) (placeAt A S k) 0 S lo 0 ∧ wr.heap[g]? = some (.cells #[.pointer (some ⟨b, 0, none⟩)] 24 (0, 0)) ∧ Below W.heap.size W wr) (fun s10 _ => len - (intOf s10).toNat)
  case atStart =>
    obtain ⟨sl, R, hR, x⟩ := X4.out
    exact ⟨0, sl, 0, R, Nat.zero_le _, rfl, hR, x, G4.out, B4.out⟩
  case round =>
    obtain ⟨k, sl, lo, R, hk, rfl, hR, x5, g5, b5⟩ := hrel
    have X5 := hide x5
    have G5 := hide g5
    have B5 := hide b5
    have RR := hide hR
    clear x5 g5 b5 hR X4 G4 B4
    by_cases hlt : k < len
    · obtain ⟨bb, off, rfl, hbb, _, _, hc⟩ := HR.out.cells (by omega)
      have hcell := (B5.out.cell (p := ⟨bb, off + k, none⟩) hbb).trans (hc k (by omega)).1
      obtain ⟨z, hz⟩ : ∃ z, zs.getD k 0 = z := ⟨_, rfl⟩
      rw [hz] at hcell
      have HZ := hide hz
      clear hz hc
      set_option maxRecDepth 20000 in
      go_wp2_with fail
      have s0 : 0 ≤ S ∧ S < 65536 := by rcases HS.out with h | h | h | h <;> omega
      refine (reg_2 HG.out G5.out X5.out z (placeAt A S (k + 1)) (wrTo A S zs (k + 1)) (by rw [← HZ.out]; rfl) (placeAt_ge A S k) (placeAt_lt A S k) s0.1 s0.2 (placeAt_next A S k)).mono ?_
      rintro e w6 ⟨rfl, x6, o6⟩
      clear hcell s0
      have X6 := hide x6
      have B6 := hide (B5.out.trans (o6.below NB.out B5.out.size))
      have G6 := hide (o6.obj G5.out NG.out)
      clear x6 o6 X5 B5 G5
      set_option maxRecDepth 20000 in
      go_wp2_with fail
      go_roundw
      case rel =>
        obtain ⟨R', e', x⟩ := X6.out
        exact ⟨k + 1, 2, _, R', by omega, by go_num, ⟨by rw [e' 1 (by decide)]; exact RR.out.1, by rw [e' 5 (by decide)]; exact RR.out.2⟩, x, G6.out, B6.out⟩
      case measure => simp [intOf]; omega
    · obtain rfl : k = len := by omega
      set_option maxRecDepth 20000 in
      go_wp2_with fail
      refine (reg_1 HG.out G5.out X5.out A (wordAt (wrTo A S zs k) A) A0 A1 RR.out.1 rfl).mono ?_
      rintro e w7 ⟨rfl, x7, o7⟩
      replace x7 : ∃ (sl : Int) (R : Nat → Int), R 5 = q * 2048 ∧ HasX w7 b v c d (PL v c sl R) bs (wrTo A S zs k) (placeAt A S k) A S lo (wordAt (wrTo A S zs k) A) := ⟨1, R15.upd (R15.upd R 1 (A % 256)) 1 A, (R15.upd_other _ _ _ _ (by decide)).trans ((R15.upd_other _ _ _ _ (by decide)).trans RR.out.2), x7⟩
      have X7 := hide x7
      have B7 := hide (B5.out.trans (o7.below NB.out B5.out.size))
      have G7 := hide (o7.obj G5.out NG.out)
      clear x7 o7 X5 B5 G5
      obtain ⟨sl7, R7, r7, x7⟩ := X7.out
      have RR7 := hide r7
      replace X7 := hide x7
      clear r7 x7 RR
      have c0 := (cell_of_row w7 g 0 _ _ _ G7.out).trans rfl
      set_option maxRecDepth 20000 in
      go_wp2_with fail
      refine (p_sel X7.out 2 2 (by decide)).mono ?_
      rintro e w8 ⟨rfl, x8, o8⟩
      clear c0
      have X8 := hide x8
      have B8 := hide (B7.out.trans (o8.below NB.out B7.out.size))
      have G8 := hide (o8.obj G7.out NG.out)
      clear x8 o8 X7 B7 G7
      set_option maxRecDepth 20000 in
      go_wp2_with fail
      go_loopw [12] (fun s12 wr => ∃ (j : Nat), j ≤ k ∧ s12 = .int .i64 (j : Int) ∧ HasX wr b v c d (PL v c 2 R7) bs (wrTo A S zs k) (placeAt A S k) (placeAt A S j) S lo (wordAt (wrTo A S zs k) (placeAt A S j)) ∧ wr.heap[g]? = some (.cells #[.pointer (some ⟨b, 0, none⟩)] 24 (0, 0)) ∧ Below W.heap.size W wr) (fun s12 _ => k - (intOf s12).toNat)
      case atStart =>
        refine ⟨0, Nat.zero_le _, rfl, ?_, G8.out, B8.out⟩
        rw [placeAt_zero A S A0 (by omega)]
        exact X8.out
      case round =>
        obtain ⟨k2, hj, rfl, x9, g9, b9⟩ := hrel
        have X9 := hide x9
        have G9 := hide g9
        have B9 := hide b9
        clear x9 g9 b9 X8 G8 B8
        by_cases hlj : k2 < k
        · obtain ⟨bb, off, rfl, hbb, _, _, hc⟩ := HR.out.cells (by omega)
          have HBB := hide hbb
          have HC := hide (hc k2 (by omega)).1
          obtain ⟨z, hz⟩ : ∃ z, zs.getD k2 0 = z := ⟨_, rfl⟩
          obtain ⟨pl1, pl2⟩ := place_is A S A0 A1 HS.out k2 (by omega)
          have ew := wrTo_at A S HS.out zs k (by omega) k2 hlj
          rw [if_pos pl2, hz] at ew
          rw [hz] at HC
          obtain ⟨p, hp⟩ : ∃ p, ((k2 : Nat) : Int) * S = p := ⟨_, rfl⟩
          have p0 : 0 ≤ p ∧ p ≤ 5120 := by rw [← hp]; rcases HS.out with h | h | h | h <;> (subst h; omega)
          rw [hp] at pl1
          obtain ⟨zw, hzw⟩ : ∃ zw, bits .and .i64 z 65535 = zw := ⟨_, rfl⟩
          obtain ⟨zl, hzl⟩ : ∃ zl, bits .and .i64 z 255 = zl := ⟨_, rfl⟩
          obtain ⟨zh, hzh⟩ : ∃ zh, bits .and .i64 (z / 256) 255 = zh := ⟨_, rfl⟩
          have EW := hide (show wordAt (wrTo A S zs k) (A + p) = zw by rw [← pl1, ew, ← hzw, and_65535])
          have EB := hide (show wordAt (wrTo A S zs k) (placeAt A S k2) % 256 = zl ∧ wordAt (wrTo A S zs k) (placeAt A S k2) / 256 % 256 = zh by rw [ew, ← hzl, ← hzh, and_255, and_255]; omega)
          have PN := hide (placeAt_next A S k2)
          have PG := hide (show 0 ≤ placeAt A S k2 ∧ placeAt A S k2 < 65536 from ⟨placeAt_ge A S k2, placeAt_lt A S k2⟩)
          clear hz ew pl1 pl2 hc hbb
          have i0 := kept_cell ((cell_of_row wr g 0 _ _ _ G9.out).trans rfl) (lt_of_block G9.out)
          have i1 := kept_cell (X9.out.1.get1 1 X9.out.2.2.2.2.2.1 (a := 21) (X9.out.isB.off 1 rfl) (by decide)) X9.out.1.lt
          have i2 := kept_cell ((B9.out.cell (p := ⟨bb, off + k2, none⟩) HBB.out).trans HC.out) (Nat.lt_of_lt_of_le HBB.out B9.out.size)
          have KV := hide (fun x : Kept wr => word_is v _ _ _ _ _ _ x.val (X9.out.next x.below).2.1 (A + p) zw EW.out)
          have hlj2 : ((k2 : Nat) : Int) < ((k : Nat) : Int) := by omega
          set_option maxRecDepth 20000 in
          go_wp2_with fail
          haveI := kept_some wr
          refine wp_region_kept (by kernel_rfl) (by kernel_rfl) ?_
          set_option maxRecDepth 20000 in
          repeat (go_big_quiet_step ((go_at_call 18; exact kept_same (KV.out _))))
          refine wpQuiet_nil ?_
          rintro _ ⟨wk, rfl⟩
          have X10 := hide (X9.out.next wk.below)
          have B10 := hide (bnext B9.out wk.below)
          have G10 := hide ((wk.below.block g (lt_of_block G9.out)).trans G9.out)
          have c0 := i0 wk
          generalize wk.val = w10 at *
          clear i0 i1 i2 KV X9 B9 G9
          set_option maxRecDepth 20000 in
          go_wp2_with fail
          refine (rd_low X10.out 2088962 0 (by decide) (by decide) (by decide) EB.out.1).mono ?_
          rintro e w11 ⟨rfl, x11, o11⟩
          clear c0
          have X11 := hide x11
          have B11 := hide (B10.out.trans (o11.below NB.out B10.out.size))
          have G11 := hide (o11.obj G10.out NG.out)
          clear x11 o11 X10 B10 G10
          have XA := hide X11.out
          have GA := hide G11.out
          have BA := hide B11.out
          clear X11 G11 B11
          have s0 := hide (show 0 ≤ S ∧ S < 65536 by rcases HS.out with h | h | h | h <;> omega)
          have RH := hide (fun (w : World) h => rd_high (w := w) (b := b) (v := v) (c := c) (d := d) (L := PL v c 2 R7) (bs := bs) (f := wrTo A S zs k) (wr := placeAt A S k) (rd := placeAt A S k2) (st := S) (lo := lo) (bu := wordAt (wrTo A S zs k) (placeAt A S k2)) h 2088963 0 (by decide) (by decide) (by decide) PG.out.1 PG.out.2 s0.out.1 s0.out.2 EB.out.2 PN.out rfl)
          obtain ⟨B1, hB1⟩ : ∃ B1 : World → Prop, B1 = fun x => HasX x b v c d (PL v c 2 R7) bs (wrTo A S zs k) (placeAt A S k) (placeAt A S (k2 + 1)) S lo (wordAt (wrTo A S zs k) (placeAt A S (k2 + 1))) ∧ x.heap[g]? = some (.cells #[.pointer (some ⟨b, 0, none⟩)] 24 (0, 0)) ∧ Below W.heap.size W x := ⟨_, rfl⟩
          have EB1 : ∀ x, (HasX x b v c d (PL v c 2 R7) bs (wrTo A S zs k) (placeAt A S k) (placeAt A S (k2 + 1)) S lo (wordAt (wrTo A S zs k) (placeAt A S (k2 + 1))) ∧ x.heap[g]? = some (.cells #[.pointer (some ⟨b, 0, none⟩)] 24 (0, 0)) ∧ Below W.heap.size W x) ↔ B1 x := fun x => by rw [hB1]
          have CELLS := hide (show ∀ (dn : Nat → Bool) (x : World), oneS (fun x => Below w11.heap.size w11 x) B1 9 dn x → x.cell? ⟨g, 0, none⟩ = some (.pointer (some ⟨b, 0, none⟩)) ∧ x.cell? ⟨bb, off + k2, none⟩ = some (.int .i64 z) from fun dn x h => by
            cases hd : dn 9 with
            | false =>
              have hb := oneS_ahead h hd
              exact ⟨(cell_of_row x g 0 _ _ _ ((hb.block g (lt_of_block GA.out)).trans GA.out)).trans rfl, ((bnext BA.out hb).cell (p := ⟨bb, off + k2, none⟩) HBB.out).trans HC.out⟩
            | true =>
              have hb := (EB1 x).2 (oneS_behind h hd)
              exact ⟨(cell_of_row x g 0 _ _ _ hb.2.1).trans rfl, (hb.2.2.cell (p := ⟨bb, off + k2, none⟩) HBB.out).trans HC.out⟩)
          clear hB1 EB
          have EB := EB1
          clear EB1
          set_option maxRecDepth 20000 in
          go_wp2_with fail
          refine wp_region_state (ofList [.int .i64 zl, .slice (some ⟨bb, off, none⟩) k cap, .int .i64 (k2 : Int), .pointer (some ⟨bb, off + k2, none⟩), .int .i64 z, .int .i64 zl, .bool false, .bool false, .pointer (some ⟨b, 0, none⟩), .int .i64 zh, .slice (some ⟨bb, off, none⟩) k cap, .int .i64 (k2 : Int), .pointer (some ⟨bb, off + k2, none⟩), .int .i64 z, .int .i64 (z / 256), .int .i64 zh, .bool false, .bool false]) (oneS (fun x => Below w11.heap.size w11 x) B1 9) _ (fun vals => by simp only [putAll, Act.put, List.setIfInBounds_toArray, List.set_cons_succ, List.set_cons_zero, Nat.reduceAdd]; rfl) (by kernel_rfl) (by kernel_rfl) (by kernel_rfl) (fun dn hd => oneS_none hd (Below.refl _ _).drew) ?_ ?_
          · refine stepsS_cons (fun vals dn x hi hc hk hs => ?_) (stepsS_cons (fun vals dn x hi hc hk hs => ?_) (stepsS_cons (fun vals dn x hi hc hk hs => ?_) (stepsS_cons (fun vals dn x hi hc hk hs => ?_) (stepsS_cons (fun vals dn x hi hc hk hs => ?_) (stepsS_cons (fun vals dn x hi hc hk hs => ?_) (stepsS_cons (fun vals dn x hi hc hk hs => ?_) (stepsS_cons (fun vals dn x hi hc hk hs => ?_) (stepsS_cons (fun vals dn x hi hc hk hs => ?_) (stepsS_cons (fun vals dn x hi hc hk hs => ?_) (stepsS_cons (fun vals dn x hi hc hk hs => ?_) (stepsS_cons (fun vals dn x hi hc hk hs => ?_) (stepsS_cons (fun vals dn x hi hc hk hs => ?_) (stepsS_cons (fun vals dn x hi hc hk hs => ?_) (stepsS_cons (fun vals dn x hi hc hk hs => ?_) (stepsS_cons (fun vals dn x hi hc hk hs => ?_) (stepsS_cons (fun vals dn x hi hc hk hs => ?_) (stepsS_cons (fun vals dn x hi hc hk hs => ?_) stepsS_nil)))))))))))))))))
            · set_option maxRecDepth 20000 in
              go_wp2_with fail
              exact postS_mk _ rfl rfl (oneS_keep (by decide) hs)
            · set_option maxRecDepth 20000 in
              go_wp2_with fail
              exact postS_mk _ rfl rfl (oneS_keep (by decide) hs)
            · set_option maxRecDepth 20000 in
              go_wp2_with fail
              exact postS_mk _ rfl rfl (oneS_keep (by decide) hs)
            · obtain ⟨⟨(h1 : vals 1 = .slice (some ⟨bb, off, none⟩) k cap), t1⟩, ⟨(h2 : vals 2 = .int .i64 (k2 : Int)), t2⟩, _⟩ := hk
              simp only [h1, h2]
              clear h1 h2
              set_option maxRecDepth 20000 in
              go_wp2_with fail
              exact postS_mk _ rfl rfl (oneS_keep (by decide) hs)
            · obtain ⟨⟨(h3 : vals 3 = .pointer (some ⟨bb, off + k2, none⟩)), t3⟩, _⟩ := hk
              simp only [h3]
              clear h3
              have q := (CELLS.out dn x hs).2
              set_option maxRecDepth 20000 in
              go_wp2_with fail
              exact postS_mk _ rfl rfl (oneS_keep (by decide) hs)
            · obtain ⟨⟨(h4 : vals 4 = .int .i64 z), t4⟩, _⟩ := hk
              simp only [h4]
              clear h4
              set_option maxRecDepth 20000 in
              go_wp2_with fail
              exact postS_mk _ rfl rfl (oneS_keep (by decide) hs)
            · obtain ⟨⟨(h0 : vals 0 = .int .i64 zl), t0⟩, ⟨(h5 : vals 5 = .int .i64 zl), t5⟩, _⟩ := hk
              simp only [h0, h5]
              clear h0 h5
              set_option maxRecDepth 20000 in
              go_wp2_with fail
              exact postS_mk _ rfl rfl (oneS_keep (by decide) hs)
            · obtain ⟨⟨(h6 : vals 6 = .bool false), t6⟩, _⟩ := hk
              simp only [h6]
              clear h6
              set_option maxRecDepth 20000 in
              go_wp2_with fail
              exact postS_mk _ rfl rfl (oneS_keep (by decide) hs)
            · obtain ⟨⟨(h7 : vals 7 = .bool false), t7⟩, _⟩ := hk
              simp only [h7]
              clear h7
              have q := (CELLS.out dn x hs).1
              set_option maxRecDepth 20000 in
              go_wp2_with fail
              exact postS_mk _ rfl rfl (oneS_keep (by decide) hs)
            · obtain ⟨⟨(h8 : vals 8 = .pointer (some ⟨b, 0, none⟩)), t8⟩, ⟨(h7 : vals 7 = .bool false), t7⟩, _, _⟩ := hk
              simp only [h8, h7]
              clear h8 h7
              have hb := oneS_ahead hs hi
              have x6 := XA.out.next hb
              set_option maxRecDepth 20000 in
              go_wp2_with fail
              refine (RH.out _ x6).mono ?_
              rintro e x2 ⟨rfl, h2, o2⟩
              have r2 : B1 x2 := (EB x2).1 ⟨h2, (o2.obj ((hb.block g (lt_of_block GA.out)).trans GA.out) NG.out), (bnext BA.out hb).trans (o2.below NB.out (bnext BA.out hb).size)⟩
              clear h2 o2 x6 hb
              set_option maxRecDepth 20000 in
              go_wp2_with fail
              exact postS_mk _ rfl rfl (oneS_goes r2)
            · obtain ⟨⟨(h7 : vals 7 = .bool false), t7⟩, _⟩ := hk
              simp only [h7]
              clear h7
              set_option maxRecDepth 20000 in
              go_wp2_with fail
              exact postS_mk _ rfl rfl (oneS_keep (by decide) hs)
            · obtain ⟨⟨(h7 : vals 7 = .bool false), t7⟩, _⟩ := hk
              simp only [h7]
              clear h7
              set_option maxRecDepth 20000 in
              go_wp2_with fail
              exact postS_mk _ rfl rfl (oneS_keep (by decide) hs)
            · obtain ⟨⟨(h10 : vals 10 = .slice (some ⟨bb, off, none⟩) k cap), t10⟩, ⟨(h11 : vals 11 = .int .i64 (k2 : Int)), t11⟩, ⟨(h7 : vals 7 = .bool false), t7⟩, _⟩ := hk
              simp only [h10, h11, h7]
              clear h10 h11 h7
              set_option maxRecDepth 20000 in
              go_wp2_with fail
              exact postS_mk _ rfl rfl (oneS_keep (by decide) hs)
            · obtain ⟨⟨(h12 : vals 12 = .pointer (some ⟨bb, off + k2, none⟩)), t12⟩, ⟨(h7 : vals 7 = .bool false), t7⟩, _⟩ := hk
              simp only [h12, h7]
              clear h12 h7
              have q := (CELLS.out dn x hs).2
              set_option maxRecDepth 20000 in
              go_wp2_with fail
              exact postS_mk _ rfl rfl (oneS_keep (by decide) hs)
            · obtain ⟨⟨(h13 : vals 13 = .int .i64 z), t13⟩, ⟨(h7 : vals 7 = .bool false), t7⟩, _⟩ := hk
              simp only [h13, h7]
              clear h13 h7
              set_option maxRecDepth 20000 in
              go_wp2_with fail
              exact postS_mk _ rfl rfl (oneS_keep (by decide) hs)
            · obtain ⟨⟨(h14 : vals 14 = .int .i64 (z / 256)), t14⟩, ⟨(h7 : vals 7 = .bool false), t7⟩, _⟩ := hk
              simp only [h14, h7]
              clear h14 h7
              set_option maxRecDepth 20000 in
              go_wp2_with fail
              exact postS_mk _ rfl rfl (oneS_keep (by decide) hs)
            · obtain ⟨⟨(h9 : vals 9 = .int .i64 zh), t9⟩, ⟨(h15 : vals 15 = .int .i64 zh), t15⟩, ⟨(h7 : vals 7 = .bool false), t7⟩, _⟩ := hk
              simp only [h9, h15, h7]
              clear h9 h15 h7
              set_option maxRecDepth 20000 in
              go_wp2_with fail
              exact postS_mk _ rfl rfl (oneS_keep (by decide) hs)
            · obtain ⟨⟨(h7 : vals 7 = .bool false), t7⟩, ⟨(h16 : vals 16 = .bool false), t16⟩, _⟩ := hk
              simp only [h7, h16]
              clear h7 h16
              set_option maxRecDepth 20000 in
              go_wp2_with fail
              exact postS_mk _ rfl rfl (oneS_keep (by decide) hs)
          rintro vals dn x hall hs hv
          have hb := (EB x).2 (oneS_behind hs (hall 9 (by decide)))
          obtain ⟨_, _, _, _, _, _, _, _, _, _, _, _, _, _, _, _, _, (h17 : vals 17 = .bool false), _⟩ := hv
          simp only [h17]
          clear h17 hs hall CELLS RH
          have X12 := hide hb.1
          have G12 := hide hb.2.1
          have B12 := hide hb.2.2
          clear hb EB XA GA BA
          set_option maxRecDepth 20000 in
          go_wp2_with fail
          go_roundw
          case rel => exact ⟨k2 + 1, by omega, by go_num, X12.out, G12.out, B12.out⟩
          case measure => simp [intOf]; omega
        · obtain rfl : k2 = k := by omega
          have c0 := (cell_of_row wr g 0 _ _ _ G9.out).trans rfl
          have cs : wr.cell? ⟨b, 0, none⟩ = some (.int .i64 2) := X9.out.1.get 0 rfl 0 (by decide) (a := 0) (by rw [X9.out.isB.off 0 (a := 0) rfl]) (by decide)
          have c5 : wr.cell? ⟨b, 6, none⟩ = some (.int .i64 (R7 5)) := X9.out.1.get 0 rfl 6 (by decide) (a := 6) (by rw [X9.out.isB.off 0 (a := 0) rfl]) (by decide)
          rw [RR7.out] at c5
          set_option maxRecDepth 20000 in
          go_wp2_with fail
          go_ret
          exact ⟨rfl, B9.out⟩
set_option maxHeartbeats 4000000 in
theorem picture_long (a0 a2 A q S : Int) (s : Option Addr) (len cap : Nat) (zs : List Int) (W : World) (hr : IsRow .i64 W s len cap zs) (hA : bits .and .i64 a0 16383 = A) (A0 : 0 ≤ A) (A1 : A < 16384) (hq : bits .and .i64 a2 3 = q) (q0 : 0 ≤ q) (q1 : q < 4) (hS : S = 1 ∨ S = 32 ∨ S = 64 ∨ S = 128) (eS : R15.farOf (R15.pairOf (q * 2048) 11) = S) (iS : ∀ w, (Instr.index 91 (.agg #[.int .i64 1, .int .i64 32, .int .i64 64, .int .i64 128]) (.int .i64 q)).run Tryz.prog w = .ok (.int .i64 S) w) (hm : ¬ len ≤ 40) (ll : len ≤ 9223372036854775807) (K : Nat) (K0 : K ≤ 40) (K1 : 40 ≤ K) (hL : Tabs W ∧ HasErr W) :
    Calls Tryz.prog 7 #[.int .i64 a0, .slice s len cap, .int .i64 a2] W fun e w' => e = .returned (.bool true) ∧ Below W.heap.size W w' := by
  have M := hide (machine_1 hL.1 hL.2)
  have HR := hide hr
  have HS := hide hS
  have ES := hide eS
  clear hL hr hS eS
  set_option maxRecDepth 20000 in
  go_enter Tryz.func7, Tryz.ntmps7
  set_option maxRecDepth 20000 in
  go_wp2_with fail
  refine M.out.mono ?_
  rintro e w1 ⟨b, v, c, d, bs, rfl, hl, x1, ⟨lb, lv⟩, b1⟩
  rw [lb_pl] at x1
  have X1 := hide x1
  have B1 := hide b1
  have NB := hide (show ∀ k, EX b v k → W.heap.size ≤ k from fun k e => by rcases e with rfl | rfl; exact lb; exact lv)
  clear x1 b1 lb lv hl M
  set_option maxRecDepth 20000 in
  go_upto_region 2 with fail
  refine under_name fun w2 hw2 => ?_
  have bb2 : Below w1.heap.size w1 w2 := by rw [hw2]; exact (Below.refl _ w1).alloc (Nat.le_refl _) _
  have G2 := hide (show w2.heap[w1.heap.size]? = some (.cells #[.pointer (some ⟨b, 0, none⟩)] 24 (0, 0)) by rw [hw2]; exact heap_alloc_new _ _)
  have NG := hide (show ¬ EX b v w1.heap.size from fun e => by have h1 := X1.out.1.lt; have h2 := X1.out.2.1.lt; rcases e with e | e <;> omega)
  have X2 := hide (X1.out.next bb2)
  have B2 := hide (bnext B1.out bb2)
  generalize w1.heap.size = g at *
  have HG := hide (show g ≠ b ∧ g ≠ v from ⟨fun e => NG.out (.inl e), fun e => NG.out (.inr e)⟩)
  clear hw2 bb2 X1 B1
  have c0 := (cell_of_row w2 g 0 _ _ _ G2.out).trans rfl
  set_option maxRecDepth 20000 in
  go_wp2_with fail
  refine (reg_5 HG.out G2.out X2.out q S q0 q1 HS.out ES.out).mono ?_
  rintro e w3 ⟨rfl, x3, o3⟩
  clear c0
  have X3 := hide x3
  have B3 := hide (B2.out.trans (o3.below NB.out B2.out.size))
  have G3 := hide (o3.obj G2.out NG.out)
  clear x3 o3 X2 B2 G2
  have c0 := (cell_of_row w3 g 0 _ _ _ G3.out).trans rfl
  set_option maxRecDepth 20000 in
  go_wp2_with fail
  refine (reg_0 HG.out G3.out X3.out A A0 A1 rfl).mono ?_
  rintro e w4 ⟨rfl, x4, o4⟩
  clear c0
  replace x4 : ∃ (sl : Int) (R : Nat → Int), (R 1 = 0 ∧ R 5 = q * 2048) ∧ HasX w4 b v c d (PL v c sl R) bs (wrTo A S zs 0) (placeAt A S 0) 0 S 0 0 := ⟨0, _, ⟨rfl, rfl⟩, by rw [placeAt_zero A S A0 (by omega)]; exact x4⟩
  have X4 := hide x4
  have B4 := hide (B3.out.trans (o4.below NB.out B3.out.size))
  have G4 := hide (o4.obj G3.out NG.out)
  clear x4 o4 X3 B3 G3
  set_option maxRecDepth 20000 in
  go_wp2_with fail
  go_loopw [10] (fun s10 wr => ∃ (k : Nat) (sl lo : Int) (R : Nat → Int), k ≤ K ∧ s10 = .int .i64 (k : Int) ∧ (R 1 = 0 ∧ R 5 = q * 2048) ∧ HasX wr b v c d (PL v c sl R) bs (wrTo A S zs k) (placeAt A S k) 0 S lo 0 ∧ wr.heap[g]? = some (.cells #[.pointer (some ⟨b, 0, none⟩)] 24 (0, 0)) ∧ Below W.heap.size W wr) (fun s10 _ => K - (intOf s10).toNat)
  case atStart =>
    obtain ⟨sl, R, hR, x⟩ := X4.out
    exact ⟨0, sl, 0, R, Nat.zero_le _, rfl, hR, x, G4.out, B4.out⟩
  case round =>
    obtain ⟨k, sl, lo, R, hk, rfl, hR, x5, g5, b5⟩ := hrel
    have X5 := hide x5
    have G5 := hide g5
    have B5 := hide b5
    have RR := hide hR
    clear x5 g5 b5 hR X4 G4 B4
    by_cases hlt : k < K
    · obtain ⟨bb, off, rfl, hbb, _, _, hc⟩ := HR.out.cells (by omega)
      have hcell := (B5.out.cell (p := ⟨bb, off + k, none⟩) hbb).trans (hc k (by omega)).1
      obtain ⟨z, hz⟩ : ∃ z, zs.getD k 0 = z := ⟨_, rfl⟩
      rw [hz] at hcell
      have HZ := hide hz
      clear hz hc
      set_option maxRecDepth 20000 in
      go_wp2_with fail
      have s0 : 0 ≤ S ∧ S < 65536 := by rcases HS.out with h | h | h | h <;> omega
      refine (reg_2 HG.out G5.out X5.out z (placeAt A S (k + 1)) (wrTo A S zs (k + 1)) (by rw [← HZ.out]; rfl) (placeAt_ge A S k) (placeAt_lt A S k) s0.1 s0.2 (placeAt_next A S k)).mono ?_
      rintro e w6 ⟨rfl, x6, o6⟩
      clear hcell s0
      have X6 := hide x6
      have B6 := hide (B5.out.trans (o6.below NB.out B5.out.size))
      have G6 := hide (o6.obj G5.out NG.out)
      clear x6 o6 X5 B5 G5
      set_option maxRecDepth 20000 in
      go_wp2_with fail
      go_roundw
      case rel =>
        obtain ⟨R', e', x⟩ := X6.out
        exact ⟨k + 1, 2, _, R', by omega, by go_num, ⟨by rw [e' 1 (by decide)]; exact RR.out.1, by rw [e' 5 (by decide)]; exact RR.out.2⟩, x, G6.out, B6.out⟩
      case measure => simp [intOf]; omega
    · obtain rfl : k = K := by omega
      set_option maxRecDepth 20000 in
      go_wp2_with fail
      refine (reg_1 HG.out G5.out X5.out A (wordAt (wrTo A S zs k) A) A0 A1 RR.out.1 rfl).mono ?_
      rintro e w7 ⟨rfl, x7, o7⟩
      replace x7 : ∃ (sl : Int) (R : Nat → Int), R 5 = q * 2048 ∧ HasX w7 b v c d (PL v c sl R) bs (wrTo A S zs k) (placeAt A S k) A S lo (wordAt (wrTo A S zs k) A) := ⟨1, R15.upd (R15.upd R 1 (A % 256)) 1 A, (R15.upd_other _ _ _ _ (by decide)).trans ((R15.upd_other _ _ _ _ (by decide)).trans RR.out.2), x7⟩
      have X7 := hide x7
      have B7 := hide (B5.out.trans (o7.below NB.out B5.out.size))
      have G7 := hide (o7.obj G5.out NG.out)
      clear x7 o7 X5 B5 G5
      obtain ⟨sl7, R7, r7, x7⟩ := X7.out
      have RR7 := hide r7
      replace X7 := hide x7
      clear r7 x7 RR
      have c0 := (cell_of_row w7 g 0 _ _ _ G7.out).trans rfl
      set_option maxRecDepth 20000 in
      go_wp2_with fail
      refine (p_sel X7.out 2 2 (by decide)).mono ?_
      rintro e w8 ⟨rfl, x8, o8⟩
      clear c0
      have X8 := hide x8
      have B8 := hide (B7.out.trans (o8.below NB.out B7.out.size))
      have G8 := hide (o8.obj G7.out NG.out)
      clear x8 o8 X7 B7 G7
      set_option maxRecDepth 20000 in
      go_wp2_with fail
      go_loopw [12] (fun s12 wr => ∃ (j : Nat), j ≤ k ∧ s12 = .int .i64 (j : Int) ∧ HasX wr b v c d (PL v c 2 R7) bs (wrTo A S zs k) (placeAt A S k) (placeAt A S j) S lo (wordAt (wrTo A S zs k) (placeAt A S j)) ∧ wr.heap[g]? = some (.cells #[.pointer (some ⟨b, 0, none⟩)] 24 (0, 0)) ∧ Below W.heap.size W wr) (fun s12 _ => k - (intOf s12).toNat)
      case atStart =>
        refine ⟨0, Nat.zero_le _, rfl, ?_, G8.out, B8.out⟩
        rw [placeAt_zero A S A0 (by omega)]
        exact X8.out
      case round =>
        obtain ⟨k2, hj, rfl, x9, g9, b9⟩ := hrel
        have X9 := hide x9
        have G9 := hide g9
        have B9 := hide b9
        clear x9 g9 b9 X8 G8 B8
        by_cases hlj : k2 < k
        · obtain ⟨bb, off, rfl, hbb, _, _, hc⟩ := HR.out.cells (by omega)
          have HBB := hide hbb
          have HC := hide (hc k2 (by omega)).1
          obtain ⟨z, hz⟩ : ∃ z, zs.getD k2 0 = z := ⟨_, rfl⟩
          obtain ⟨pl1, pl2⟩ := place_is A S A0 A1 HS.out k2 (by omega)
          have ew := wrTo_at A S HS.out zs k (by omega) k2 hlj
          rw [if_pos pl2, hz] at ew
          rw [hz] at HC
          obtain ⟨p, hp⟩ : ∃ p, ((k2 : Nat) : Int) * S = p := ⟨_, rfl⟩
          have p0 : 0 ≤ p ∧ p ≤ 5120 := by rw [← hp]; rcases HS.out with h | h | h | h <;> (subst h; omega)
          rw [hp] at pl1
          obtain ⟨zw, hzw⟩ : ∃ zw, bits .and .i64 z 65535 = zw := ⟨_, rfl⟩
          obtain ⟨zl, hzl⟩ : ∃ zl, bits .and .i64 z 255 = zl := ⟨_, rfl⟩
          obtain ⟨zh, hzh⟩ : ∃ zh, bits .and .i64 (z / 256) 255 = zh := ⟨_, rfl⟩
          have EW := hide (show wordAt (wrTo A S zs k) (A + p) = zw by rw [← pl1, ew, ← hzw, and_65535])
          have EB := hide (show wordAt (wrTo A S zs k) (placeAt A S k2) % 256 = zl ∧ wordAt (wrTo A S zs k) (placeAt A S k2) / 256 % 256 = zh by rw [ew, ← hzl, ← hzh, and_255, and_255]; omega)
          have PN := hide (placeAt_next A S k2)
          have PG := hide (show 0 ≤ placeAt A S k2 ∧ placeAt A S k2 < 65536 from ⟨placeAt_ge A S k2, placeAt_lt A S k2⟩)
          clear hz ew pl1 pl2 hc hbb
          have i0 := kept_cell ((cell_of_row wr g 0 _ _ _ G9.out).trans rfl) (lt_of_block G9.out)
          have i1 := kept_cell (X9.out.1.get1 1 X9.out.2.2.2.2.2.1 (a := 21) (X9.out.isB.off 1 rfl) (by decide)) X9.out.1.lt
          have i2 := kept_cell ((B9.out.cell (p := ⟨bb, off + k2, none⟩) HBB.out).trans HC.out) (Nat.lt_of_lt_of_le HBB.out B9.out.size)
          have KV := hide (fun x : Kept wr => word_is v _ _ _ _ _ _ x.val (X9.out.next x.below).2.1 (A + p) zw EW.out)
          have hlj2 : ((k2 : Nat) : Int) < ((k : Nat) : Int) := by omega
          set_option maxRecDepth 20000 in
          go_wp2_with fail
          haveI := kept_some wr
          refine wp_region_kept (by kernel_rfl) (by kernel_rfl) ?_
          set_option maxRecDepth 20000 in
          repeat (go_big_quiet_step ((go_at_call 18; exact kept_same (KV.out _))))
          refine wpQuiet_nil ?_
          rintro _ ⟨wk, rfl⟩
          have X10 := hide (X9.out.next wk.below)
          have B10 := hide (bnext B9.out wk.below)
          have G10 := hide ((wk.below.block g (lt_of_block G9.out)).trans G9.out)
          have c0 := i0 wk
          generalize wk.val = w10 at *
          clear i0 i1 i2 KV X9 B9 G9
          set_option maxRecDepth 20000 in
          go_wp2_with fail
          refine (rd_low X10.out 2088962 0 (by decide) (by decide) (by decide) EB.out.1).mono ?_
          rintro e w11 ⟨rfl, x11, o11⟩
          clear c0
          have X11 := hide x11
          have B11 := hide (B10.out.trans (o11.below NB.out B10.out.size))
          have G11 := hide (o11.obj G10.out NG.out)
          clear x11 o11 X10 B10 G10
          have XA := hide X11.out
          have GA := hide G11.out
          have BA := hide B11.out
          clear X11 G11 B11
          have s0 := hide (show 0 ≤ S ∧ S < 65536 by rcases HS.out with h | h | h | h <;> omega)
          have RH := hide (fun (w : World) h => rd_high (w := w) (b := b) (v := v) (c := c) (d := d) (L := PL v c 2 R7) (bs := bs) (f := wrTo A S zs k) (wr := placeAt A S k) (rd := placeAt A S k2) (st := S) (lo := lo) (bu := wordAt (wrTo A S zs k) (placeAt A S k2)) h 2088963 0 (by decide) (by decide) (by decide) PG.out.1 PG.out.2 s0.out.1 s0.out.2 EB.out.2 PN.out rfl)
          obtain ⟨B1, hB1⟩ : ∃ B1 : World → Prop, B1 = fun x => HasX x b v c d (PL v c 2 R7) bs (wrTo A S zs k) (placeAt A S k) (placeAt A S (k2 + 1)) S lo (wordAt (wrTo A S zs k) (placeAt A S (k2 + 1))) ∧ x.heap[g]? = some (.cells #[.pointer (some ⟨b, 0, none⟩)] 24 (0, 0)) ∧ Below W.heap.size W x := ⟨_, rfl⟩
          have EB1 : ∀ x, (HasX x b v c d (PL v c 2 R7) bs (wrTo A S zs k) (placeAt A S k) (placeAt A S (k2 + 1)) S lo (wordAt (wrTo A S zs k) (placeAt A S (k2 + 1))) ∧ x.heap[g]? = some (.cells #[.pointer (some ⟨b, 0, none⟩)] 24 (0, 0)) ∧ Below W.heap.size W x) ↔ B1 x := fun x => by rw [hB1]
          have CELLS := hide (show ∀ (dn : Nat → Bool) (x : World), oneS (fun x => Below w11.heap.size w11 x) B1 9 dn x → x.cell? ⟨g, 0, none⟩ = some (.pointer (some ⟨b, 0, none⟩)) ∧ x.cell? ⟨bb, off + k2, none⟩ = some (.int .i64 z) from fun dn x h => by
            cases hd : dn 9 with
            | false =>
              have hb := oneS_ahead h hd
              exact ⟨(cell_of_row x g 0 _ _ _ ((hb.block g (lt_of_block GA.out)).trans GA.out)).trans rfl, ((bnext BA.out hb).cell (p := ⟨bb, off + k2, none⟩) HBB.out).trans HC.out⟩
            | true =>
              have hb := (EB1 x).2 (oneS_behind h hd)
              exact ⟨(cell_of_row x g 0 _ _ _ hb.2.1).trans rfl, (hb.2.2.cell (p := ⟨bb, off + k2, none⟩) HBB.out).trans HC.out⟩)
          clear hB1 EB
          have EB := EB1
          clear EB1
          set_option maxRecDepth 20000 in
          go_wp2_with fail
          refine wp_region_state (ofList [.int .i64 zl, .slice (some ⟨bb, off, none⟩) len cap, .int .i64 (k2 : Int), .pointer (some ⟨bb, off + k2, none⟩), .int .i64 z, .int .i64 zl, .bool false, .bool false, .pointer (some ⟨b, 0, none⟩), .int .i64 zh, .slice (some ⟨bb, off, none⟩) len cap, .int .i64 (k2 : Int), .pointer (some ⟨bb, off + k2, none⟩), .int .i64 z, .int .i64 (z / 256), .int .i64 zh, .bool false, .bool false]) (oneS (fun x => Below w11.heap.size w11 x) B1 9) _ (fun vals => by simp only [putAll, Act.put, List.setIfInBounds_toArray, List.set_cons_succ, List.set_cons_zero, Nat.reduceAdd]; rfl) (by kernel_rfl) (by kernel_rfl) (by kernel_rfl) (fun dn hd => oneS_none hd (Below.refl _ _).drew) ?_ ?_
          · refine stepsS_cons (fun vals dn x hi hc hk hs => ?_) (stepsS_cons (fun vals dn x hi hc hk hs => ?_) (stepsS_cons (fun vals dn x hi hc hk hs => ?_) (stepsS_cons (fun vals dn x hi hc hk hs => ?_) (stepsS_cons (fun vals dn x hi hc hk hs => ?_) (stepsS_cons (fun vals dn x hi hc hk hs => ?_) (stepsS_cons (fun vals dn x hi hc hk hs => ?_) (stepsS_cons (fun vals dn x hi hc hk hs => ?_) (stepsS_cons (fun vals dn x hi hc hk hs => ?_) (stepsS_cons (fun vals dn x hi hc hk hs => ?_) (stepsS_cons (fun vals dn x hi hc hk hs => ?_) (stepsS_cons (fun vals dn x hi hc hk hs => ?_) (stepsS_cons (fun vals dn x hi hc hk hs => ?_) (stepsS_cons (fun vals dn x hi hc hk hs => ?_) (stepsS_cons (fun vals dn x hi hc hk hs => ?_) (stepsS_cons (fun vals dn x hi hc hk hs => ?_) (stepsS_cons (fun vals dn x hi hc hk hs => ?_) (stepsS_cons (fun vals dn x hi hc hk hs => ?_) stepsS_nil)))))))))))))))))
            · set_option maxRecDepth 20000 in
              go_wp2_with fail
              exact postS_mk _ rfl rfl (oneS_keep (by decide) hs)
            · set_option maxRecDepth 20000 in
              go_wp2_with fail
              exact postS_mk _ rfl rfl (oneS_keep (by decide) hs)
            · set_option maxRecDepth 20000 in
              go_wp2_with fail
              exact postS_mk _ rfl rfl (oneS_keep (by decide) hs)
            · obtain ⟨⟨(h1 : vals 1 = .slice (some ⟨bb, off, none⟩) len cap), t1⟩, ⟨(h2 : vals 2 = .int .i64 (k2 : Int)), t2⟩, _⟩ := hk
              simp only [h1, h2]
              clear h1 h2
              set_option maxRecDepth 20000 in
              go_wp2_with fail
              exact postS_mk _ rfl rfl (oneS_keep (by decide) hs)
            · obtain ⟨⟨(h3 : vals 3 = .pointer (some ⟨bb, off + k2, none⟩)), t3⟩, _⟩ := hk
              simp only [h3]
              clear h3
              have q := (CELLS.out dn x hs).2
              set_option maxRecDepth 20000 in
              go_wp2_with fail
              exact postS_mk _ rfl rfl (oneS_keep (by decide) hs)
            · obtain ⟨⟨(h4 : vals 4 = .int .i64 z), t4⟩, _⟩ := hk
              simp only [h4]
              clear h4
              set_option maxRecDepth 20000 in
              go_wp2_with fail
              exact postS_mk _ rfl rfl (oneS_keep (by decide) hs)
            · obtain ⟨⟨(h0 : vals 0 = .int .i64 zl), t0⟩, ⟨(h5 : vals 5 = .int .i64 zl), t5⟩, _⟩ := hk
              simp only [h0, h5]
              clear h0 h5
              set_option maxRecDepth 20000 in
              go_wp2_with fail
              exact postS_mk _ rfl rfl (oneS_keep (by decide) hs)
            · obtain ⟨⟨(h6 : vals 6 = .bool false), t6⟩, _⟩ := hk
              simp only [h6]
              clear h6
              set_option maxRecDepth 20000 in
              go_wp2_with fail
              exact postS_mk _ rfl rfl (oneS_keep (by decide) hs)
            · obtain ⟨⟨(h7 : vals 7 = .bool false), t7⟩, _⟩ := hk
              simp only [h7]
              clear h7
              have q := (CELLS.out dn x hs).1
              set_option maxRecDepth 20000 in
              go_wp2_with fail
              exact postS_mk _ rfl rfl (oneS_keep (by decide) hs)
            · obtain ⟨⟨(h8 : vals 8 = .pointer (some ⟨b, 0, none⟩)), t8⟩, ⟨(h7 : vals 7 = .bool false), t7⟩, _, _⟩ := hk
              simp only [h8, h7]
              clear h8 h7
              have hb := oneS_ahead hs hi
              have x6 := XA.out.next hb
              set_option maxRecDepth 20000 in
              go_wp2_with fail
              refine (RH.out _ x6).mono ?_
              rintro e x2 ⟨rfl, h2, o2⟩
              have r2 : B1 x2 := (EB x2).1 ⟨h2, (o2.obj ((hb.block g (lt_of_block GA.out)).trans GA.out) NG.out), (bnext BA.out hb).trans (o2.below NB.out (bnext BA.out hb).size)⟩
              clear h2 o2 x6 hb
              set_option maxRecDepth 20000 in
              go_wp2_with fail
              exact postS_mk _ rfl rfl (oneS_goes r2)
            · obtain ⟨⟨(h7 : vals 7 = .bool false), t7⟩, _⟩ := hk
              simp only [h7]
              clear h7
              set_option maxRecDepth 20000 in
              go_wp2_with fail
              exact postS_mk _ rfl rfl (oneS_keep (by decide) hs)
            · obtain ⟨⟨(h7 : vals 7 = .bool false), t7⟩, _⟩ := hk
              simp only [h7]
              clear h7
              set_option maxRecDepth 20000 in
              go_wp2_with fail
              exact postS_mk _ rfl rfl (oneS_keep (by decide) hs)
            · obtain ⟨⟨(h10 : vals 10 = .slice (some ⟨bb, off, none⟩) len cap), t10⟩, ⟨(h11 : vals 11 = .int .i64 (k2 : Int)), t11⟩, ⟨(h7 : vals 7 = .bool false), t7⟩, _⟩ := hk
              simp only [h10, h11, h7]
              clear h10 h11 h7
              set_option maxRecDepth 20000 in
              go_wp2_with fail
              exact postS_mk _ rfl rfl (oneS_keep (by decide) hs)
            · obtain ⟨⟨(h12 : vals 12 = .pointer (some ⟨bb, off + k2, none⟩)), t12⟩, ⟨(h7 : vals 7 = .bool false), t7⟩, _⟩ := hk
              simp only [h12, h7]
              clear h12 h7
              have q := (CELLS.out dn x hs).2
              set_option maxRecDepth 20000 in
              go_wp2_with fail
              exact postS_mk _ rfl rfl (oneS_keep (by decide) hs)
            · obtain ⟨⟨(h13 : vals 13 = .int .i64 z), t13⟩, ⟨(h7 : vals 7 = .bool false), t7⟩, _⟩ := hk
              simp only [h13, h7]
              clear h13 h7
              set_option maxRecDepth 20000 in
              go_wp2_with fail
              exact postS_mk _ rfl rfl (oneS_keep (by decide) hs)
            · obtain ⟨⟨(h14 : vals 14 = .int .i64 (z / 256)), t14⟩, ⟨(h7 : vals 7 = .bool false), t7⟩, _⟩ := hk
              simp only [h14, h7]
              clear h14 h7
              set_option maxRecDepth 20000 in
              go_wp2_with fail
              exact postS_mk _ rfl rfl (oneS_keep (by decide) hs)
            · obtain ⟨⟨(h9 : vals 9 = .int .i64 zh), t9⟩, ⟨(h15 : vals 15 = .int .i64 zh), t15⟩, ⟨(h7 : vals 7 = .bool false), t7⟩, _⟩ := hk
              simp only [h9, h15, h7]
              clear h9 h15 h7
              set_option maxRecDepth 20000 in
              go_wp2_with fail
              exact postS_mk _ rfl rfl (oneS_keep (by decide) hs)
            · obtain ⟨⟨(h7 : vals 7 = .bool false), t7⟩, ⟨(h16 : vals 16 = .bool false), t16⟩, _⟩ := hk
              simp only [h7, h16]
              clear h7 h16
              set_option maxRecDepth 20000 in
              go_wp2_with fail
              exact postS_mk _ rfl rfl (oneS_keep (by decide) hs)
          rintro vals dn x hall hs hv
          have hb := (EB x).2 (oneS_behind hs (hall 9 (by decide)))
          obtain ⟨_, _, _, _, _, _, _, _, _, _, _, _, _, _, _, _, _, (h17 : vals 17 = .bool false), _⟩ := hv
          simp only [h17]
          clear h17 hs hall CELLS RH
          have X12 := hide hb.1
          have G12 := hide hb.2.1
          have B12 := hide hb.2.2
          clear hb EB XA GA BA
          set_option maxRecDepth 20000 in
          go_wp2_with fail
          go_roundw
          case rel => exact ⟨k2 + 1, by omega, by go_num, X12.out, G12.out, B12.out⟩
          case measure => simp [intOf]; omega
        · obtain rfl : k2 = k := by omega
          have c0 := (cell_of_row wr g 0 _ _ _ G9.out).trans rfl
          have cs : wr.cell? ⟨b, 0, none⟩ = some (.int .i64 2) := X9.out.1.get 0 rfl 0 (by decide) (a := 0) (by rw [X9.out.isB.off 0 (a := 0) rfl]) (by decide)
          have c5 : wr.cell? ⟨b, 6, none⟩ = some (.int .i64 (R7 5)) := X9.out.1.get 0 rfl 6 (by decide) (a := 6) (by rw [X9.out.isB.off 0 (a := 0) rfl]) (by decide)
          rw [RR7.out] at c5
          set_option maxRecDepth 20000 in
          go_wp2_with fail
          go_ret
          exact ⟨rfl, B9.out⟩
theorem busPicture_walk (a0 : Int) (a1 : Option Addr) (len1 cap1 : Nat) (z1 : List Int) (a2 : Int) (W : World) (w0 : (Lit.int .i64 a0).wf = true) (w1 : IsRow .i64 W a1 len1 cap1 z1) (w2 : (Lit.int .i64 a2).wf = true) (hL : Tabs W ∧ HasErr W) :
    Calls Tryz.prog 7 #[.int .i64 a0, .slice a1 len1 cap1, .int .i64 a2] W fun e w' => e = .returned (.bool true) ∧ Below W.heap.size W w' := by
  obtain ⟨S, hS, eS, iS⟩ := step_of (a2 % 4) (by omega) (by omega)
  have ll : len1 ≤ 9223372036854775807 := by
    rcases w1 with ⟨_, h, _, _⟩ | ⟨_, _, h1, h2, _⟩
    · omega
    · have h3 : maxLen ≤ 9223372036854775807 := by decide
      omega
  by_cases hm : len1 ≤ 40
  · exact picture_short a0 a2 (a0 % 16384) (a2 % 4) S a1 len1 cap1 z1 W w1 (and_16383 a0) (by omega) (by omega) (and_3 a2) (by omega) (by omega) hS eS iS hm hL
  · exact picture_long a0 a2 (a0 % 16384) (a2 % 4) S a1 len1 cap1 z1 W w1 (and_16383 a0) (by omega) (by omega) (and_3 a2) (by omega) (by omega) hS eS iS hm ll 40 (by decide) (by decide) hL
end Go.Proofs.YtpjhiopmdkieiaaGreatDoor
