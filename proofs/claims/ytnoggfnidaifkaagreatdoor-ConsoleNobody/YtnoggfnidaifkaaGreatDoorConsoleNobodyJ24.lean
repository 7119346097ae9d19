/- The program's machine in a state: what is read of it, and what a write leaves (all but the picture's ports). -/
import Derived.Test.YtnoggfnidaifkaaGreatDoorConsoleNobodyJ23
namespace Go.Proofs.YtnoggfnidaifkaaGreatDoor.L24
set_option maxRecDepth 20000
open B4 C3 G6 I11 J23 M5 P22 R15 T10 V12 W13
open Go.RowKit
set_option linter.unusedVariables false
theorem high_1 (hd c : Int) (h0 : 0 ≤ hd) (h1 : hd < 256) (c0 : 0 ≤ c) (c1 : c < 128) : bits .or .i64 (bits .and .i64 hd 128) c = hd / 128 * 128 + c := by
  obtain ⟨k, rfl⟩ : ∃ k : Nat, hd = (k : Int) := ⟨hd.toNat, by omega⟩
  have hk : k < 256 := by omega
  have q : ∀ x : Fin 256, bits .and .i64 (x.val : Int) 128 = (x.val : Int) / 128 * 128 := by decide +kernel
  rw [show bits .and .i64 (k : Int) 128 = (k : Int) / 128 * 128 from q ⟨k, hk⟩]
  exact or_add 7 _ c (by omega) (by omega) (by omega) c0 (by omega) (by omega)
theorem high_5 (hd c : Int) (h0 : 0 ≤ hd) (h1 : hd < 256) (c0 : 0 ≤ c) (c1 : c < 8) : bits .or .i64 (bits .and .i64 hd 248) c = hd / 8 * 8 + c := by
  obtain ⟨k, rfl⟩ : ∃ k : Nat, hd = (k : Int) := ⟨hd.toNat, by omega⟩
  have hk : k < 256 := by omega
  have q : ∀ x : Fin 256, bits .and .i64 (x.val : Int) 248 = (x.val : Int) / 8 * 8 := by decide +kernel
  rw [show bits .and .i64 (k : Int) 248 = (k : Int) / 8 * 8 from q ⟨k, hk⟩]
  exact or_add 3 _ c (by omega) (by omega) (by omega) c0 (by omega) (by omega)
theorem p_rom {w : World} {b v c d : Nat} {bs : List Int} {Z : Nat → Nat → Int} (h : HasP w b v c d bs Z) (g : GoodZ Z) (p : Int) (hn : known ((bs.length / 8192 : Nat) : Int) = true) (p0 : 0 ≤ p) (p1 : p < 1048576) : Calls Tryz.prog 58 #[.pointer (some ⟨b, 0, none⟩), .int .i64 p] w fun e w' => e = Ending.returned (.int .i64 (romB bs Z p)) ∧ HasP w' b v c d bs Z ∧ OnlyE (EX b v) w w' := by
  have k := page_in hn (Z 7 0) (p / 8192).toNat (by omega)
  rw [show (((p / 8192).toNat : Nat) : Int) = p / 8192 by omega] at k
  refine rd_rom h p p0 p1 (lt := Z 7 0) rfl fun w' hc => ?_
  unfold romB
  generalize pageOf ((bs.length / 8192 : Nat) : Int) (Z 7 0) (p / 8192) = q at k ⊢
  have hl : (q * 8192 + p % 8192).toNat < bs.length := by omega
  have hz := (hc.2.1.cell _ hl)
  have e := byte_in ⟨c, 0, none⟩ d 0 bs.length bs.length q.toNat (p % 8192).toNat (bs.getD (q * 8192 + p % 8192).toNat 0) w' (by have := h.2.2.2.2.2.2.2.2.1.2; omega) hc.1 (by omega) (by omega) (by rw [Nat.zero_add, show q.toNat * 8192 + (p % 8192).toNat = (q * 8192 + p % 8192).toNat by omega]; exact hz.1) hz.2.1 hz.2.2
  rw [show ((q.toNat : Nat) : Int) = q by omega, show (((p % 8192).toNat : Nat) : Int) = p % 8192 by omega] at e
  exact e
theorem p_ram {w : World} {b v c d : Nat} {bs : List Int} {Z : Nat → Nat → Int} (h : HasP w b v c d bs Z) (g : GoodZ Z) (p : Int) (p0 : 2031616 ≤ p) (p1 : p < 2064384) : Calls Tryz.prog 58 #[.pointer (some ⟨b, 0, none⟩), .int .i64 p] w fun e w' => e = Ending.returned (.int .i64 (Z 8 (p % 8192).toNat)) ∧ HasP w' b v c d bs Z ∧ OnlyE (EX b v) w w' := rd_ram h p p0 p1 (p % 8192) rfl (m := bv (Z 8)) rfl rfl (g.2.2.2.1 _).1 (g.2.2.2.1 _).2
theorem p_open {w : World} {b v c d : Nat} {bs : List Int} {Z : Nat → Nat → Int} (h : HasP w b v c d bs Z) (g : GoodZ Z) (p : Int) (hk : kindW p = 8) : Calls Tryz.prog 58 #[.pointer (some ⟨b, 0, none⟩), .int .i64 p] w fun e w' => e = Ending.returned (.int .i64 255) ∧ HasP w' b v c d bs Z ∧ OnlyE (EX b v) w w' := by
  refine read_open h p _ _ (where_at p 8 _ _ hk rfl rfl) (R := fun w' => HasP w' b v c d bs Z ∧ OnlyE (EX b v) w w') fun w1 b1 => ?_
  exact (readOpen_is 8 _ _).mono fun e w' ⟨e1, b2⟩ => ⟨e1, h.next (bnext b1 b2), ex_below (bnext b1 b2)⟩
theorem p_hold {w : World} {b v c d : Nat} {bs : List Int} {Z : Nat → Nat → Int} (h : HasP w b v c d bs Z) (g : GoodZ Z) (p : Int) (hk : kindW p = 4) : Calls Tryz.prog 58 #[.pointer (some ⟨b, 0, none⟩), .int .i64 p] w fun e w' => e = Ending.returned (.int .i64 (Z 16 0)) ∧ HasP w' b v c d bs Z ∧ OnlyE (EX b v) w w' := rd_hold h p _ _ hk rfl rfl rfl
theorem p_irq0 {w : World} {b v c d : Nat} {bs : List Int} {Z : Nat → Nat → Int} (h : HasP w b v c d bs Z) (g : GoodZ Z) (p : Int) (hk : kindW p = 7) (ha : atW p < 2) : Calls Tryz.prog 58 #[.pointer (some ⟨b, 0, none⟩), .int .i64 p] w fun e w' => e = Ending.returned (.int .i64 (Z 16 0)) ∧ HasP w' b v c d bs Z ∧ OnlyE (EX b v) w w' := by
  refine read_irq h p _ _ (where_at p 7 _ _ hk rfl rfl) (R := fun w' => HasP w' b v c d bs Z ∧ OnlyE (EX b v) w w') fun w1 b1 => ?_
  exact (readIrq_no (h.next b1) 7 _ (atW p) (by omega) (by omega) rfl).mono fun e w' ⟨e1, x2, o2⟩ => ⟨e1, x2, (ex_below b1).trans o2⟩
theorem p_timer {w : World} {b v c d : Nat} {bs : List Int} {Z : Nat → Nat → Int} (h : HasP w b v c d bs Z) (g : GoodZ Z) (p : Int) (hk : kindW p = 5) (c0 : 0 ≤ setZ Z 12 1) (c1 : setZ Z 12 1 < 128) : Calls Tryz.prog 58 #[.pointer (some ⟨b, 0, none⟩), .int .i64 p] w fun e w' => e = Ending.returned (.int .i64 (Z 16 0 / 128 * 128 + setZ Z 12 1)) ∧ HasP w' b v c d bs (holdZ (setZ Z) (Z 16 0 / 128 * 128 + setZ Z 12 1)) ∧ OnlyE (EX b v) w w' :=
  rd_timer h p _ _ hk rfl rfl (r := Z 12 0) (n := Z 12 1) (o := isB (Z 12 2)) (q := Z 12 3) (t := Z 17 0) (m := Z 13 0) (l := Z 13 1) rfl rfl rfl (hd := Z 16 0) rfl rfl (high_1 _ _ g.2.2.2.2.2.2.2.2.2.1.1 g.2.2.2.2.2.2.2.2.2.1.2 c0 c1)
theorem p_pad {w : World} {b v c d : Nat} {bs : List Int} {Z : Nat → Nat → Int} (h : HasP w b v c d bs Z) (g : GoodZ Z) (p : Int) (hk : kindW p = 6) : Calls Tryz.prog 58 #[.pointer (some ⟨b, 0, none⟩), .int .i64 p] w fun e w' => e = Ending.returned (.int .i64 (J23.rdOf (isB (Z 14 0)) (isB (Z 14 2)) (Z 14 3) (fun n => Z 15 (2 * n)) (fun n => isB (Z 15 (2 * n + 1))) false)) ∧ HasP w' b v c d bs (holdZ Z (J23.rdOf (isB (Z 14 0)) (isB (Z 14 2)) (Z 14 3) (fun n => Z 15 (2 * n)) (fun n => isB (Z 15 (2 * n + 1))) false)) ∧ OnlyE (EX b v) w w' := by
  refine read_pad h p _ _ (where_at p 6 _ _ hk rfl rfl) (R := fun w' => HasP w' b v c d bs (holdZ Z (J23.rdOf (isB (Z 14 0)) (isB (Z 14 2)) (Z 14 3) (fun n => Z 15 (2 * n)) (fun n => isB (Z 15 (2 * n + 1))) false)) ∧ OnlyE (EX b v) w w') fun w1 b1 => ?_
  exact (readPad_is (h.next b1) 6 _ (atW p) (hd := Z 16 0) rfl (po := pvZ (Z 14)) rfl (pa := pcZ (Z 15)) rfl (fun w => J23.read_any (isB (Z 14 0)) (isB (Z 14 1)) (isB (Z 14 2)) (Z 14 3) (fun n => Z 15 (2 * n)) (fun n => isB (Z 15 (2 * n + 1))) false w)).mono fun e w' ⟨e1, x2, o2⟩ => ⟨e1, x2, (ex_below b1).trans o2⟩
theorem p_irq {w : World} {b v c d : Nat} {bs : List Int} {Z : Nat → Nat → Int} (h : HasP w b v c d bs Z) (g : GoodZ Z) (p : Int) (hk : kindW p = 7) (ha : atW p = 2 ∨ atW p = 3) : Calls Tryz.prog 58 #[.pointer (some ⟨b, 0, none⟩), .int .i64 p] w fun e w' => e = Ending.returned (.int .i64 (Z 16 0 / 8 * 8 + readOf (setZ Z 13 0) (setZ Z 13 1) (atW p))) ∧ HasP w' b v c d bs (holdZ (setZ Z) (Z 16 0 / 8 * 8 + readOf (setZ Z 13 0) (setZ Z 13 1) (atW p))) ∧ OnlyE (EX b v) w w' := by
  have hr : 0 ≤ readOf (setZ Z 13 0) (setZ Z 13 1) (atW p) ∧ readOf (setZ Z 13 0) (setZ Z 13 1) (atW p) < 8 := by
    unfold readOf
    split
    · omega
    · split <;> omega
  exact rd_irq h p _ _ hk rfl rfl ha (r := Z 12 0) (n := Z 12 1) (o := isB (Z 12 2)) (q := Z 12 3) (t := Z 17 0) (m := Z 13 0) (l := Z 13 1) rfl rfl rfl (hd := Z 16 0) rfl rfl (high_5 _ _ g.2.2.2.2.2.2.2.2.2.1.1 g.2.2.2.2.2.2.2.2.2.1.2 hr.1 hr.2)
theorem p_status {w : World} {b v c d : Nat} {bs : List Int} {Z : Nat → Nat → Int} (h : HasP w b v c d bs Z) (g : GoodZ Z) (p : Int) (hk : kindW p = 2) (ha : atW p = 0) : Calls Tryz.prog 58 #[.pointer (some ⟨b, 0, none⟩), .int .i64 p] w fun e w' => e = Ending.returned (.int .i64 (Z 3 0)) ∧ HasP w' b v c d bs (lookZ Z) ∧ OnlyE (EX b v) w w' := rd_status h p _ hk rfl ha (s := Z 3 0) (m := Z 13 0) (l := Z 13 1) rfl rfl (by have := g.2.2.1; omega)
theorem p_vdc_no {w : World} {b v c d : Nat} {bs : List Int} {Z : Nat → Nat → Int} (h : HasP w b v c d bs Z) (g : GoodZ Z) (p : Int) (hk : kindW p = 2) (a0 : ¬ atW p = 0) (a2 : ¬ atW p = 2) (a3 : ¬ atW p = 3) : Calls Tryz.prog 58 #[.pointer (some ⟨b, 0, none⟩), .int .i64 p] w fun e w' => e = Ending.returned (.int .i64 0) ∧ HasP w' b v c d bs Z ∧ OnlyE (EX b v) w w' := by
  refine read_vdc h p _ _ (where_at p 2 _ _ hk rfl rfl) (R := fun w' => HasP w' b v c d bs Z ∧ OnlyE (EX b v) w w') fun w1 b1 => ?_
  exact (readVdc_no 2 _ (atW p) a0 a2 a3).mono fun e w' ⟨e1, b2⟩ => ⟨e1, h.next (bnext b1 b2), ex_below (bnext b1 b2)⟩
theorem p_low {w : World} {b v c d : Nat} {bs : List Int} {Z : Nat → Nat → Int} (h : HasP w b v c d bs Z) (g : GoodZ Z) (p : Int) (hk : kindW p = 2) (ha : atW p = 2) : Calls Tryz.prog 58 #[.pointer (some ⟨b, 0, none⟩), .int .i64 p] w fun e w' => e = Ending.returned (.int .i64 (Z 19 4 % 256)) ∧ HasP w' b v c d bs Z ∧ OnlyE (EX b v) w w' := rd_low h p _ hk rfl ha rfl
theorem p_high {w : World} {b v c d : Nat} {bs : List Int} {Z : Nat → Nat → Int} (h : HasP w b v c d bs Z) (g : GoodZ Z) (p : Int) (hk : kindW p = 2) (ha : atW p = 3) : Calls Tryz.prog 58 #[.pointer (some ⟨b, 0, none⟩), .int .i64 p] w fun e w' => e = Ending.returned (.int .i64 (Z 19 4 / 256 % 256)) ∧ HasP w' b v c d bs (nextZ Z) ∧ OnlyE (EX b v) w w' :=
  rd_high h p _ hk rfl ha g.2.2.2.2.2.2.2.2.2.2.2.2.2.1.1 g.2.2.2.2.2.2.2.2.2.2.2.2.2.1.2 (by have := g.2.2.2.2.2.2.2.2.2.2.2.2.2.2.1.1; omega) g.2.2.2.2.2.2.2.2.2.2.2.2.2.2.1.2 rfl rfl rfl
theorem pvceR_any (g : Nat → Int) (a : Int) (g0 : 0 ≤ g 1 ∧ g 1 < 512) (g1 : ∀ j, 0 ≤ g (j + 2) ∧ g (j + 2) < 512) (w : World) : Calls Tryz.prog 149 #[.agg (rowF (iv g) 514), .int .i64 a] w fun e w' => e = Ending.returned (.tuple #[.int .i64 (vceR g a), .agg (rowF (iv (vceN g a)) 514)]) ∧ Below w.heap.size w w' := by
  have hi : g 1 % 512 = ((g 1).toNat : Int) := by omega
  have hf := g1 (g 1).toNat
  unfold vceR vceN
  conv => arg 3; rw [← vF_eta g, vF_row]
  by_cases a4 : a = 4
  · subst a4
    rw [if_pos rfl, if_neg (by decide)]
    conv => arg 5; rw [← vF_eta g, vF_row]
    exact V12.read_4 (g 0) (g 1) (fun j => g (j + 2)) _ hi w
  rw [if_neg a4]
  by_cases a5 : a = 5
  · subst a5
    rw [if_pos rfl, if_pos rfl, vF_row]
    have k := V12.read_5 (g 0) (g 1) (fun j => g (j + 2)) _ hi ((g 1 + 1) % 512) (by omega) w
    rw [show g ((g 1).toNat + 2) % 512 = g ((g 1).toNat + 2) by omega] at k
    exact k
  rw [if_neg a5, if_neg a5]
  conv => arg 5; rw [← vF_eta g, vF_row]
  exact V12.read_no a (g 0) (g 1) (fun j => g (j + 2)) _ hi a4 a5 w
theorem p_vceR {w : World} {b v c d : Nat} {bs : List Int} {Z : Nat → Nat → Int} (h : HasP w b v c d bs Z) (g : GoodZ Z) (p : Int) (hk : kindW p = 3) : Calls Tryz.prog 58 #[.pointer (some ⟨b, 0, none⟩), .int .i64 p] w fun e w' => e = Ending.returned (.int .i64 (vceR (Z 10) (atW p))) ∧ HasP w' b v c d bs (upZ Z 10 (vceN (Z 10) (atW p))) ∧ OnlyE (EX b v) w w' := by
  refine read_vce h p _ _ (where_at p 3 _ _ hk rfl rfl) (R := fun w' => HasP w' b v c d bs (upZ Z 10 (vceN (Z 10) (atW p))) ∧ OnlyE (EX b v) w w') fun w1 b1 => ?_
  exact (readVce_is (h.next b1) 3 _ (atW p) (q := iv (Z 10)) (q' := iv (vceN (Z 10) (atW p))) rfl (fun w => pvceR_any _ _ g.2.2.2.2.1 g.2.2.2.2.2.1 w) (fun _ _ => rfl)).mono fun e w' ⟨e1, x2, o2⟩ => ⟨e1, x2, (ex_below b1).trans o2⟩
end Go.Proofs.YtnoggfnidaifkaaGreatDoor.L24
