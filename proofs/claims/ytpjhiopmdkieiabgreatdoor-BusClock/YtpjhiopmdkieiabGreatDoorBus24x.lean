/- The program's machine: reads and writes of memory by their places. -/
import Derived.Test.YtpjhiopmdkieiabGreatDoorBus24q
import Derived.Test.YtpjhiopmdkieiabGreatDoorBus24w
import Derived.Test.YtpjhiopmdkieiabGreatDoorBus24n
namespace Go.Proofs.YtpjhiopmdkieiabGreatDoor.L24
open Go.Proofs.YtpjhiopmdkieiabGreatDoor.B4 Go.Proofs.YtpjhiopmdkieiabGreatDoor.C3 Go.Proofs.YtpjhiopmdkieiabGreatDoor.G6 Go.Proofs.YtpjhiopmdkieiabGreatDoor.M5 Go.Proofs.YtpjhiopmdkieiabGreatDoor.P22 Go.Proofs.YtpjhiopmdkieiabGreatDoor.R15 Go.Proofs.YtpjhiopmdkieiabGreatDoor.W13
open Go.RowKit
set_option linter.unusedVariables false

theorem rd_ram {w : World} {b v c d : Nat} {L : List (Nat × (Nat → Value))} {bs : List Int} {f : Nat → Int} {wr rd st lo bu : Int} (h : HasX w b v c d L bs f wr rd st lo bu) (p : Int) (p0 : 2031616 ≤ p) (p1 : p < 2064384) (a : Int) (ha : p % 8192 = a) {m : Nat → Value} (h8 : L[8]? = some (8192, m)) {x : Int} (hm : m a.toNat = .int .u8 x) (x0 : 0 ≤ x) (x1 : x < 256) : Calls Tryz.prog 6 #[.pointer (some ⟨b, 0, none⟩), .int .i64 p] w fun e w' => e = Ending.returned (.int .i64 x) ∧ HasX w' b v c d L bs f wr rd st lo bu ∧ OnlyE (EX b v) w w' := by
  refine read_ram h p 0 a (fun w _ => by have := where_ram p w p0 p1; rw [ha] at this; exact this) (R := fun w' => HasX w' b v c d L bs f wr rd st lo bu ∧ OnlyE (EX b v) w w') fun w1 b1 => ?_
  exact (readRam_is (h.next b1) 1 0 a a.toNat (by omega) (by omega) h8 hm x0 x1).mono fun e w' ⟨e1, x2, o2⟩ => ⟨e1, x2, (ex_below b1).trans o2⟩
theorem wr_ram {w : World} {b v c d : Nat} {L : List (Nat × (Nat → Value))} {bs : List Int} {f : Nat → Int} {wr rd st lo bu : Int} (h : HasX w b v c d L bs f wr rd st lo bu) (p : Int) (p0 : 2031616 ≤ p) (p1 : p < 2064384) (a : Int) (ha : p % 8192 = a) {m : Nat → Value} (h8 : L[8]? = some (8192, m)) (n y : Int) (hy : n % 256 = y) : Calls Tryz.prog 5 #[.pointer (some ⟨b, 0, none⟩), .int .i64 p, .int .i64 n] w fun e w' => e = Ending.returned (.tuple #[]) ∧ HasX w' b v c d (L.set 8 (8192, updC m a.toNat (.int .u8 y))) bs f wr rd st lo bu ∧ OnlyE (EX b v) w w' :=
  write_ram h p n 0 a (fun w _ => by have := where_ram p w p0 p1; rw [ha] at this; exact this) y hy (by omega) (by omega) h8
theorem rd_open {w : World} {b v c d : Nat} {L : List (Nat × (Nat → Value))} {bs : List Int} {f : Nat → Int} {wr rd st lo bu : Int} (h : HasX w b v c d L bs f wr rd st lo bu) (p : Int) (p0 : 1048576 ≤ p) (p1 : p < 2031616 ∨ 2064384 ≤ p) (p2 : p < 2088960) {x : Int} (hx : x = 255) : Calls Tryz.prog 6 #[.pointer (some ⟨b, 0, none⟩), .int .i64 p] w fun e w' => e = Ending.returned (.int .i64 x) ∧ HasX w' b v c d L bs f wr rd st lo bu ∧ OnlyE (EX b v) w w' := by
  subst hx
  refine read_open h p 0 0 (fun w _ => where_open p w p0 p1 p2) (R := fun w' => HasX w' b v c d L bs f wr rd st lo bu ∧ OnlyE (EX b v) w w') fun w1 b1 => ?_
  exact (readOpen_is 8 0 0).mono fun e w' ⟨e1, b2⟩ => ⟨e1, h.next (bnext b1 b2), ex_below (bnext b1 b2)⟩
theorem wr_open {w : World} {b v c d : Nat} {L : List (Nat × (Nat → Value))} {bs : List Int} {f : Nat → Int} {wr rd st lo bu : Int} (h : HasX w b v c d L bs f wr rd st lo bu) (p : Int) (p0 : 1048576 ≤ p) (p1 : p < 2031616 ∨ 2064384 ≤ p) (p2 : p < 2088960) (n : Int) : Calls Tryz.prog 5 #[.pointer (some ⟨b, 0, none⟩), .int .i64 p, .int .i64 n] w fun e w' => e = Ending.returned (.tuple #[]) ∧ HasX w' b v c d L bs f wr rd st lo bu ∧ OnlyE (EX b v) w w' :=
  write_open h p n 0 0 (fun w _ => where_open p w p0 p1 p2) _ rfl
/-- A card's byte, whatever is asked: one number. -/
theorem byte_is {w : World} {c d : Nat} {bs : List Int} (h1 : bs.length ≤ 10000000) (p q : Int) : ∃ x, 0 ≤ x ∧ x < 256 ∧ ∀ w, HasCard w c d bs → Calls Tryz.prog 56 #[.pointer (some ⟨c, 0, none⟩), .int .i64 p, .int .i64 q] w fun e w' => e = Ending.returned (.int .i64 x) ∧ w' = w := by
  by_cases hb : ∀ z ∈ bs, 0 ≤ z ∧ z < 256
  · by_cases ho : p < 0 ∨ ((bs.length / 8192 : Nat) : Int) ≤ p ∨ q < 0 ∨ 8192 ≤ q
    · exact ⟨255, by decide, by decide, fun w h => byte_out ⟨c, 0, none⟩ (some ⟨d, 0, none⟩) bs.length bs.length p q w (by omega) h.1 ho⟩
    · have hl : p.toNat * 8192 + q.toNat < bs.length := by omega
      have hz := hb (bs.getD (p.toNat * 8192 + q.toNat) 0) (by rw [List.getD_eq_getElem?_getD, List.getElem?_eq_getElem hl]; exact List.getElem_mem hl)
      refine ⟨bs.getD (p.toNat * 8192 + q.toNat) 0, hz.1, hz.2, fun w h => ?_⟩
      have k := byte_in ⟨c, 0, none⟩ d 0 bs.length bs.length p.toNat q.toNat (bs.getD (p.toNat * 8192 + q.toNat) 0) w (by omega) h.1 (by omega) (by omega) (by rw [Nat.zero_add]; exact (h.2.1.cell _ hl).1) (by omega) (by omega)
      rw [show ((p.toNat : Nat) : Int) = p by omega, show ((q.toNat : Nat) : Int) = q by omega] at k
      exact k
  · exact ⟨0, by decide, by decide, fun w h => absurd h.2.1.2 hb⟩
theorem rd_rom {w : World} {b v c d : Nat} {L : List (Nat × (Nat → Value))} {bs : List Int} {f : Nat → Int} {wr rd st lo bu : Int} (h : HasX w b v c d L bs f wr rd st lo bu) (p : Int) (p0 : 0 ≤ p) (p1 : p < 1048576) {lt : Int} (h7 : L[7]? = some (1, fun _ => Value.int .i64 lt)) {x : Int} (KB : ∀ w, HasCard w c d bs → Calls Tryz.prog 56 #[.pointer (some ⟨c, 0, none⟩), .int .i64 (pageOf ((bs.length / 8192 : Nat) : Int) lt (p / 8192)), .int .i64 (p % 8192)] w fun e w' => e = Ending.returned (.int .i64 x) ∧ w' = w) : Calls Tryz.prog 6 #[.pointer (some ⟨b, 0, none⟩), .int .i64 p] w fun e w' => e = Ending.returned (.int .i64 x) ∧ HasX w' b v c d L bs f wr rd st lo bu ∧ OnlyE (EX b v) w w' := by
  refine read_rom h p (p / 8192) (p % 8192) (fun w _ => where_rom p w p0 p1) (R := fun w' => HasX w' b v c d L bs f wr rd st lo bu ∧ OnlyE (EX b v) w w') fun w1 b1 => ?_
  exact (readRom_is (h.next b1) 0 (p / 8192) (p % 8192) h7 rfl KB).mono fun e w' ⟨e1, x2, o2⟩ => ⟨e1, x2, (ex_below b1).trans o2⟩
theorem wr_rom {w : World} {b v c d : Nat} {L : List (Nat × (Nat → Value))} {bs : List Int} {f : Nat → Int} {wr rd st lo bu : Int} (h : HasX w b v c d L bs f wr rd st lo bu) (p : Int) (p0 : 0 ≤ p) (p1 : p < 1048576) {lt : Int} (h7 : L[7]? = some (1, fun _ => Value.int .i64 lt)) (hn : bs.length / 8192 ≠ 320) (n : Int) : Calls Tryz.prog 5 #[.pointer (some ⟨b, 0, none⟩), .int .i64 p, .int .i64 n] w fun e w' => e = Ending.returned (.tuple #[]) ∧ HasX w' b v c d L bs f wr rd st lo bu ∧ OnlyE (EX b v) w w' := by
  have k := write_rom h p n (p / 8192) (p % 8192) (fun w _ => where_rom p w p0 p1) _ rfl h7 rfl
  have e : latchOf ((bs.length / 8192 : Nat) : Int) lt (p % 8192) = lt := by
    unfold latchOf
    rw [if_neg (by omega)]
  rw [e, set_id h7] at k
  exact k
end Go.Proofs.YtpjhiopmdkieiabGreatDoor.L24
