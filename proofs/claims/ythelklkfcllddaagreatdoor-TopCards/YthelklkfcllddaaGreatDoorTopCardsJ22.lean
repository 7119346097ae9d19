/- The program's machine: reads and writes of memory by their places. -/
import Derived.Test.YthelklkfcllddaaGreatDoorTopCardsJ20
import Derived.Test.YthelklkfcllddaaGreatDoorTopCardsJ21
import Derived.Test.YthelklkfcllddaaGreatDoorTopCardsJ17
namespace Go.Proofs.YthelklkfcllddaaGreatDoor.L24
set_option maxRecDepth 20000
open B4 C3 G6 M5 P22 R15 W13
open Go.RowKit
set_option linter.unusedVariables false
theorem rd_ram {w : World} {b v c d : Nat} {L : List (Nat × (Nat → Value))} {bs : List Int} {f : Nat → Int} {wr rd st lo bu : Int} (h : HasX w b v c d L bs f wr rd st lo bu) (p : Int) (p0 : 2031616 ≤ p) (p1 : p < 2064384) (a : Int) (ha : p % 8192 = a) {m : Nat → Value} (h8 : L[8]? = some (8192, m)) {x : Int} (hm : m a.toNat = .int .u8 x) (x0 : 0 ≤ x) (x1 : x < 256) : Calls Tryz.prog 10 #[.pointer (some ⟨b, 0, none⟩), .int .i64 p] w fun e w' => e = Ending.returned (.int .i64 x) ∧ HasX w' b v c d L bs f wr rd st lo bu ∧ OnlyE (EX b v) w w' := by
  refine read_ram h p 0 a (fun w _ => by have := where_ram p w p0 p1; rw [ha] at this; exact this) (R := fun w' => HasX w' b v c d L bs f wr rd st lo bu ∧ OnlyE (EX b v) w w') fun w1 b1 => ?_
  exact (readRam_is (h.next b1) 1 0 a a.toNat (by omega) (by omega) h8 hm x0 x1).mono fun e w' ⟨e1, x2, o2⟩ => ⟨e1, x2, (ex_below b1).trans o2⟩
theorem rd_rom {w : World} {b v c d : Nat} {L : List (Nat × (Nat → Value))} {bs : List Int} {f : Nat → Int} {wr rd st lo bu : Int} (h : HasX w b v c d L bs f wr rd st lo bu) (p : Int) (p0 : 0 ≤ p) (p1 : p < 1048576) {lt : Int} (h7 : L[7]? = some (1, fun _ => Value.int .i64 lt)) {x : Int} (KB : ∀ w, HasCard w c d bs → Calls Tryz.prog 53 #[.pointer (some ⟨c, 0, none⟩), .int .i64 (pageOf ((bs.length / 8192 : Nat) : Int) lt (p / 8192)), .int .i64 (p % 8192)] w fun e w' => e = Ending.returned (.int .i64 x) ∧ w' = w) : Calls Tryz.prog 10 #[.pointer (some ⟨b, 0, none⟩), .int .i64 p] w fun e w' => e = Ending.returned (.int .i64 x) ∧ HasX w' b v c d L bs f wr rd st lo bu ∧ OnlyE (EX b v) w w' := by
  refine read_rom h p (p / 8192) (p % 8192) (fun w _ => where_rom p w p0 p1) (R := fun w' => HasX w' b v c d L bs f wr rd st lo bu ∧ OnlyE (EX b v) w w') fun w1 b1 => ?_
  exact (readRom_is (h.next b1) 0 (p / 8192) (p % 8192) h7 rfl KB).mono fun e w' ⟨e1, x2, o2⟩ => ⟨e1, x2, (ex_below b1).trans o2⟩
theorem wr_rom {w : World} {b v c d : Nat} {L : List (Nat × (Nat → Value))} {bs : List Int} {f : Nat → Int} {wr rd st lo bu : Int} (h : HasX w b v c d L bs f wr rd st lo bu) (p : Int) (p0 : 0 ≤ p) (p1 : p < 1048576) {lt : Int} (h7 : L[7]? = some (1, fun _ => Value.int .i64 lt)) (hn : bs.length / 8192 ≠ 320) (n : Int) : Calls Tryz.prog 11 #[.pointer (some ⟨b, 0, none⟩), .int .i64 p, .int .i64 n] w fun e w' => e = Ending.returned (.tuple #[]) ∧ HasX w' b v c d L bs f wr rd st lo bu ∧ OnlyE (EX b v) w w' := by
  have k := write_rom h p n (p / 8192) (p % 8192) (fun w _ => where_rom p w p0 p1) _ rfl h7 rfl
  have e : latchOf ((bs.length / 8192 : Nat) : Int) lt (p % 8192) = lt := by
    unfold latchOf
    rw [if_neg (by omega)]
  rw [e, set_id h7] at k
  exact k
end Go.Proofs.YthelklkfcllddaaGreatDoor.L24
