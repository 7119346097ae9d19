/- The program's machine: its parts under letters, as the laws meet them. -/
import Derived.Test.YtpjhiopmdkieiabGreatDoorBus24y
namespace Go.Proofs.YtpjhiopmdkieiabGreatDoor.L24
open Go.Proofs.YtpjhiopmdkieiabGreatDoor.B4 Go.Proofs.YtpjhiopmdkieiabGreatDoor.C3 Go.Proofs.YtpjhiopmdkieiabGreatDoor.G6 Go.Proofs.YtpjhiopmdkieiabGreatDoor.I11 Go.Proofs.YtpjhiopmdkieiabGreatDoor.M5 Go.Proofs.YtpjhiopmdkieiabGreatDoor.P22 Go.Proofs.YtpjhiopmdkieiabGreatDoor.R15 Go.Proofs.YtpjhiopmdkieiabGreatDoor.T10 Go.Proofs.YtpjhiopmdkieiabGreatDoor.W13
open Go.RowKit
set_option linter.unusedVariables false

/-- Regs rg, Status s, Moved mv, Latch lt, Ram m, the sound ps, the timer tt, the interrupts k and l, the byte that is held hd, Lag t; else as New makes it. -/
def ML (v c : Nat) (rg : Nat → Int) (s : Int) (mv : Bool) (lt : Int) (m ps tt po : Nat → Value) (k l hd t : Int) : List (Nat × (Nat → Value)) :=
  [(21, iv rg), (1, fun _ => .pointer (some ⟨v, 0, none⟩)), (256, iv fun _ => 0), (1, fun _ => Value.int .i64 s), (1, fun _ => .bool false), (1, fun _ => .bool mv), (1, fun _ => .pointer (some ⟨c, 0, none⟩)), (1, fun _ => Value.int .i64 lt), (8192, m), (8, iv fl0), (514, iv fun _ => 0), (244, ps), (4, tt), (2, sv k l), (4, po), (10, a0C), (1, fun _ => Value.int .i64 hd), (1, fun _ => Value.int .i64 t)]
theorem lb_ml (v c : Nat) : LB v c = ML v c (fun _ => 0) 0 false 0 (fun _ => .int .u8 0) (iv freshF) (tv 0 0 false 0) p0C 0 0 255 0 := by
  unfold ML
  rw [← t0_tv, ← s0_sv]
  rfl
theorem ml_0 {v c : Nat} {rg : Nat → Int} {s : Int} {mv : Bool} {lt : Int} {m ps tt po : Nat → Value} {k l hd t : Int} : (ML v c rg s mv lt m ps tt po k l hd t)[0]? = some (21, iv rg) := rfl
theorem ml_3 {v c : Nat} {rg : Nat → Int} {s : Int} {mv : Bool} {lt : Int} {m ps tt po : Nat → Value} {k l hd t : Int} : (ML v c rg s mv lt m ps tt po k l hd t)[3]? = some (1, fun _ => Value.int .i64 s) := rfl
theorem ml_5 {v c : Nat} {rg : Nat → Int} {s : Int} {mv : Bool} {lt : Int} {m ps tt po : Nat → Value} {k l hd t : Int} : (ML v c rg s mv lt m ps tt po k l hd t)[5]? = some (1, fun _ => .bool mv) := rfl
theorem ml_7 {v c : Nat} {rg : Nat → Int} {s : Int} {mv : Bool} {lt : Int} {m ps tt po : Nat → Value} {k l hd t : Int} : (ML v c rg s mv lt m ps tt po k l hd t)[7]? = some (1, fun _ => Value.int .i64 lt) := rfl
theorem ml_8 {v c : Nat} {rg : Nat → Int} {s : Int} {mv : Bool} {lt : Int} {m ps tt po : Nat → Value} {k l hd t : Int} : (ML v c rg s mv lt m ps tt po k l hd t)[8]? = some (8192, m) := rfl
theorem ml_10 {v c : Nat} {rg : Nat → Int} {s : Int} {mv : Bool} {lt : Int} {m ps tt po : Nat → Value} {k l hd t : Int} : (ML v c rg s mv lt m ps tt po k l hd t)[10]? = some (514, iv fun _ => 0) := rfl
theorem ml_11 {v c : Nat} {rg : Nat → Int} {s : Int} {mv : Bool} {lt : Int} {m ps tt po : Nat → Value} {k l hd t : Int} : (ML v c rg s mv lt m ps tt po k l hd t)[11]? = some (244, ps) := rfl
theorem ml_12 {v c : Nat} {rg : Nat → Int} {s : Int} {mv : Bool} {lt : Int} {m ps tt po : Nat → Value} {k l hd t : Int} : (ML v c rg s mv lt m ps tt po k l hd t)[12]? = some (4, tt) := rfl
theorem ml_13 {v c : Nat} {rg : Nat → Int} {s : Int} {mv : Bool} {lt : Int} {m ps tt po : Nat → Value} {k l hd t : Int} : (ML v c rg s mv lt m ps tt po k l hd t)[13]? = some (2, sv k l) := rfl
theorem ml_14 {v c : Nat} {rg : Nat → Int} {s : Int} {mv : Bool} {lt : Int} {m ps tt po : Nat → Value} {k l hd t : Int} : (ML v c rg s mv lt m ps tt po k l hd t)[14]? = some (4, po) := rfl
theorem ml_16 {v c : Nat} {rg : Nat → Int} {s : Int} {mv : Bool} {lt : Int} {m ps tt po : Nat → Value} {k l hd t : Int} : (ML v c rg s mv lt m ps tt po k l hd t)[16]? = some (1, fun _ => Value.int .i64 hd) := rfl
theorem ml_17 {v c : Nat} {rg : Nat → Int} {s : Int} {mv : Bool} {lt : Int} {m ps tt po : Nat → Value} {k l hd t : Int} : (ML v c rg s mv lt m ps tt po k l hd t)[17]? = some (1, fun _ => Value.int .i64 t) := rfl
/-- The law itself sets Lag. -/
theorem HasX.lag {w : World} {b v' c' d : Nat} {L : List (Nat × (Nat → Value))} {bs : List Int} {f : Nat → Int} {wr rd st lo bu : Int} (h : HasX w b v' c' d L bs f wr rd st lo bu) {t : Int} (h17 : L[17]? = some (1, fun _ => Value.int .i64 t)) (n : Int) : HasX (w.setCell ⟨b, 9262, none⟩ (.int .i64 n)) b v' c' d (L.set 17 (1, fun _ => Value.int .i64 n)) bs f wr rd st lo bu ∧ OnlyE (EX b v') w (w.setCell ⟨b, 9262, none⟩ (.int .i64 n)) ∧ w.cell? ⟨b, 9262, none⟩ = some (.int .i64 t) ∧ w.frozen? ⟨b, 9262, none⟩ = false := by
  have k := (But.refl b w).set 9262 (.int .i64 n)
  exact ⟨h.lay k 17 h17 (h.1.put1 17 h17 (a := 9262) (h.isB.off 17 rfl) _) (by decide) (by decide), ex_but k, h.1.get1 17 h17 (a := 9262) (h.isB.off 17 rfl) (by decide), h.1.frozen 9262⟩
theorem HasX.hold {w : World} {b v' c' d : Nat} {L : List (Nat × (Nat → Value))} {bs : List Int} {f : Nat → Int} {wr rd st lo bu : Int} (h : HasX w b v' c' d L bs f wr rd st lo bu) {n : Int} (h16 : L[16]? = some (1, fun _ => Value.int .i64 n)) : w.cell? ⟨b, 9261, none⟩ = some (.int .i64 n) := h.1.get1 16 h16 (a := 9261) (h.isB.off 16 rfl) (by decide)
theorem HasX.lines {w : World} {b v' c' d : Nat} {L : List (Nat × (Nat → Value))} {bs : List Int} {f : Nat → Int} {wr rd st lo bu : Int} (h : HasX w b v' c' d L bs f wr rd st lo bu) {k l : Int} (h13 : L[13]? = some (2, sv k l)) : w.cell? ⟨b, 9246, none⟩ = some (.int .i64 l) := h.1.get 13 h13 1 (by decide) (a := 9246) (by rw [h.isB.off 13 (a := 9245) rfl]) (by decide)
end Go.Proofs.YtpjhiopmdkieiabGreatDoor.L24
