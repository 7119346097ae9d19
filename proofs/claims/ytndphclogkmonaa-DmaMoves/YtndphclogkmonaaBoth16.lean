/- DmaMoves' world: the program's video memory, the document's, and the array that came in, in blocks of their own. -/
import Derived.Test.YtndphclogkmonaaRef16
import Derived.Test.YtndphclogkmonaaLaw16
import Derived.Test.YtndphclogkmonaaBack16
namespace Go.Proofs.Ytndphclogkmonaa
open Go.RowKit
set_option linter.unusedVariables false

def Has4 (w : World) (b : Nat) (x0 x1 x2 x3 : Int) : Prop := w.heap[b]? = some (.cells #[.int .i64 x0, .int .i64 x1, .int .i64 x2, .int .i64 x3] 23 (0, 0))
/-- The blocks lie apart from one another, and from all that there was. -/
def Apart (w0 : World) (b g c d : Nat) : Prop := w0.heap.size ≤ b ∧ w0.heap.size ≤ g ∧ w0.heap.size ≤ c ∧ w0.heap.size ≤ d ∧ b ≠ g ∧ b ≠ c ∧ b ≠ d ∧ g ≠ c ∧ g ≠ d
/-- The program's words are f, the document's h. -/
def Both (w0 : World) (b g c d : Nat) (x0 x1 x2 x3 : Int) (f h : Nat → Int) (w : World) : Prop := Apart w0 b g c d ∧ HasM w g true f 0 0 1 0 0 ∧ HasR w c d h 0 0 1 0 0 ∧ Has4 w b x0 x1 x2 x3 ∧ Below w0.heap.size w0 w
theorem Both.below {w0 w : World} {b g c d : Nat} {x0 x1 x2 x3 : Int} {f h : Nat → Int} (k : Both w0 b g c d x0 x1 x2 x3 f h w) : Below w0.heap.size w0 w := k.2.2.2.2
theorem Both.n0 {w0 w : World} {b g c d : Nat} {x0 x1 x2 x3 : Int} {f h : Nat → Int} (k : Both w0 b g c d x0 x1 x2 x3 f h w) : w.cell? ⟨b, 0, none⟩ = some (.int .i64 x0) := (cell_of_row w b 0 _ _ _ k.2.2.2.1).trans rfl
theorem Both.n1 {w0 w : World} {b g c d : Nat} {x0 x1 x2 x3 : Int} {f h : Nat → Int} (k : Both w0 b g c d x0 x1 x2 x3 f h w) : w.cell? ⟨b, 1, none⟩ = some (.int .i64 x1) := (cell_of_row w b 1 _ _ _ k.2.2.2.1).trans rfl
theorem Both.n2 {w0 w : World} {b g c d : Nat} {x0 x1 x2 x3 : Int} {f h : Nat → Int} (k : Both w0 b g c d x0 x1 x2 x3 f h w) : w.cell? ⟨b, 2, none⟩ = some (.int .i64 x2) := (cell_of_row w b 2 _ _ _ k.2.2.2.1).trans rfl
theorem Both.n3 {w0 w : World} {b g c d : Nat} {x0 x1 x2 x3 : Int} {f h : Nat → Int} (k : Both w0 b g c d x0 x1 x2 x3 f h w) : w.cell? ⟨b, 3, none⟩ = some (.int .i64 x3) := (cell_of_row w b 3 _ _ _ k.2.2.2.1).trans rfl
theorem Both.next {w0 w : World} {b g c d : Nat} {x0 x1 x2 x3 : Int} {f h : Nat → Int} (k : Both w0 b g c d x0 x1 x2 x3 f h w) {w' : World} (n : Below w.heap.size w w') : Both w0 b g c d x0 x1 x2 x3 f h w' :=
  ⟨k.1, k.2.1.next n, k.2.2.1.next n, (n.block b (lt_of_block k.2.2.2.1)).trans k.2.2.2.1, bnext k.below n⟩
theorem Both.only {w0 w : World} {b g c d : Nat} {x0 x1 x2 x3 : Int} {f h : Nat → Int} (k : Both w0 b g c d x0 x1 x2 x3 f h w) {w' : World} {F : Nat → Int} (o : Only g w w') (hm : HasM w' g true F 0 0 1 0 0) : Both w0 b g c d x0 x1 x2 x3 F h w' := by
  obtain ⟨hap, h1, h2, h3, h4⟩ := k
  obtain ⟨a0, a1, a2, a3, a4, a5, a6, a7, a8⟩ := hap
  exact ⟨⟨a0, a1, a2, a3, a4, a5, a6, a7, a8⟩, hm, h2.only o (fun e => a7 e.symm) (fun e => a8 e.symm), o.obj h3 a4, bonly h4 o a1 (Nat.le_refl _)⟩
theorem Both.only2 {w0 w : World} {b g c d : Nat} {x0 x1 x2 x3 : Int} {f h : Nat → Int} (k : Both w0 b g c d x0 x1 x2 x3 f h w) {w' : World} {H : Nat → Int} (o : Only2 c d w w') (hm : HasR w' c d H 0 0 1 0 0) : Both w0 b g c d x0 x1 x2 x3 f H w' := by
  obtain ⟨hap, h1, h2, h3, h4⟩ := k
  obtain ⟨a0, a1, a2, a3, a4, a5, a6, a7, a8⟩ := hap
  exact ⟨⟨a0, a1, a2, a3, a4, a5, a6, a7, a8⟩, o.obj h1 a7 a8, hm, o.obj h3 a5 a6, bonly2 h4 o a2 a3 (Nat.le_refl _)⟩
theorem Both.poke {w0 w : World} {b g c d : Nat} {x0 x1 x2 x3 : Int} {f h : Nat → Int} (k : Both w0 b g c d x0 x1 x2 x3 f h w) (n x : Int) (F : Nat → Int) (hF : pokeAt f n x = F) : Calls Try.prog 9 #[.pointer (some ⟨g, 0, none⟩), .int .i64 n, .int .i64 x] w fun e w' => e = .returned (.tuple #[]) ∧ Both w0 b g c d x0 x1 x2 x3 F h w' :=
  (poke_is g _ _ _ _ _ _ _ k.2.1 n x F hF).mono fun _ _ hh => ⟨hh.1, k.only hh.2.2 hh.2.1⟩
theorem Both.rpoke {w0 w : World} {b g c d : Nat} {x0 x1 x2 x3 : Int} {f h : Nat → Int} (k : Both w0 b g c d x0 x1 x2 x3 f h w) (n x : Int) (F : Nat → Int) (hF : pokeAt h n x = F) : Calls Try.prog 10 #[.pointer (some ⟨c, 0, none⟩), .int .i64 n, .int .i64 x] w fun e w' => e = .returned (.tuple #[]) ∧ Both w0 b g c d x0 x1 x2 x3 f F w' :=
  (rpoke_is c d _ _ _ _ _ _ _ k.2.2.1 n x F hF).mono fun _ _ hh => ⟨hh.1, k.only2 hh.2.2 hh.2.1⟩
theorem Both.word {w0 w : World} {b g c d : Nat} {x0 x1 x2 x3 : Int} {f h : Nat → Int} (k : Both w0 b g c d x0 x1 x2 x3 f h w) (n x : Int) (hx : wordAt f n = x) : Calls Try.prog 13 #[.pointer (some ⟨g, 0, none⟩), .int .i64 n] w fun e w' => e = .returned (.int .i64 x) ∧ w' = w := word_is g _ _ _ _ _ _ _ k.2.1 n x hx
theorem Both.rword {w0 w : World} {b g c d : Nat} {x0 x1 x2 x3 : Int} {f h : Nat → Int} (k : Both w0 b g c d x0 x1 x2 x3 f h w) (n x : Int) (hx : wordAt h n = x) : Calls Try.prog 14 #[.pointer (some ⟨c, 0, none⟩), .int .i64 n] w fun e w' => e = .returned (.int .i64 x) ∧ w' = w := rword_is c d _ _ _ _ _ _ _ k.2.2.1 n x hx
theorem Both.move {w0 w : World} {b g c d : Nat} {x0 x1 x2 x3 : Int} {f h : Nat → Int} (k : Both w0 b g c d x0 x1 x2 x3 f h w) (e0 e1 n q A S B T X Y : Int) (N : Nat) (F : Nat → Int) (hA : e0 % 65536 = A) (hB : e1 % 65536 = B) (hS : farOf q 2 = S) (hT : farOf q 3 = T) (hN : n % 65536 + 1 = (N : Int)) (hX : placeAt A S N = X) (hY : placeAt B T N = Y) (hF : mvTo f A S B T N = F) :
    Calls Try.prog 11 #[.pointer (some ⟨g, 0, none⟩), .agg #[.int .i64 e0, .int .i64 e1], .int .i64 n, .int .i64 q] w fun e w' => e = .returned (.agg #[.int .i64 X, .int .i64 Y]) ∧ Both w0 b g c d x0 x1 x2 x3 F h w' :=
  (move_is g _ _ _ _ _ _ _ k.2.1 e0 e1 n q A S B T X Y N F hA hB hS hT hN hX hY hF).mono fun _ _ hh => ⟨hh.1, k.only hh.2.2 hh.2.1⟩
theorem Both.rmove {w0 w : World} {b g c d : Nat} {x0 x1 x2 x3 : Int} {f h : Nat → Int} (k : Both w0 b g c d x0 x1 x2 x3 f h w) (e0 e1 n q A S B T X Y : Int) (N : Nat) (F : Nat → Int) (hA : e0 % 65536 = A) (hB : e1 % 65536 = B) (hS : farOf q 2 = S) (hT : farOf q 3 = T) (hN : n % 65536 + 1 = (N : Int)) (hX : placeAt A S N = X) (hY : placeAt B T N = Y) (hF : mvTo h A S B T N = F) :
    Calls Try.prog 12 #[.pointer (some ⟨c, 0, none⟩), .int .i64 e0, .int .i64 e1, .int .i64 n, .int .i64 q] w fun e w' => e = .returned (.tuple #[.int .i64 X, .int .i64 Y]) ∧ Both w0 b g c d x0 x1 x2 x3 f F w' ∧ Only2 c d w w' :=
  (rmove_is c d _ _ _ _ _ _ _ k.2.2.1 e0 e1 n q A S B T X Y N F hA hB hS hT hN hX hY hF).mono fun _ _ hh => ⟨hh.1, k.only2 hh.2.2 hh.2.1, hh.2.2⟩
theorem Both.lt_c {w0 w : World} {b g c d : Nat} {x0 x1 x2 x3 : Int} {f h : Nat → Int} (k : Both w0 b g c d x0 x1 x2 x3 f h w) : c < w.heap.size ∧ d < w.heap.size := ⟨lt_of_block k.2.2.1.1, lt_of_block k.2.2.1.2.1⟩
theorem neqE (x y : Int) (w : World) : (binOp .neq 29 (.agg #[.int .i64 x, .int .i64 y]) (.agg #[.int .i64 x, .int .i64 y])).run Try.prog w = .ok (.bool false) w := by
  have h : (Op.equalIn 10000 29 (.agg #[.int .i64 x, .int .i64 y]) (.agg #[.int .i64 x, .int .i64 y])).run Try.prog w = .ok true w :=
    (run_equalIn_ints w 9998 29 3 2 Try.underlying29 Try.underlying3 Try.sizeOf3 [x, y] [x, y] rfl rfl).trans (by simp)
  rw [run_neq_struct, h]
  rfl
end Go.Proofs.Ytndphclogkmonaa
