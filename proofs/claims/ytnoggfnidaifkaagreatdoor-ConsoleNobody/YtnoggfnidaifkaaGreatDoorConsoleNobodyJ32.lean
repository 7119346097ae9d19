/- Texts put together. -/
import Derived.Test.YtnoggfnidaifkaaGreatDoorRows
import Derived.Test.YtnoggfnidaifkaaGreatDoorConsoleNobodyJ27
import Derived.Test.YtnoggfnidaifkaaGreatDoorConsoleNobodyJ01
import Derived.ChangeSame
import Derived.ChangeVars
import Derived.JoinedOf
import Derived.RowKit
import Derived.RowKitTokens
import Derived.LaidLaws
import Derived.LaidHandle
import Derived.Stop.Joined
import Derived.Test.YtnoggfnidaifkaaGreatDoorConsoleNobodyJ31
import Derived.Laws.Rows
import Derived.Laws.Tables
namespace Go.Proofs.YtnoggfnidaifkaaGreatDoor.K9
set_option maxRecDepth 20000
open Go.ChangeShapes Go.WideShapes Go.RowKit
set_option linter.unusedVariables false
def nameCells : Array Value := #[.string ⟨#[84, 73, 73]⟩, .string ⟨#[84, 68, 68]⟩, .string ⟨#[84, 73, 78]⟩, .string ⟨#[84, 73, 65]⟩, .string ⟨#[84, 65, 73]⟩]
def HasNames (w : World) : Prop := ∃ t fr, w.heap[7]? = some (.cells nameCells t fr)
abbrev laidPaths : List (String × DataW Unit) := [("phosphor/block.paths", Rows.laid_phosphor_block_paths)]
theorem Tryz.gPaths : Tryz.prog.globalNamed "phosphor/block.paths" = some 8 := by kernel_rfl
theorem Tryz.tPaths : (Tryz.prog.globals[8]?).map (·.type) = some 345 := by kernel_rfl
theorem paths_flat : flat Tryz.prog 40 345 Rows.laid_phosphor_block_paths = some pathCells.toList := by kernel_rfl
theorem Tryz.gNames : Tryz.prog.globalNamed "phosphor/block.names" = some 7 := by kernel_rfl
theorem Tryz.tNames : (Tryz.prog.globals[7]?).map (·.type) = some 344 := by kernel_rfl
theorem names_flat : flat Tryz.prog 40 344 Rows.laid_phosphor_block_names = some nameCells.toList := by kernel_rfl
theorem laid_paths {W : World} (h : laidMetH Tryz.prog laidPaths W) : HasPaths W := by
  have h : laidMet Tryz.prog laidPaths W := h
  obtain ⟨ps, ⟨g, t, cs, fuel, p, q, e1, e2, e3, e4, _, _⟩, _⟩ := h
  obtain rfl := Option.some.inj (Tryz.gPaths.symm.trans e1)
  obtain rfl := Option.some.inj (Tryz.tPaths.symm.trans e2)
  have hc := flat_at 40 fuel 345 _ _ _ _ paths_flat e4
  have hc2 : cs = pathCells := Array.toList_inj.1 hc
  subst hc2
  simp only [World.var?, Tryz.gPaths, Option.bind_some] at e3
  split at e3
  · rename_i cs' t' fr hh
    obtain rfl := Option.some.inj e3
    exact ⟨t', fr, hh⟩
  · cases e3
noncomputable def laidWorld (os : Os) : World :=
  let w0 := World.holding Tryz.prog os ⟨#[], #[], []⟩
  { w0 with heap := (w0.heap.modify 8 fun
      | .cells _ t frozen => .cells pathCells t frozen
      | o => o).modify 7 fun
      | .cells _ t frozen => .cells nameCells t frozen
      | o => o }
end Go.Proofs.YtnoggfnidaifkaaGreatDoor.K9
namespace Go.Proofs.YtnoggfnidaifkaaGreatDoor.K9
set_option maxRecDepth 20000
open Go.RowKit
set_option linter.unusedVariables false
theorem HasNames.pos {w : World} (h : HasNames w) : 7 < w.heap.size := by
  obtain ⟨t, fr, e⟩ := h
  exact lt_block e
theorem HasNames.next {w w' : World} (h : HasNames w) (b : Below w.heap.size w w') : HasNames w' := by
  have hp := h.pos
  obtain ⟨t, fr, e⟩ := h
  exact ⟨t, fr, (b.block 7 hp).trans e⟩
end Go.Proofs.YtnoggfnidaifkaaGreatDoor.K9
namespace Go.Proofs.YtnoggfnidaifkaaGreatDoor.L25
set_option maxRecDepth 20000
open A2 B4 C3 G6 I11 J23 K9 L24 M5 N8 O7 P22 R15 T10 V12 W13
open Go.RowKit
set_option linter.unusedVariables false
def Boxes (s b v g1 g2 : Nat) (nn : ByteArray) (w : World) : Prop := (∃ t1 f1, w.heap[g1]? = some (.cells #[.pointer (some ⟨s, 0, none⟩)] t1 f1)) ∧ (∃ t2 f2, w.heap[g2]? = some (.cells #[.string nn] t2 f2)) ∧ ¬ EQ s b v g1 ∧ ¬ EQ s b v g2
theorem Boxes.only {s b v g1 g2 : Nat} {nn : ByteArray} {w w' : World} (h : Boxes s b v g1 g2 nn w) (k : OnlyE (EQ s b v) w w') : Boxes s b v g1 g2 nn w' := by
  obtain ⟨⟨t1, f1, e1⟩, ⟨t2, f2, e2⟩, n1, n2⟩ := h
  exact ⟨⟨t1, f1, k.obj e1 n1⟩, ⟨t2, f2, k.obj e2 n2⟩, n1, n2⟩
end Go.Proofs.YtnoggfnidaifkaaGreatDoor.L25
namespace Go.Proofs.YtnoggfnidaifkaaGreatDoor.L25
set_option maxRecDepth 20000
open A2 B4 C3 G6 I11 J23 K9 L24 M5 N8 O7 P22 R15 T10 V12 W13
open Go.RowKit
set_option linter.unusedVariables false
def inS (op : Int) (k : Nat) (Z : Nat → Nat → Int) : Nat → Nat → Int := setR (rkS Z op 0 (Z 20 k)) k (rkV op 0 (Z 20 k) (Z 20 4))
end Go.Proofs.YtnoggfnidaifkaaGreatDoor.L25
namespace Go.Proofs.YtnoggfnidaifkaaGreatDoor.L25
set_option maxRecDepth 20000
open A2 B4 C3 G6 I11 J23 K9 L24 M5 N8 O7 P22 R15 T10 V12 W13
open Go.RowKit
set_option linter.unusedVariables false
def cutR (R : Nat → Int) : Nat → Int := fun j => if j = 5 then R 5 % 65536 else R j % 256
theorem cutR_good (R : Nat → Int) : GZ 20 (cutR R) := by
  refine ⟨fun k hk => ?_, ?_⟩
  · unfold cutR
    rw [if_neg (by omega)]
    omega
  · unfold cutR
    rw [if_pos rfl]
    omega
theorem missing_is {w : World} {b v c d : Nat} {bs : List Int} {Z : Nat → Nat → Int} (h : HasP w b v c d bs Z) (g : ∀ k, GZ k (Z k)) : Calls Tryz.prog 34 #[.pointer (some ⟨b, 0, none⟩)] w fun e w' => e = Ending.returned (.bool false) ∧ HasP w' b v c d bs Z ∧ OnlyE (EX b v) w w' := by
  have K := hide (p_open h (good_of g) (-1) (by decide))
  clear h g
  go_enter Tryz.func34, Tryz.ntmps34
  go_wp2_with (go_at_call 58; refine K.out.mono ?_; rintro e w1 ⟨rfl, h1, o1⟩; have H1 := hide h1; have O1 := hide o1; clear h1 o1 K)
  go_ret
  exact ⟨rfl, H1.out, O1.out⟩
end Go.Proofs.YtnoggfnidaifkaaGreatDoor.L25
namespace Go.Proofs.YtnoggfnidaifkaaGreatDoor.L25
set_option maxRecDepth 20000
open A2 B4 C3 G6 I11 J23 K9 L24 M5 N8 O7 P22 R15 T10 V12 W13
open Go.RowKit
set_option linter.unusedVariables false
def HasM (w : World) (b v c d : Nat) (bs : List Int) (Z : Nat → Nat → Int) : Prop := HasP w b v c d bs Z ∧ CT w ∧ (∀ k, GZ k (Z k)) ∧ (10 ≤ b ∧ 10 ≤ v) ∧ known ((bs.length / 8192 : Nat) : Int) = true ∧ bs.length / 8192 ≠ 320
theorem HasM.next {w w' : World} {b v c d : Nat} {bs : List Int} {Z : Nat → Nat → Int} (h : HasM w b v c d bs Z) (k : Below w.heap.size w w') : HasM w' b v c d bs Z := ⟨h.1.next k, h.2.1.next k, h.2.2⟩
theorem HasM.bus {w w' : World} {b v c d : Nat} {bs : List Int} {Z Z' : Nat → Nat → Int} (h : HasM w b v c d bs Z) (p : HasP w' b v c d bs Z') (k : OnlyE (EX b v) w w') (g : ∀ k, GZ k (Z' k)) : HasM w' b v c d bs Z' :=
  ⟨p, h.2.1.only k (fun i e => by rcases e with rfl | rfl; exact h.2.2.2.1.1; exact h.2.2.2.1.2), g, h.2.2.2⟩
theorem HasQ.mach {w : World} {s b v c d : Nat} {bs : List Int} {nm : ByteArray} {I B : Nat → Int} {t : Bool} {Z : Nat → Nat → Int} (h : HasQ w s b v c d bs nm I B t Z) : HasM w b v c d bs Z := ⟨h.2.1, h.2.2.1, h.2.2.2.1, ⟨h.2.2.2.2.1.2.2.2.2.2.1, h.2.2.2.2.1.2.2.2.2.2.2⟩, h.2.2.2.2.2⟩
theorem HasM.lts {w : World} {b v c d : Nat} {bs : List Int} {Z : Nat → Nat → Int} (h : HasM w b v c d bs Z) : b < w.heap.size ∧ v < w.heap.size ∧ c < w.heap.size ∧ d < w.heap.size := ⟨h.1.1.lt, lt_of_block h.1.2.1, h.1.2.2.1.2.2, lt_of_block h.1.2.2.1.2.1.1⟩
theorem HasM.but {w w' : World} {b v c d g : Nat} {bs : List Int} {Z : Nat → Nat → Int} (h : HasM w b v c d bs Z) (k : OnlyE (fun i => i = g) w w') (hn : g ≠ b ∧ g ≠ v ∧ g ≠ c ∧ g ≠ d ∧ 10 ≤ g) : HasM w' b v c d bs Z := by
  obtain ⟨n1, n2, n3, n4, n5⟩ := hn
  refine ⟨HasP.only h.1 k (fun e => n1 e.symm) (fun e => n2 e.symm) (fun e => n3 e.symm) (fun e => n4 e.symm) (fun i e => ?_), h.2.1.only k (fun i e => e ▸ n5), h.2.2⟩
  subst e
  exact ⟨Nat.lt_of_lt_of_le (by decide) n5, Nat.lt_of_lt_of_le (by decide) n5, Nat.lt_of_lt_of_le (by decide) n5⟩
theorem eq_drop {s b v : Nat} {w a x : World} (h : OnlyE (EX b v) w a) (k : OnlyE (EQ s b v) a x) (hs : w.heap.size ≤ s) : OnlyE (EX b v) w x :=
  ⟨k.1.trans h.1, k.2.1.trans h.2.1, k.2.2.1.trans h.2.2.1, Nat.le_trans h.size k.size, fun i hi hE => (k.block i (Nat.lt_of_lt_of_le hi h.size) (fun e => by rcases e with e | e; omega; exact hE e)).trans (h.block i hi hE)⟩
theorem ex_own {b v g : Nat} {w a x : World} (h : OnlyE (EX b v) w a) (k : OnlyE (fun i => i = g) a x) (hg : w.heap.size ≤ g) : OnlyE (EX b v) w x :=
  ⟨k.1.trans h.1, k.2.1.trans h.2.1, k.2.2.1.trans h.2.2.1, Nat.le_trans h.size k.size, fun i hi hE => (k.block i (Nat.lt_of_lt_of_le hi h.size) (fun e => by omega)).trans (h.block i hi hE)⟩
theorem HasM.size {w : World} {b v c d : Nat} {bs : List Int} {Z : Nat → Nat → Int} (h : HasM w b v c d bs Z) : 10 ≤ w.heap.size := Nat.le_of_lt (Nat.lt_of_le_of_lt h.2.2.2.1.1 h.lts.1)
theorem hasP_low {w : World} {b v c d : Nat} {bs : List Int} {Z Z' : Nat → Nat → Int} (h : HasP w b v c d bs Z) (e : ∀ k, k < 20 → Z' k = Z k) : HasP w b v c d bs Z' := by
  have ez : XP v c Z' = XP v c Z := by
    unfold XP
    rw [e 0 (by decide), e 2 (by decide), e 3 (by decide), e 4 (by decide), e 5 (by decide), e 7 (by decide), e 8 (by decide), e 9 (by decide), e 10 (by decide), e 11 (by decide), e 12 (by decide), e 13 (by decide), e 14 (by decide), e 15 (by decide), e 16 (by decide), e 17 (by decide)]
  unfold L24.HasP at h ⊢
  rw [ez, e 18 (by decide), e 19 (by decide)]
  exact h
end Go.Proofs.YtnoggfnidaifkaaGreatDoor.L25
