/- Texts put together. -/
import Derived.Test.YtnoggfnidaifkaaGreatDoorConsoleNobodyJ23
import Derived.Test.YtnoggfnidaifkaaGreatDoorConsoleNobodyJ41
import Derived.Test.YtnoggfnidaifkaaGreatDoorConsoleNobodyJ01
import Derived.Test.YtnoggfnidaifkaaGreatDoorConsoleNobodyJ03
import Derived.Test.YtnoggfnidaifkaaGreatDoorConsoleNobodyJ26
namespace Go.Proofs.YtnoggfnidaifkaaGreatDoor.L24
set_option maxRecDepth 20000
open B4 C3 D24 G6 I11 J23 M5 P22 R15 T10 V12 W13
open Go.RowKit
set_option linter.unusedVariables false
def YP (P : Int) (sl : Value) (r c : Nat) (Z : Nat → Nat → Int) : List (Nat × (Nat → Value)) :=
  [(1, fun _ => Value.int .i64 P), (1, fun _ => Value.int .i64 (Z 7 0)), (1, fun _ => sl), (1, fun _ => .slice (some ⟨r, 0, none⟩) 8192 8192), (8, iv (Z 9)), (21, iv (Z 0)), (1, fun _ => .pointer (some ⟨c, 0, none⟩)), (256, iv (Z 2)), (1, fun _ => Value.int .i64 (Z 3 0)), (1, fun _ => .bool (isB (Z 4 0))), (1, fun _ => .bool (isB (Z 5 0))), (514, iv (Z 10)), (244, iv (Z 11)), (4, tvZ (Z 12)), (1, fun _ => Value.int .i64 (Z 13 0)), (1, fun _ => Value.int .i64 (Z 13 1)), (4, pvZ (Z 14)), (10, pcZ (Z 15)), (1, fun _ => Value.int .i64 (Z 16 0))]
def HasD (w : World) (b c d r : Nat) (P : Int) (sl : Value) (Z : Nat → Nat → Int) : Prop := HasY w b c d r (YP P sl r c Z) (Z 18) (Z 19 0) (Z 19 1) (Z 19 2) (Z 19 3) (Z 19 4) (Z 8)
theorem HasD.next {w w' : World} {b c d r : Nat} {P : Int} {sl : Value} {Z : Nat → Nat → Int} (h : HasD w b c d r P sl Z) (k : Below w.heap.size w w') : HasD w' b c d r P sl Z := HasY.next h k
theorem HasD.only {E : Nat → Prop} {w w' : World} {b c d r : Nat} {P : Int} {sl : Value} {Z : Nat → Nat → Int} (h : HasD w b c d r P sl Z) (k : OnlyE E w w') (hb : ¬ E b) (hc : ¬ E c) (hd : ¬ E d) (hr : ¬ E r) : HasD w' b c d r P sl Z := by
  obtain ⟨q1, q2, q3, q4⟩ := h
  exact ⟨k.obj q1 hb, ⟨k.obj q2.1 hc, k.obj q2.2.1 hd, q2.2.2⟩, k.obj q3 hr, q4⟩
end Go.Proofs.YtnoggfnidaifkaaGreatDoor.L24
namespace Go.Proofs.YtnoggfnidaifkaaGreatDoor.L24
set_option maxRecDepth 20000
open B4 C3 D24 G6 I11 J23 M5 P22 R15 T10 V12 W13
open Go.RowKit
set_option linter.unusedVariables false
def padZ (K : Nat → Int) (k : Nat) : Nat → Int := fun j => if j / 2 < k then (if j % 2 = 0 then K (j / 2) else b2i (j / 2 == 2)) else 0
def Z0 (K : Nat → Int) (k : Nat) : Nat → Nat → Int := fun i => if i = 9 then fl0 else if i = 11 then freshF else if i = 15 then padZ K k else if i = 16 then oneV 255 else if i = 19 then (fun j => if j = 2 then 1 else 0) else if i = 13 then twoV 0 0 else if i = 17 then oneV 0 else fun _ => 0
theorem padZ_0 (K : Nat → Int) : padZ K 0 = fun _ => 0 := funext fun j => by
  unfold padZ
  rw [if_neg (by omega)]
theorem tvZ_0 : tvZ (fun _ => 0) = t0C := funext fun j => by
  unfold tvZ tv t0C
  rcases j with _ | _ | _ | j <;> rfl
theorem pvZ_0 : pvZ (fun _ => 0) = p0C := funext fun j => by
  unfold pvZ pv p0C
  rcases j with _ | _ | _ | j
  · rfl
  · rfl
  · rfl
  · rw [if_neg (by omega), if_neg (by omega), if_neg (by omega), if_neg (by omega)]
theorem pcZ_0 : pcZ (fun _ => 0) = a0C := funext fun j => by
  unfold pcZ J23.pc a0C
  rfl
theorem sv_0 : sv 0 0 = iv fun _ => 0 := funext fun j => by
  unfold sv iv
  split <;> rfl
theorem xp_0 (K : Nat → Int) (v c : Nat) : XP v c (Z0 K 0) = LB v c := by
  show [(21, iv fun _ => 0), (1, fun _ => Value.pointer (some ⟨v, 0, none⟩)), (256, iv fun _ => 0), (1, fun _ => .int .i64 0), (1, fun _ => .bool false), (1, fun _ => .bool false), (1, fun _ => .pointer (some ⟨c, 0, none⟩)), (1, fun _ => .int .i64 0), (8192, bv fun _ => 0), (8, iv fl0), (514, iv fun _ => 0), (244, iv freshF), (4, tvZ fun _ => 0), (2, sv 0 0), (4, pvZ fun _ => 0), (10, pcZ (padZ K 0)), (1, fun _ => .int .i64 255), (1, fun _ => .int .i64 0)] = _
  rw [padZ_0, tvZ_0, pvZ_0, pcZ_0, sv_0]
  rfl
theorem gz_0 (K : Nat → Int) (k : Nat) : ∀ i, GZ i (Z0 K k i)
  | 0 => (show (0 ≤ (0 : Int) ∧ (0 : Int) < 32) ∧ ∀ i, i < 20 → 0 ≤ (0 : Int) ∧ (0 : Int) < 65536 from ⟨by decide, fun _ _ => by decide⟩)
  | 1 => trivial
  | 2 => trivial
  | 3 => (show 0 ≤ (0 : Int) ∧ (0 : Int) < 128 by decide)
  | 4 => trivial
  | 5 => trivial
  | 6 => trivial
  | 7 => trivial
  | 8 => (show ∀ j : Nat, 0 ≤ (0 : Int) ∧ (0 : Int) < 256 from fun _ => by decide)
  | 9 => trivial
  | 10 => (show (0 ≤ (0 : Int) ∧ (0 : Int) < 512) ∧ ∀ j : Nat, 0 ≤ (0 : Int) ∧ (0 : Int) < 512 from ⟨by decide, fun _ => by decide⟩)
  | 11 => fresh_ok
  | 12 => (show okT 0 0 (isB 0) 0 = true by decide)
  | 13 => (show ((0 ≤ (0 : Int) ∧ (0 : Int) < 8) ∧ 0 ≤ (0 : Int) ∧ (0 : Int) < 8) ∧ twoV 0 0 = twoV 0 0 from ⟨by decide, rfl⟩)
  | 14 => trivial
  | 15 => trivial
  | 16 => (show 0 ≤ (255 : Int) ∧ (255 : Int) < 256 by decide)
  | 17 => (show (0 ≤ (0 : Int) ∧ (0 : Int) ≤ 8388608) ∧ oneV 0 = oneV 0 from ⟨by decide, rfl⟩)
  | 18 => (show ∀ j : Nat, 0 ≤ (0 : Int) ∧ (0 : Int) < 65536 from fun _ => by decide)
  | 19 => (show (0 ≤ (0 : Int) ∧ (0 : Int) < 65536) ∧ (0 ≤ (0 : Int) ∧ (0 : Int) < 65536) ∧ (1 ≤ (1 : Int) ∧ (1 : Int) < 65536) ∧ (0 ≤ (0 : Int) ∧ (0 : Int) < 256) ∧ (0 ≤ (0 : Int) ∧ (0 : Int) < 65536) by decide)
  | 20 => (show (∀ k : Nat, k < 5 → 0 ≤ (0 : Int) ∧ (0 : Int) < 256) ∧ 0 ≤ (0 : Int) ∧ (0 : Int) < 65536 from ⟨fun _ _ => by decide, by decide⟩)
  | n + 21 => trivial
end Go.Proofs.YtnoggfnidaifkaaGreatDoor.L24
