/- Texts put together. -/
import Derived.WalkKit
import Derived.ProofKit
import Derived.KernelRfl
import Derived.Test.YtnoggfnidaifkaaGreatDoorConsoleNobodyJ01
import Derived.Test.YtnoggfnidaifkaaGreatDoorConsoleNobodyJ26
import Derived.Test.YtnoggfnidaifkaaGreatDoorConsoleNobodyJ27
namespace Go.Proofs.YtnoggfnidaifkaaGreatDoor.O7
set_option maxRecDepth 20000
open Go.RowKit
set_option maxRecDepth 20000
def tbl : List (List UInt8 × Int × Int) := [
  ([66, 82, 75], 0, 8), ([79, 82, 65], 6, 7), ([83, 88, 89], 0, 3), ([83, 84, 48], 2, 4),
  ([84, 83, 66], 3, 6), ([79, 82, 65], 3, 4), ([65, 83, 76], 3, 6), ([82, 77, 66, 48], 3, 7),
  ([80, 72, 80], 0, 3), ([79, 82, 65], 2, 2), ([65, 83, 76], 1, 2), ([78, 79, 80], 0, 2),
  ([84, 83, 66], 9, 7), ([79, 82, 65], 9, 5), ([65, 83, 76], 9, 7), ([66, 66, 82, 48], 15, 6),
  ([66, 80, 76], 14, 2), ([79, 82, 65], 7, 7), ([79, 82, 65], 8, 7), ([83, 84, 49], 2, 4),
  ([84, 82, 66], 3, 6), ([79, 82, 65], 4, 4), ([65, 83, 76], 4, 6), ([82, 77, 66, 49], 3, 7),
  ([67, 76, 67], 0, 2), ([79, 82, 65], 11, 5), ([73, 78, 67], 1, 2), ([78, 79, 80], 0, 2),
  ([84, 82, 66], 9, 7), ([79, 82, 65], 10, 5), ([65, 83, 76], 10, 7), ([66, 66, 82, 49], 15, 6),
  ([74, 83, 82], 9, 7), ([65, 78, 68], 6, 7), ([83, 65, 88], 0, 3), ([83, 84, 50], 2, 4),
  ([66, 73, 84], 3, 4), ([65, 78, 68], 3, 4), ([82, 79, 76], 3, 6), ([82, 77, 66, 50], 3, 7),
  ([80, 76, 80], 0, 4), ([65, 78, 68], 2, 2), ([82, 79, 76], 1, 2), ([78, 79, 80], 0, 2),
  ([66, 73, 84], 9, 5), ([65, 78, 68], 9, 5), ([82, 79, 76], 9, 7), ([66, 66, 82, 50], 15, 6),
  ([66, 77, 73], 14, 2), ([65, 78, 68], 7, 7), ([65, 78, 68], 8, 7), ([78, 79, 80], 0, 2),
  ([66, 73, 84], 4, 4), ([65, 78, 68], 4, 4), ([82, 79, 76], 4, 6), ([82, 77, 66, 51], 3, 7),
  ([83, 69, 67], 0, 2), ([65, 78, 68], 11, 5), ([68, 69, 67], 1, 2), ([78, 79, 80], 0, 2),
  ([66, 73, 84], 10, 5), ([65, 78, 68], 10, 5), ([82, 79, 76], 10, 7), ([66, 66, 82, 51], 15, 6),
  ([82, 84, 73], 0, 7), ([69, 79, 82], 6, 7), ([83, 65, 89], 0, 3), ([84, 77, 65], 2, 4),
  ([66, 83, 82], 14, 8), ([69, 79, 82], 3, 4), ([76, 83, 82], 3, 6), ([82, 77, 66, 52], 3, 7),
  ([80, 72, 65], 0, 3), ([69, 79, 82], 2, 2), ([76, 83, 82], 1, 2), ([78, 79, 80], 0, 2),
  ([74, 77, 80], 9, 4), ([69, 79, 82], 9, 5), ([76, 83, 82], 9, 7), ([66, 66, 82, 52], 15, 6),
  ([66, 86, 67], 14, 2), ([69, 79, 82], 7, 7), ([69, 79, 82], 8, 7), ([84, 65, 77], 2, 5),
  ([67, 83, 76], 0, 3), ([69, 79, 82], 4, 4), ([76, 83, 82], 4, 6), ([82, 77, 66, 53], 3, 7),
  ([67, 76, 73], 0, 2), ([69, 79, 82], 11, 5), ([80, 72, 89], 0, 3), ([78, 79, 80], 0, 2),
  ([78, 79, 80], 0, 2), ([69, 79, 82], 10, 5), ([76, 83, 82], 10, 7), ([66, 66, 82, 53], 15, 6),
  ([82, 84, 83], 0, 7), ([65, 68, 67], 6, 7), ([67, 76, 65], 0, 2), ([78, 79, 80], 0, 2),
  ([83, 84, 90], 3, 4), ([65, 68, 67], 3, 4), ([82, 79, 82], 3, 6), ([82, 77, 66, 54], 3, 7),
  ([80, 76, 65], 0, 4), ([65, 68, 67], 2, 2), ([82, 79, 82], 1, 2), ([78, 79, 80], 0, 2),
  ([74, 77, 80], 12, 7), ([65, 68, 67], 9, 5), ([82, 79, 82], 9, 7), ([66, 66, 82, 54], 15, 6),
  ([66, 86, 83], 14, 2), ([65, 68, 67], 7, 7), ([65, 68, 67], 8, 7), ([84, 73, 73], 16, 17),
  ([83, 84, 90], 4, 4), ([65, 68, 67], 4, 4), ([82, 79, 82], 4, 6), ([82, 77, 66, 55], 3, 7),
  ([83, 69, 73], 0, 2), ([65, 68, 67], 11, 5), ([80, 76, 89], 0, 4), ([78, 79, 80], 0, 2),
  ([74, 77, 80], 13, 7), ([65, 68, 67], 10, 5), ([82, 79, 82], 10, 7), ([66, 66, 82, 55], 15, 6),
  ([66, 82, 65], 14, 4), ([83, 84, 65], 6, 7), ([67, 76, 88], 0, 2), ([84, 83, 84], 17, 7),
  ([83, 84, 89], 3, 4), ([83, 84, 65], 3, 4), ([83, 84, 88], 3, 4), ([83, 77, 66, 48], 3, 7),
  ([68, 69, 89], 0, 2), ([66, 73, 84], 2, 2), ([84, 88, 65], 0, 2), ([78, 79, 80], 0, 2),
  ([83, 84, 89], 9, 5), ([83, 84, 65], 9, 5), ([83, 84, 88], 9, 5), ([66, 66, 83, 48], 15, 6),
  ([66, 67, 67], 14, 2), ([83, 84, 65], 7, 7), ([83, 84, 65], 8, 7), ([84, 83, 84], 19, 8),
  ([83, 84, 89], 4, 4), ([83, 84, 65], 4, 4), ([83, 84, 88], 5, 4), ([83, 77, 66, 49], 3, 7),
  ([84, 89, 65], 0, 2), ([83, 84, 65], 11, 5), ([84, 88, 83], 0, 2), ([78, 79, 80], 0, 2),
  ([83, 84, 90], 9, 5), ([83, 84, 65], 10, 5), ([83, 84, 90], 10, 5), ([66, 66, 83, 49], 15, 6),
  ([76, 68, 89], 2, 2), ([76, 68, 65], 6, 7), ([76, 68, 88], 2, 2), ([84, 83, 84], 18, 7),
  ([76, 68, 89], 3, 4), ([76, 68, 65], 3, 4), ([76, 68, 88], 3, 4), ([83, 77, 66, 50], 3, 7),
  ([84, 65, 89], 0, 2), ([76, 68, 65], 2, 2), ([84, 65, 88], 0, 2), ([78, 79, 80], 0, 2),
  ([76, 68, 89], 9, 5), ([76, 68, 65], 9, 5), ([76, 68, 88], 9, 5), ([66, 66, 83, 50], 15, 6),
  ([66, 67, 83], 14, 2), ([76, 68, 65], 7, 7), ([76, 68, 65], 8, 7), ([84, 83, 84], 20, 8),
  ([76, 68, 89], 4, 4), ([76, 68, 65], 4, 4), ([76, 68, 88], 5, 4), ([83, 77, 66, 51], 3, 7),
  ([67, 76, 86], 0, 2), ([76, 68, 65], 11, 5), ([84, 83, 88], 0, 2), ([78, 79, 80], 0, 2),
  ([76, 68, 89], 10, 5), ([76, 68, 65], 10, 5), ([76, 68, 88], 11, 5), ([66, 66, 83, 51], 15, 6),
  ([67, 80, 89], 2, 2), ([67, 77, 80], 6, 7), ([67, 76, 89], 0, 2), ([84, 68, 68], 16, 17),
  ([67, 80, 89], 3, 4), ([67, 77, 80], 3, 4), ([68, 69, 67], 3, 6), ([83, 77, 66, 52], 3, 7),
  ([73, 78, 89], 0, 2), ([67, 77, 80], 2, 2), ([68, 69, 88], 0, 2), ([78, 79, 80], 0, 2),
  ([67, 80, 89], 9, 5), ([67, 77, 80], 9, 5), ([68, 69, 67], 9, 7), ([66, 66, 83, 52], 15, 6),
  ([66, 78, 69], 14, 2), ([67, 77, 80], 7, 7), ([67, 77, 80], 8, 7), ([84, 73, 78], 16, 17),
  ([67, 83, 72], 0, 3), ([67, 77, 80], 4, 4), ([68, 69, 67], 4, 6), ([83, 77, 66, 53], 3, 7),
  ([67, 76, 68], 0, 2), ([67, 77, 80], 11, 5), ([80, 72, 88], 0, 3), ([78, 79, 80], 0, 2),
  ([78, 79, 80], 0, 2), ([67, 77, 80], 10, 5), ([68, 69, 67], 10, 7), ([66, 66, 83, 53], 15, 6),
  ([67, 80, 88], 2, 2), ([83, 66, 67], 6, 7), ([78, 79, 80], 0, 2), ([84, 73, 65], 16, 17),
  ([67, 80, 88], 3, 4), ([83, 66, 67], 3, 4), ([73, 78, 67], 3, 6), ([83, 77, 66, 54], 3, 7),
  ([73, 78, 88], 0, 2), ([83, 66, 67], 2, 2), ([78, 79, 80], 0, 2), ([78, 79, 80], 0, 2),
  ([67, 80, 88], 9, 5), ([83, 66, 67], 9, 5), ([73, 78, 67], 9, 7), ([66, 66, 83, 54], 15, 6),
  ([66, 69, 81], 14, 2), ([83, 66, 67], 7, 7), ([83, 66, 67], 8, 7), ([84, 65, 73], 16, 17),
  ([83, 69, 84], 0, 2), ([83, 66, 67], 4, 4), ([73, 78, 67], 4, 6), ([83, 77, 66, 55], 3, 7),
  ([83, 69, 68], 0, 2), ([83, 66, 67], 11, 5), ([80, 76, 88], 0, 4), ([78, 79, 80], 0, 2),
  ([78, 79, 80], 0, 2), ([83, 66, 67], 10, 5), ([73, 78, 67], 10, 7), ([66, 66, 83, 55], 15, 6)]
def rowAt (b : Nat) : List UInt8 × Int × Int := tbl.getD b ([], 0, 0)
def nameL (b : Nat) : List UInt8 := (rowAt b).1
def nameOf (b : Nat) : ByteArray := ⟨⟨nameL b⟩⟩
def modeOf (b : Nat) : Int := (rowAt b).2.1
def cycOf (b : Nat) : Int := (rowAt b).2.2
def lensL : List Int := [1, 1, 2, 2, 2, 2, 2, 2, 2, 3, 3, 3, 3, 3, 2, 3, 7, 3, 3, 4, 4]
def lenM (m : Int) : Int := lensL.getD m.toNat 0
def lenOf (b : Nat) : Int := lenM (modeOf b)
theorem tbl_length : tbl.length = 256 := by kernel_rfl
theorem for_all {p : Nat → Bool} (h : (List.range 256).all p = true) (b : Nat) (hb : b < 256) : p b = true := by
  rw [List.all_eq_true] at h
  exact h b (List.mem_range.2 hb)
theorem mode_in (b : Nat) (hb : b < 256) : 0 ≤ modeOf b ∧ modeOf b ≤ 20 := by
  have h : (List.range 256).all (fun b => decide (0 ≤ modeOf b ∧ modeOf b ≤ 20)) = true := by kernel_rfl
  simpa using for_all h b hb
end Go.Proofs.YtnoggfnidaifkaaGreatDoor.O7
namespace Go.Proofs.YtnoggfnidaifkaaGreatDoor
set_option maxRecDepth 20000
def andB (a m : Int) : Int := ((a.toNat &&& m.toNat : Nat) : Int)
def orB (a m : Int) : Int := ((a.toNat ||| m.toNat : Nat) : Int)
def xorB (a m : Int) : Int := ((a.toNat ^^^ m.toNat : Nat) : Int)
def bicB (a m : Int) : Int := ((a.toNat ^^^ (a.toNat &&& m.toNat) : Nat) : Int)
def IsByte (n : Int) : Prop := 0 ≤ n ∧ n < 256
theorem and_127 (n : Int) : bits .and .i64 n 127 = n % 128 := and_mask 7 (by decide) n
def setOf (p f : Int) (on : Bool) : Int := p - p / f % 2 * f + if on = true then f else 0
def IsFlag (f : Int) : Prop := f = 1 ∨ f = 2 ∨ f = 64 ∨ f = 128
theorem f1 : IsFlag 1 := .inl rfl
theorem f2 : IsFlag 2 := .inr (.inl rfl)
def nzOf (p b : Int) : Int := setOf (setOf (p % 256) 128 (decide (128 ≤ b % 256))) 2 (decide (b % 256 = 0))
def twoOf (p m : Int) (z : Bool) : Int := setOf (setOf (setOf p 128 (decide (128 ≤ m))) 64 (decide (m / 64 % 2 = 1))) 2 z
def tenUp (s : Int) : Int := if 9 < s then s + 6 else s
def carryUp (s : Int) : Int := if 15 < tenUp s then 1 else 0
def adcTen (a m p : Int) : Int × Int :=
  let l := a % 16 + m % 16 + p % 2
  let h := a / 16 + m / 16 + carryUp l
  let r := tenUp h % 16 * 16 + tenUp l % 16
  (r, setOf (nzOf p r) 1 (decide (15 < tenUp h)))
def adcTwo (a m p : Int) : Int × Int :=
  let s := a + m + p % 2
  let r := s % 256
  (r, setOf (setOf (nzOf p r) 1 (decide (255 < s))) 64 (decide (a / 128 = m / 128) && decide (r / 128 ≠ a / 128)))
def tenDown (s : Int) : Int := if s < 0 then s - 6 else s
def carryDown (s : Int) : Int := if s < 0 then 1 else 0
def sbcTen (a m p : Int) : Int × Int :=
  let l := a % 16 - m % 16 - 1 + p % 2
  let h := a / 16 - m / 16 - carryDown l
  let r := tenDown h % 16 * 16 + tenDown l % 16
  (r, nzOf (setOf p 1 (decide (0 ≤ h))) r)
def sbcTwo (a m p : Int) : Int × Int :=
  let s := a - m - 1 + p % 2
  let r := s % 256
  (r, setOf (setOf (nzOf p r) 1 (decide (0 ≤ s))) 64 (decide (a / 128 ≠ m / 128) && decide (r / 128 ≠ a / 128)))
def adcOf (a m p : Int) : Int × Int := if p / 8 % 2 = 1 then adcTen a m p else adcTwo a m p
def sbcOf (a m p : Int) : Int × Int := if p / 8 % 2 = 1 then sbcTen a m p else sbcTwo a m p
def doOf (op a m p : Int) : Int × Int :=
  if op = 0 then (orB a m, nzOf p (orB a m)) else
  if op = 1 then (andB a m, nzOf p (andB a m)) else
  if op = 2 then (xorB a m, nzOf p (xorB a m)) else
  if op = 3 then adcOf a m p else
  if op = 4 then sbcOf a m p else
  if op = 5 then (a, setOf (nzOf p (a - m)) 1 (decide (m ≤ a))) else
  if op = 6 then (a, twoOf p m (decide (andB a m = 0))) else
  if op = 7 then (orB a m, twoOf p m (decide (orB a m = 0))) else
  if op = 8 then (bicB m a, twoOf p m (decide (bicB m a = 0))) else
  if op = 9 then (m * 2 % 256, setOf (nzOf p (m * 2 % 256)) 1 (decide (128 ≤ m))) else
  if op = 10 then (m * 2 % 256 + p % 2, setOf (nzOf p (m * 2 % 256 + p % 2)) 1 (decide (128 ≤ m))) else
  if op = 11 then (m / 2, setOf (nzOf p (m / 2)) 1 (decide (m % 2 = 1))) else
  if op = 12 then (m / 2 + p % 2 * 128, setOf (nzOf p (m / 2 + p % 2 * 128)) 1 (decide (m % 2 = 1))) else
  if op = 13 then ((m + 1) % 256, nzOf p ((m + 1) % 256)) else
  if op = 14 then ((m + 255) % 256, nzOf p ((m + 255) % 256)) else
  if op = 15 then (m, nzOf p m) else (a, p)
end Go.Proofs.YtnoggfnidaifkaaGreatDoor
namespace Go.Proofs.YtnoggfnidaifkaaGreatDoor.L25
set_option maxRecDepth 20000
open B4 C3 G6 I11 J23 L24 M5 N8 O7 P22 R15 T10 V12 W13
open Go.RowKit
set_option linter.unusedVariables false
def anP (p f : Int) : Int := bits .andNot .i64 p f
def hasPt (m : Int) : Bool := m == 6 || m == 7 || m == 8 || m == 12 || m == 13
def ptrOf (m x o : Int) : Int := if m = 6 then zOf o x else if m = 7 ∨ m = 8 then zOf o 0 else if m = 12 then wOf o 0 else if m = 13 then wOf o x else 0
def wrpOf (m : Int) : Bool := m == 6 || m == 7 || m == 8
def aftOf (m a : Int) : Int := if wrpOf m = true then zOf a 1 else wOf a 1
def jn (x y : Int) : Int := x % 256 + 256 * (y % 256)
def pV (bs : List Int) (Z : Nat → Nat → Int) (x y : Int) : Int := jn (rV bs Z x) (rV bs (rS Z x) y)
def pS (Z : Nat → Nat → Int) (x y : Int) : Nat → Nat → Int := rS (rS Z x) y
def nx (Z : Nat → Nat → Int) : Nat → Nat → Int := setR (rS Z (Z 20 5)) 5 ((Z 20 5 + 1) % 65536)
def nV (bs : List Int) (Z : Nat → Nat → Int) : Int := rV bs Z (Z 20 5)
def nxN (Z : Nat → Nat → Int) : Nat → Nat → Nat → Int
  | 0 => Z
  | k + 1 => nx (nxN Z k)
def behN (bs : List Int) (Z : Nat → Nat → Int) : Nat → Nat → Int
  | 0 => fun _ => 0
  | k + 1 => up (behN bs Z k) k (nV bs (nxN Z k))
def opF (m : Int) (B : Nat → Int) : Int := if 17 ≤ m then jn (B 1) (B 2) else if m = 15 then B 0 else if m = 14 then 0 else jn (B 0) (B 1)
def fN (bs : List Int) (Z : Nat → Nat → Int) : Nat := (nV bs Z).toNat
def f1 (bs : List Int) (Z : Nat → Nat → Int) : Nat → Nat → Int := cyc (nx Z) (cycOf (fN bs Z))
def fB (bs : List Int) (Z : Nat → Nat → Int) : Nat → Int := behN bs (f1 bs Z) (lenOf (fN bs Z) - 1).toNat
def f2 (bs : List Int) (Z : Nat → Nat → Int) : Nat → Nat → Int := nxN (f1 bs Z) (lenOf (fN bs Z) - 1).toNat
def f3 (bs : List Int) (Z : Nat → Nat → Int) : Nat → Nat → Int := setR (f2 bs Z) 4 (anP (Z 20 4) 32)
def fM (bs : List Int) (Z : Nat → Nat → Int) : Int := modeOf (fN bs Z)
def fO (bs : List Int) (Z : Nat → Nat → Int) : Int := opF (fM bs Z) (fB bs Z)
def fA (bs : List Int) (Z : Nat → Nat → Int) : Int := ptrOf (fM bs Z) (Z 20 1) (fO bs Z)
def f4 (bs : List Int) (Z : Nat → Nat → Int) : Nat → Nat → Int := if hasPt (fM bs Z) = true then pS (f3 bs Z) (fA bs Z) (aftOf (fM bs Z) (fA bs Z)) else f3 bs Z
end Go.Proofs.YtnoggfnidaifkaaGreatDoor.L25
