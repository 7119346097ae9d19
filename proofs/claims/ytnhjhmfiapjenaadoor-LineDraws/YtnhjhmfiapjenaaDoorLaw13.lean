/- What the laws of layer 13 lean on besides: masks, and places behind so many steps. -/
import Derived.Test.YtnhjhmfiapjenaaDoorVram13
namespace Go.Proofs.YtnhjhmfiapjenaaDoor
open Go.RowKit
theorem own : ownKnob Tryd.prog.godebug = none := by kernel_rfl
theorem and_31 (n : Int) : bits .and .i64 n 31 = n % 32 := and_mask 5 (by decide) n
theorem and_32767 (n : Int) : bits .and .i64 n 32767 = n % 32768 := and_mask 15 (by decide) n
/-- A place behind k steps. -/
def placeAt (A S : Int) (k : Nat) : Int := (A + k * S) % 65536
theorem placeAt_next (A S : Int) (k : Nat) : (placeAt A S k + S) % 65536 = placeAt A S (k + 1) := by
  unfold placeAt
  have : ((k + 1 : Nat) : Int) * S = k * S + S := by rw [Int.natCast_add, Int.add_mul]; simp
  rw [this]
  omega
theorem placeAt_ge (A S : Int) (k : Nat) : 0 ≤ placeAt A S k := by unfold placeAt; omega
theorem placeAt_lt (A S : Int) (k : Nat) : placeAt A S k < 65536 := by unfold placeAt; omega
theorem placeAt_zero (A S : Int) (h0 : 0 ≤ A) (h1 : A < 65536) : placeAt A S 0 = A := by unfold placeAt; simp; omega
end Go.Proofs.YtnhjhmfiapjenaaDoor
