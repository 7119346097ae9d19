/- The check sum of a row of bytes: the program's, and the document's. -/
import Derived.Test.YtagpcfjagaegkaaRows
import Derived.Test.YtagpcfjagaegkaaPlain
import Derived.Test.YtagpcfjagaegkaaRowkit
namespace Go.Proofs.Ytagpcfjagaegkaa
open Go.RowKit
set_option linter.unusedVariables false
/-- The plain sum of k bytes, and the weighed one. -/
def aSum (f : Nat → Int) : Nat → Int
  | 0 => 1
  | k + 1 => (aSum f k + f k) % 65521
def bSum (f : Nat → Int) : Nat → Int
  | 0 => 0
  | k + 1 => (bSum f k + aSum f (k + 1)) % 65521
theorem aSum_in (f : Nat → Int) : ∀ k, 0 ≤ aSum f k ∧ aSum f k < 65521
  | 0 => ⟨(by decide : (0:Int) ≤ 1), (by decide : (1:Int) < 65521)⟩
  | k + 1 => by unfold aSum; omega
theorem bSum_in (f : Nat → Int) : ∀ k, 0 ≤ bSum f k ∧ bSum f k < 65521
  | 0 => ⟨(by decide : (0:Int) ≤ 0), (by decide : (0:Int) < 65521)⟩
  | k + 1 => by unfold bSum; omega
def sumOf (f : Nat → Int) (k : Nat) : Int := bSum f k * 65536 + aSum f k
theorem sum_or (f : Nat → Int) (k : Nat) : bits .or .i64 (bSum f k * 65536) (aSum f k) = sumOf f k := by
  have h := aSum_in f k
  have g := bSum_in f k
  exact or_add 16 _ _ (by omega) (by omega) (by omega) (by omega) (by omega) (by omega)
/-- A slice of bytes: of none, or a row whose cells hold f. -/
def RowU (w : World) (a : Option Addr) (len : Nat) (f : Nat → Int) : Prop :=
  len ≤ 1000000 ∧ (len = 0 ∨ ∃ bb off, 0 < len ∧ a = some ⟨bb, off, none⟩ ∧ ∀ i, i < len → w.cell? ⟨bb, off + i, none⟩ = some (.int .u8 (f i)) ∧ 0 ≤ f i ∧ f i ≤ 255)
theorem sum_any (a : Option Addr) (len cap : Nat) (f : Nat → Int) (w : World) (h : RowU w a len f) :
    Calls Try.prog 7 #[.slice a len cap] w fun e w' => e = .returned (.int .i64 (sumOf f len)) ∧ w' = w := by
  obtain ⟨hb, h⟩ := h
  have e1 := sum_or f len
  go_enter Try.func7, Try.ntmps7
  go_wp2_with fail
  go_loopw [3, 4, 9] (fun s3 s4 si wr => ∃ (j : Nat), j ≤ len ∧ s3 = .int .i64 (aSum f j) ∧ s4 = .int .i64 (bSum f j) ∧ si = .int .i64 (j : Int) ∧ wr = w) (fun _ _ si _ => len - (intOf si).toNat)
  case atStart => exact ⟨0, Nat.zero_le _, rfl, rfl, rfl, rfl⟩
  case round =>
    obtain ⟨j, hj, rfl, rfl, rfl, rfl⟩ := hrel
    have hA := aSum_in f j
    have hB := bSum_in f j
    by_cases hlt : j < len
    · rcases h with h | ⟨bb, off, h0, rfl, hc⟩
      · omega
      · obtain ⟨c1, c2, c3⟩ := hc j hlt
        have hA' := aSum_in f (j + 1)
        have eA : aSum f (j + 1) = (aSum f j + f j) % 65521 := rfl
        have eB : bSum f (j + 1) = (bSum f j + aSum f (j + 1)) % 65521 := rfl
        have hA'' : 0 ≤ (aSum f j + f j) % 65521 ∧ (aSum f j + f j) % 65521 < 65521 := by omega
        have EA := hide eA
        have EB := hide eB
        clear eA eB hA' e1
        go_wp2_with fail
        go_roundw
        case rel => exact ⟨j + 1, by omega, by rw [EA.out], by rw [EB.out, EA.out], by go_num, trivial⟩
        case measure => simp [intOf]; omega
    · obtain rfl : j = len := by omega
      go_wp2_with fail
      go_ret
      exact ⟨ret_int (by first | exact e1 | rfl), rfl⟩
theorem rsum_any (a : Option Addr) (len cap : Nat) (f : Nat → Int) (w : World) (h : RowU w a len f) :
    Calls Try.prog 8 #[.slice a len cap] w fun e w' => e = .returned (.int .i64 (sumOf f len)) ∧ w' = w := by
  obtain ⟨hb, h⟩ := h
  have e1 := sum_or f len
  go_enter Try.func8, Try.ntmps8
  go_wp2_with fail
  go_loopw [3, 4, 5] (fun s3 s4 si wr => ∃ (j : Nat), j ≤ len ∧ s3 = .int .i64 (aSum f j) ∧ s4 = .int .i64 (bSum f j) ∧ si = .int .i64 (j : Int) ∧ wr = w) (fun _ _ si _ => len - (intOf si).toNat)
  case atStart => exact ⟨0, Nat.zero_le _, rfl, rfl, rfl, rfl⟩
  case round =>
    obtain ⟨j, hj, rfl, rfl, rfl, rfl⟩ := hrel
    have hA := aSum_in f j
    have hB := bSum_in f j
    by_cases hlt : j < len
    · rcases h with h | ⟨bb, off, h0, rfl, hc⟩
      · omega
      · obtain ⟨c1, c2, c3⟩ := hc j hlt
        have hA' := aSum_in f (j + 1)
        have eA : aSum f (j + 1) = (aSum f j + f j) % 65521 := rfl
        have eB : bSum f (j + 1) = (bSum f j + aSum f (j + 1)) % 65521 := rfl
        have hA'' : 0 ≤ (aSum f j + f j) % 65521 ∧ (aSum f j + f j) % 65521 < 65521 := by omega
        have EA := hide eA
        have EB := hide eB
        clear eA eB hA' e1
        go_wp2_with fail
        go_roundw
        case rel => exact ⟨j + 1, by omega, by rw [EA.out], by rw [EB.out, EA.out], by go_num, trivial⟩
        case measure => simp [intOf]; omega
    · obtain rfl : j = len := by omega
      go_wp2_with fail
      go_ret
      exact ⟨ret_int (by first | exact e1 | rfl), rfl⟩
end Go.Proofs.Ytagpcfjagaegkaa
