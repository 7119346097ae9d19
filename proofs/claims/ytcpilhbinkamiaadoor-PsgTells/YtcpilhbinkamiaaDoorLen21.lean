/- Go's bits.Len of a number below 2^63: as many bits as hold it, and at most 64. -/
import Derived.Test.YtcpilhbinkamiaaDoorRows
import Derived.Test.YtcpilhbinkamiaaDoorKit
import Derived.Lib.BitFns
import Derived.Lib.Walk
namespace Go.Proofs.YtcpilhbinkamiaaDoor
open Go.RowKit
set_option linter.unusedVariables false

theorem tab_at (i : Nat) (h : i < Lib.len8tab.size) : (Lib.len8tab[i]'h).toNat = Lib.bitLen i := by
  have hi : i < 256 := by rw [← Lib.len8tab_size]; exact h
  have e := Lib.len8_eq ⟨i, hi⟩
  have e2 : Lib.len8 (i : Int) = ((Lib.len8tab[i]'h).toNat : Int) := by
    unfold Lib.len8
    rw [Int.toNat_natCast, getElem?_pos Lib.len8tab i h]
    rfl
  rw [e2] at e
  exact_mod_cast e
/-- Behind the shifts: so many bits are gone, and the table tells the rest. -/
theorem len_end {x y : Int} (c : Nat) (hc : c ≤ 56) (hx : x.toNat < 2 ^ 64) (hy : y.toNat = x.toNat / 2 ^ c) (hlo : c = 0 ∨ 2 ^ c ≤ x.toNat) (h : y.toNat < Lib.len8tab.size) :
    wrap64 ((c : Int) + wrap64 ((Lib.len8tab[y.toNat]'h).toNat : Int)) = ((Lib.bitLen x.toNat : Nat) : Int) := by
  rw [tab_at]
  have l : Lib.bitLen y.toNat ≤ 8 := Lib.bitLen_le8 ⟨y.toNat, by rw [← Lib.len8tab_size]; exact h⟩
  have e : Lib.bitLen x.toNat = c + Lib.bitLen y.toNat := by
    rw [hy]
    rcases hlo with rfl | hlo
    · rw [Nat.pow_zero, Nat.div_one, Nat.zero_add]
    · exact Lib.bitLen_shift c _ hlo hx
  rw [e]
  unfold wrap64
  omega
set_option maxRecDepth 100000 in
theorem len64_any (x : Int) (w : World) (h0 : 0 ≤ x) (h1 : x < 9223372036854775808) :
    Calls Tryd.prog 68 #[.int .u64 x] w fun e w' => e = .returned (.int .i64 ((Lib.bitLen x.toNat : Nat) : Int)) ∧ w' = w := by
  have hsz := Lib.len8tab_size
  go_enter Tryd.func68, Tryd.ntmps68
  go_wp2
  all_goals (go_ret; refine ⟨ret_int ?_, rfl⟩)
  all_goals (first
    | exact len_end 56 (by decide) (by omega) (by omega) (.inr (by omega)) _
    | exact len_end 48 (by decide) (by omega) (by omega) (.inr (by omega)) _
    | exact len_end 40 (by decide) (by omega) (by omega) (.inr (by omega)) _
    | exact len_end 32 (by decide) (by omega) (by omega) (.inr (by omega)) _
    | exact len_end 24 (by decide) (by omega) (by omega) (.inr (by omega)) _
    | exact len_end 16 (by decide) (by omega) (by omega) (.inr (by omega)) _
    | exact len_end 8 (by decide) (by omega) (by omega) (.inr (by omega)) _
    | (have k := len_end (x := x) (y := x) 0 (by decide) (by omega) (by rw [Nat.pow_zero, Nat.div_one]) (.inl rfl) (by omega)
       rw [Int.natCast_zero, Int.zero_add] at k
       exact k))
theorem len_any (x : Int) (w : World) (h0 : 0 ≤ x) (h1 : x < 9223372036854775808) :
    Calls Tryd.prog 63 #[.int .u64 x] w fun e w' => e = .returned (.int .i64 ((Lib.bitLen x.toNat : Nat) : Int)) ∧ w' = w := by
  go_enter Tryd.func63, Tryd.ntmps63
  go_wp2_with (go_at_call 68; refine (len64_any _ _ h0 h1).mono ?_; rintro e w' ⟨rfl, rfl⟩)
  go_ret
  exact ⟨rfl, rfl⟩
theorem bitLenAux_lt : ∀ (f x : Nat), x < 2 ^ f → x < 2 ^ Lib.bitLenAux f x
  | 0, x, h => h
  | f + 1, x, h => by
    unfold Lib.bitLenAux
    split
    · omega
    · have k := bitLenAux_lt f (x / 2) (by rw [Nat.pow_succ] at h; omega)
      rw [Nat.add_comm, Nat.pow_succ]
      omega
theorem bitLen_lt {x : Nat} (h : x < 2 ^ 64) : x < 2 ^ Lib.bitLen x := bitLenAux_lt 64 x h
theorem bitLen_63 {x : Nat} (h : x < 9223372036854775808) : Lib.bitLen x ≤ 63 := Lib.bitLen_le x 63 (by decide) h
end Go.Proofs.YtcpilhbinkamiaaDoor
