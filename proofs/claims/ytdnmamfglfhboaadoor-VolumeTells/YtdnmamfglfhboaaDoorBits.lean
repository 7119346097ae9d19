/- What each function of package bits, and of the document's answer for it, returns: one contract a function. -/
import Derived.Test.YtdnmamfglfhboaaDoorRows
import Derived.Test.YtdnmamfglfhboaaDoorPlain
import Derived.Test.YtdnmamfglfhboaaDoorKit
import Derived.WalkKit
import Derived.ProofKit
import Derived.Deep.QuietTactic
import Derived.BigQuiet
namespace Go.Proofs.YtdnmamfglfhboaaDoor
open Go.RowKit












theorem mod_any (n m : Int) (w : World) (hm : 0 < m) (hm2 : m ≤ 65536) :
    Calls Tryd.prog 10 #[.int .i64 n, .int .i64 m] w fun e w' => e = .returned (.int .i64 (n % m)) ∧ w' = w := by
  have ht : n.tmod m = if 0 ≤ n ∨ n % m = 0 then n % m else n % m - m := by
    rw [Int.tmod_eq_emod]
    have hd : m ∣ n ↔ n % m = 0 := Int.dvd_iff_emod_eq_zero
    simp only [hd]
    split <;> omega
  have h1 := Int.emod_nonneg n (Int.ne_of_gt hm)
  have h2 := Int.emod_lt_of_pos n hm
  have HT := hide ht
  clear ht
  by_cases h : 0 ≤ n ∨ n % m = 0
  · have e : n.tmod m = n % m := by rw [HT.out, if_pos h]
    go_enter Tryd.func10, Tryd.ntmps10
    go_wp2
    go_ret
    exact ⟨rfl, rfl⟩
  · have e : n.tmod m = n % m - m := by rw [HT.out, if_neg h]
    go_enter Tryd.func10, Tryd.ntmps10
    go_wp2
    go_ret
    exact ⟨ret_int (by omega), rfl⟩









end Go.Proofs.YtdnmamfglfhboaaDoor
