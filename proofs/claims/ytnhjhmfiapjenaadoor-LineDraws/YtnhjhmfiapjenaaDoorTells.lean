/- A memory that tells words: one that a call made, or nil. -/
import Derived.Test.YtnhjhmfiapjenaaDoorLines
import Derived.Test.YtnhjhmfiapjenaaDoorGenA
namespace Go.Proofs.YtnhjhmfiapjenaaDoor
open Go.RowKit
set_option linter.unusedVariables false

/-- In all worlds that keep what there is, Word tells these words. -/
def Tells (q : Option Addr) (g : Int → Int) (w : World) : Prop := ∀ w', Below w.heap.size w w' → ∀ n, Calls Tryd.prog 51 #[.pointer q, .int .i64 n] w' fun e w'' => e = .returned (.int .i64 (g n)) ∧ w'' = w'
theorem Tells.next {q : Option Addr} {g : Int → Int} {w w' : World} (h : Tells q g w) (k : Below w.heap.size w w') : Tells q g w' := fun u hu n => h u (bnext k hu) n
theorem tells_made {w : World} {b : Nat} {f : Nat → Int} {wr rd st lo bu : Int} (h : HasM w b true f wr rd st lo bu) : Tells (some ⟨b, 0, none⟩) (wordAt f) w := fun u hu n => word_is b f _ _ _ _ _ u (h.next hu) n _ rfl
theorem word_nil (n : Int) (w : World) : Calls Tryd.prog 51 #[.pointer none, .int .i64 n] w fun e w' => e = .returned (.int .i64 0) ∧ w' = w := by
  go_enter Tryd.func51, Tryd.ntmps51
  go_wp2_with (first | (go_at_call 40; refine (missing_nil _).mono ?_; rintro e w' ⟨rfl, hw⟩; subst w') | (go_at_call 39; refine (word_any _ _).mono ?_; rintro e w' ⟨rfl, hw⟩; subst w'))
  go_ret
  exact ⟨rfl, rfl⟩
theorem tells_nil (w : World) : Tells none (fun _ => 0) w := fun u _ n => word_nil n u
theorem one_all (l : List Value) (h : ∀ v ∈ l, v.oneCell' = true) : l.toArray.all (·.oneCell') = true := by
  rw [← Array.all_toList, List.all_eq_true]
  exact h
end Go.Proofs.YtnhjhmfiapjenaaDoor
