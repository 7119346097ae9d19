/- Package vram: the contracts of New, missing, SetWrite, SetStep, Word, Poke, SetRead, Ports at video memory that a call made. -/
import Derived.Test.YtnhjhmfiapjenaaDoorMem13
import Derived.Deep.RegionWith
namespace Go.Proofs.YtnhjhmfiapjenaaDoor
open Go.RowKit
set_option linter.unusedVariables false

theorem new_any (w : World) : Calls Tryd.prog 16 #[] w fun e w' => e = .returned (.pointer (some ⟨w.heap.size, 0, none⟩)) ∧ HasM w' w.heap.size true (fun _ => 0) 0 0 1 0 0 ∧ Below w.heap.size w w' := by
  go_enter Tryd.func16, Tryd.ntmps16
  go_wp2_with (first | (refine wpList_built rfl 94 _ rfl #[(0, .bool true), (4, .int .i64 1)] (by simp [Act.eval]) _ run_new ?_))
  go_ret
  exact ⟨rfl, hasM_new _ _ _ _ _ _ _ _, (Below.refl _ w).alloc (Nat.le_refl _) _⟩
theorem missing_is (b : Nat) (m : Bool) (w : World) (c0 : w.cell? ⟨b, 0, none⟩ = some (.bool m)) : Calls Tryd.prog 40 #[.pointer (some ⟨b, 0, none⟩)] w fun e w' => e = .returned (.bool (!m)) ∧ w' = w := by
  go_enter Tryd.func40, Tryd.ntmps40
  go_wp2
  go_ret
  exact ⟨rfl, rfl⟩
theorem missing_nil (w : World) : Calls Tryd.prog 40 #[.pointer none] w fun e w' => e = .returned (.bool true) ∧ w' = w := by
  go_enter Tryd.func40, Tryd.ntmps40
  go_wp2
  go_ret
  exact ⟨rfl, rfl⟩
theorem results_five {fn : Func} {a b c d e : Tmp} (h : fn.results = #[.tmp a, .tmp b, .tmp c, .tmp d, .tmp e]) (tmps : Array Value) (P : Program) (w : World) :
    (results fn tmps).run P w = .ok (.tuple #[tmps.getD a undef, tmps.getD b undef, tmps.getD c undef, tmps.getD d undef, tmps.getD e undef]) w := by
  simp [results, h]
/-- The word at a place. -/
def wordAt (f : Nat → Int) (n : Int) : Int := if n % 65536 < 32768 then f (n % 65536).toNat else 0
/-- The words behind one that is laid at a place. -/
def pokeAt (f : Nat → Int) (n x : Int) : Nat → Int := if n % 65536 < 32768 then upd f (n % 65536).toNat (x % 65536) else f
theorem word_is (b : Nat) (f : Nat → Int) (wr rd st lo bu : Int) (w : World) (h : HasM w b true f wr rd st lo bu) (n x : Int) (hx : wordAt f n = x) : Calls Tryd.prog 51 #[.pointer (some ⟨b, 0, none⟩), .int .i64 n] w fun e w' => e = .returned (.int .i64 x) ∧ w' = w := by
  have c0 := h.c0
  obtain ⟨p, hp⟩ : ∃ p, n % 65536 = p := ⟨_, rfl⟩
  have h0 : 0 ≤ p := by omega
  by_cases hlt : p < 32768
  · have e : x = f p.toNat := by rw [← hx]; unfold wordAt; rw [hp, if_pos hlt]
    have cj := h.at p.toNat (by omega)
    rw [← e] at cj
    clear e hx h
    go_enter Tryd.func51, Tryd.ntmps51
    go_wp2_with (first | (go_at_call 40; refine (missing_is b true _ c0).mono ?_; rintro e w' ⟨rfl, hw⟩; subst w') | (go_at_call 39; refine (word_any _ _).mono ?_; rintro e w' ⟨rfl, hw⟩; subst w'))
    go_ret
    exact ⟨rfl, rfl⟩
  · have e : x = 0 := by rw [← hx]; unfold wordAt; rw [hp, if_neg hlt]
    clear hx h
    subst e
    go_enter Tryd.func51, Tryd.ntmps51
    go_wp2_with (first | (go_at_call 40; refine (missing_is b true _ c0).mono ?_; rintro e w' ⟨rfl, hw⟩; subst w') | (go_at_call 39; refine (word_any _ _).mono ?_; rintro e w' ⟨rfl, hw⟩; subst w'))
    go_ret
    exact ⟨rfl, rfl⟩
theorem poke_is (b : Nat) (f : Nat → Int) (wr rd st lo bu : Int) (w : World) (h : HasM w b true f wr rd st lo bu) (n x : Int) (F : Nat → Int) (hF : pokeAt f n x = F) : Calls Tryd.prog 18 #[.pointer (some ⟨b, 0, none⟩), .int .i64 n, .int .i64 x] w fun e w' => e = .returned (.tuple #[]) ∧ HasM w' b true F wr rd st lo bu ∧ Only b w w' := by
  have c0 := h.c0
  obtain ⟨p, hp⟩ : ∃ p, n % 65536 = p := ⟨_, rfl⟩
  have h0 : 0 ≤ p := by omega
  obtain ⟨y, hy⟩ : ∃ y, x % 65536 = y := ⟨_, rfl⟩
  by_cases hlt : p < 32768
  · have e : F = upd f p.toNat y := by rw [← hF]; unfold pokeAt; rw [hp, if_pos hlt, hy]
    have HP := hide (show p.toNat < 32768 by omega)
    have cj := h.at p.toNat HP.out
    have zj := h.frozen (1 + p.toNat)
    have H := hide h
    subst e
    clear hF h
    go_enter Tryd.func18, Tryd.ntmps18
    go_wp2_with (first | (go_at_call 40; refine (missing_is b true _ c0).mono ?_; rintro e w' ⟨rfl, hw⟩; subst w') | (go_at_call 39; refine (word_any _ _).mono ?_; rintro e w' ⟨rfl, hw⟩; subst w'))
    go_region_with (first | (go_at_call 39; refine (word_any _ _).mono ?_; rintro e w' ⟨rfl, hw⟩; subst w'))
    all_goals (try go_wp2)
    all_goals
      go_end0
      exact ⟨rfl, H.out.set p.toNat HP.out y, (Only.refl b w).set _ _⟩
  · have e : F = f := by rw [← hF]; unfold pokeAt; rw [hp, if_neg hlt]
    have H := hide h
    subst e
    clear hF h
    go_enter Tryd.func18, Tryd.ntmps18
    go_wp2_with (first | (go_at_call 40; refine (missing_is b true _ c0).mono ?_; rintro e w' ⟨rfl, hw⟩; subst w') | (go_at_call 39; refine (word_any _ _).mono ?_; rintro e w' ⟨rfl, hw⟩; subst w'))
    refine bodyPost_ret (results_none rfl _ _ _) rfl ?_
    exact ⟨rfl, H.out, Only.refl b w⟩
end Go.Proofs.YtnhjhmfiapjenaaDoor
