/- Package regs: the contracts of half, brings, Fresh, Write, Valid. -/
import Derived.Test.YtbgbedkmggefpaaDoorRow15
import Derived.Test.YtbgbedkmggefpaaDoorPlain15
import Derived.Test.YtbgbedkmggefpaaDoorLast2
namespace Go.Proofs.YtbgbedkmggefpaaDoor
open Go.RowKit
set_option linter.unusedVariables false

/-- The table of the bits that each register may have, as its cells lie. -/
def maskCells : Array Value := (maskL.map (Value.int .i64)).toArray
def HasMask (w : World) : Prop := ∃ t fr, w.heap[0]? = some (.cells maskCells t fr)
theorem HasMask.pos {w : World} (h : HasMask w) : 0 < w.heap.size := by
  obtain ⟨t, fr, e⟩ := h
  exact lt_of_block e
theorem HasMask.next {w w' : World} (h : HasMask w) (b : Below w.heap.size w w') : HasMask w' := by
  have k := h.pos
  obtain ⟨t, fr, e⟩ := h
  exact ⟨t, fr, (b.block 0 k).trans e⟩
theorem mask_cell : ∀ k : Fin 20, maskL[k.val]? = some (mk k.val) := by decide +kernel
theorem HasMask.at {w : World} (h : HasMask w) (k : Nat) (hk : k < 20) : w.cell? ⟨0, k, none⟩ = some (.int .i64 (mk k)) := by
  obtain ⟨t, fr, e⟩ := h
  rw [cell_of_row w 0 k _ _ _ e]
  have := mask_cell ⟨k, hk⟩
  simp only at this
  simp [maskCells, this]

def halfOf (n a b : Int) : Int := if a = 2 then lowOf n b else highOf n b
theorem half_any (n a b x : Int) (hx : halfOf n a b = x) (w : World) : Calls Tryd.prog 19 #[.int .i64 n, .int .i64 a, .int .i64 b] w fun e w' => e = .returned (.int .i64 x) ∧ Below w.heap.size w w' := by
  unfold halfOf lowOf highOf at hx
  have HX := hide hx
  clear hx
  by_cases h : a = 2
  · have HH := hide h
    go_enter Tryd.func19, Tryd.ntmps19
    go_wp2_with (first | (go_at_call 30; refine (split_any _ _).mono ?_; rintro e w' ⟨rfl, hw⟩; subst w') | (go_at_call 31; refine (join_any _ _ _).mono ?_; rintro e w' ⟨rfl, bw⟩))
    go_ret
    exact ⟨ret_int (by rw [← HX.out, if_pos HH.out]), bw⟩
  · have HH := hide h
    go_enter Tryd.func19, Tryd.ntmps19
    go_wp2_with (first | (go_at_call 30; refine (split_any _ _).mono ?_; rintro e w' ⟨rfl, hw⟩; subst w') | (go_at_call 31; refine (join_any _ _ _).mono ?_; rintro e w' ⟨rfl, bw⟩))
    go_ret
    exact ⟨ret_int (by rw [← HX.out, if_neg HH.out]), bw⟩

def bringsOf (s a : Int) : Int := if s = 0 then 1 else if a = 2 then (if s = 2 then 3 else 0) else if s = 1 then 2 else if s = 2 then 4 else if s = 5 then 5 else if s = 18 then 6 else if s = 19 then 7 else 0
theorem brings_any (s a x : Int) (hx : bringsOf s a = x) (w : World) : Calls Tryd.prog 20 #[.int .i64 s, .int .i64 a] w fun e w' => e = .returned (.int .i64 x) ∧ w' = w := by
  unfold bringsOf at hx
  have HX := hide hx
  clear hx
  by_cases h0 : s = 0
  · rw [if_pos h0] at HX
    subst h0
    go_enter Tryd.func20, Tryd.ntmps20
    go_wp2
    go_ret
    exact ⟨ret_int HX.out, rfl⟩
  · rw [if_neg h0] at HX
    by_cases ha : a = 2
    · rw [if_pos ha] at HX
      subst ha
      by_cases h2 : s = 2
      · rw [if_pos h2] at HX
        subst h2
        go_enter Tryd.func20, Tryd.ntmps20
        go_wp2
        go_ret
        exact ⟨ret_int HX.out, rfl⟩
      · rw [if_neg h2] at HX
        go_enter Tryd.func20, Tryd.ntmps20
        go_wp2
        go_ret
        exact ⟨ret_int HX.out, rfl⟩
    · rw [if_neg ha] at HX
      have ha2 : (a == 2) = false := by simpa using ha
      by_cases h1 : s = 1
      · subst h1
        go_enter Tryd.func20, Tryd.ntmps20
        go_wp2
        go_ret
        exact ⟨ret_int HX.out, rfl⟩
      · by_cases h2 : s = 2
        · subst h2
          go_enter Tryd.func20, Tryd.ntmps20
          go_wp2
          go_ret
          exact ⟨ret_int HX.out, rfl⟩
        · by_cases h5 : s = 5
          · subst h5
            go_enter Tryd.func20, Tryd.ntmps20
            go_wp2
            go_ret
            exact ⟨ret_int HX.out, rfl⟩
          · by_cases h8 : s = 18
            · subst h8
              go_enter Tryd.func20, Tryd.ntmps20
              go_wp2
              go_ret
              exact ⟨ret_int HX.out, rfl⟩
            · by_cases h9 : s = 19
              · subst h9
                go_enter Tryd.func20, Tryd.ntmps20
                go_wp2
                go_ret
                exact ⟨ret_int HX.out, rfl⟩
              · rw [if_neg h1, if_neg h2, if_neg h5, if_neg h8, if_neg h9] at HX
                go_enter Tryd.func20, Tryd.ntmps20
                go_wp2
                go_ret
                exact ⟨ret_int HX.out, rfl⟩

end Go.Proofs.YtbgbedkmggefpaaDoor
