/- Package psg: the voices of a sound. -/
import Derived.Test.YtcpilhbinkamiaaDoorGain22
import Derived.Test.YtcpilhbinkamiaaDoorFacts
import Derived.Test.YtcpilhbinkamiaaDoorLastAny
namespace Go.Proofs.YtcpilhbinkamiaaDoor
open Go.RowKit
set_option linter.unusedVariables false

def accs (f : Nat → Int) : Nat → Int := fun k => ch f k 37
/-- The periods as they are told first. -/
def per0 (f : Nat → Int) : Nat → Int := fun k => if nyOf f k = true then 6 * perOf (ch f k 3) else 6 * orL (ch f k 0) 4096
/-- A voice as it is told first. -/
def vFst (f : Nat → Int) (k j : Nat) : Value := if j = 45 then .bool (soOf f k) else vAt f (accs f) (per0 f) k j
theorem vFst_one (f : Nat → Int) (k j : Nat) : (vFst f k j).oneCell' = true := by
  unfold vFst
  split
  · rfl
  · exact vAt_one _ _ _ _ _
def zV (i : Nat) : Value := if 42 ≤ i % 48 ∧ i % 48 < 46 then .bool false else .int .i64 0
def vPart (f : Nat → Int) (n : Nat) : Nat → Value := fun i => if i / 48 < n then vFst f (i / 48) (i % 48) else zV i
theorem zero_V (w : World) : (zeroValue 53).run Tryd.prog w = .ok (.agg (rowF zV 288)) w := by kernel_rfl
theorem info_V (c : Nat → Value) : (Tryd.prog.info? 53).map (·.size) = some (rowF c 288).size := by
  rw [rowF_size]
  kernel_rfl
theorem info_48 : (Tryd.prog.info? 52).map (·.size) = some 48 := by kernel_rfl
theorem info_240 : (Tryd.prog.info? 25).map (·.size) = some 240 := by kernel_rfl
theorem vPart_next (f : Nat → Int) (k : Nat) : ∀ j, j < 288 → (if k * 48 ≤ j ∧ j < k * 48 + 48 then vFst f k (j - k * 48) else vPart f k j) = vPart f (k + 1) j := fun j hj => by
  unfold vPart
  by_cases h : k * 48 ≤ j ∧ j < k * 48 + 48
  · rw [if_pos h, if_pos (by omega), show j / 48 = k by omega, show j % 48 = j - k * 48 by omega]
  · rw [if_neg h]
    by_cases h2 : j / 48 < k
    · rw [if_pos h2, if_pos (by omega)]
    · rw [if_neg h2, if_neg (by omega)]
theorem built_voice (f : Nat → Int) (k : Nat) (w : World) : (Instr.build 52 #[(0, .agg #[.int .i64 (ch f k 37), .int .i64 (per0 f k)]), (1, .agg (rowF (iv (ch f k)) 40)), (2, .bool (nyOf f k)), (3, .bool (drOf f k)), (4, .bool (soOf f k && !drOf f k)), (5, .bool (soOf f k)), (6, .agg #[.int .i64 (glOf f k), .int .i64 (grOf f k)])]).run Tryd.prog w = .ok (.agg (rowF (vFst f k) 48)) w := run_build w _ _ _ (by kernel_rfl)
theorem chan_index (f : Nat → Int) (k : Nat) (hk : k < 6) (w : World) : (Instr.index 25 (.agg (rowF (iv fun j => f (4 + j)) 240)) (.int .i64 (k : Int))).run Tryd.prog w = .ok (.agg (rowF (iv (ch f k)) 40)) w := by
  have e := part_row (t := 24) Tryd.underlying24 rfl info_40 (iv fun j => f (4 + j)) 240 (k * 40) (by omega) w
  have z := size_of info_40 w
  have x : rowF (fun j => iv (fun j => f (4 + j)) (k * 40 + j)) 40 = rowF (iv (ch f k)) 40 := rowF_ext fun j hj => by
    show Value.int .i64 (f (4 + (k * 40 + j))) = .int .i64 (f (4 + k * 40 + j))
    rw [Nat.add_assoc]
  rw [x] at e
  have h0 : (0 : Int) ≤ k ∧ (k : Int) < ((6 : Nat) : Int) := by omega
  have h1 : (k : Int) < 6 := by omega
  generalize rowF (iv fun j => f (4 + j)) 240 = cs at e ⊢
  simp only [Instr.index, asIntOf]
  simp only [run_underlying Tryd.underlying25, Sem.run_bind, Result.andThen]
  simp [h0, h1, z, e, Result.andThen]
def voR (g5 b g3 : Nat) (f : Nat → Int) (k : Nat) (xa p mn gl gr : Int) (ny dr on : Bool) (V : Array Value) : Nat → Value → World → Prop
  | 0, v, _ => v = .int .i64 (k : Int)
  | 1, v, _ => v = .pointer (some ⟨g5, 37, none⟩)
  | 2, v, _ => v = .int .i64 xa
  | 3, v, _ => v = .bool ny
  | 4, v, _ => v = .int .i64 p
  | 5, v, _ => v = .agg #[.int .i64 xa, .int .i64 p]
  | 6, v, _ => v = .agg (rowF (iv (ch f k)) 40)
  | 7, v, _ => v = .bool ny
  | 8, v, _ => v = .bool dr
  | 9, v, _ => v = .bool on
  | 10, v, _ => v = .bool on
  | 11, v, _ => on = true → v = .bool dr
  | 12, v, _ => on = true → v = .bool (!dr)
  | 13, v, _ => v = .bool (on && !dr)
  | 14, v, _ => v = .bool on
  | 15, v, _ => v = .pointer (some ⟨b, 0, none⟩)
  | 16, v, _ => v = .pointer (some ⟨b, 0, none⟩)
  | 17, v, _ => v = .pointer (some ⟨b, 1, none⟩)
  | 18, v, _ => v = .int .i64 mn
  | 19, v, _ => v = .agg #[.int .i64 gl, .int .i64 gr]
  | 20, v, _ => v = .agg V
  | 21, v, _ => v = .pointer (some ⟨g3, k * 48, none⟩)
  | _, _, _ => True
theorem voR_next {g5 b g3 : Nat} {f : Nat → Int} {k : Nat} {xa p mn gl gr : Int} {ny dr on : Bool} {V : Array Value} : ∀ i v w w', voR g5 b g3 f k xa p mn gl gr ny dr on V i v w → Below w.heap.size w w' → voR g5 b g3 f k xa p mn gl gr ny dr on V i v w' := by
  intro i v w w' h _
  match i, h with
  | 0, h => exact h
  | 1, h => exact h
  | 2, h => exact h
  | 3, h => exact h
  | 4, h => exact h
  | 5, h => exact h
  | 6, h => exact h
  | 7, h => exact h
  | 8, h => exact h
  | 9, h => exact h
  | 10, h => exact h
  | 11, h => exact h
  | 12, h => exact h
  | 13, h => exact h
  | 14, h => exact h
  | 15, h => exact h
  | 16, h => exact h
  | 17, h => exact h
  | 18, h => exact h
  | 19, h => exact h
  | 20, h => exact h
  | 21, h => exact h
  | _ + 22, h => trivial
theorem vPart_at (f : Nat → Int) (k j : Nat) (hk : k < 6) (hj : j < 48) : vPart f 6 (k * 48 + j) = vFst f k j := by
  unfold vPart
  rw [show (k * 48 + j) / 48 = k by omega, show (k * 48 + j) % 48 = j by omega, if_pos hk]
theorem last_0 {f : Nat → Int} (h : lfoOf f = 0) : ∀ i, i < 288 → vPart f 6 i = vrow f (accs f) (per0 f) i := vrow_ext fun k j hk hj => by
  rw [vPart_at f k j hk hj]
  unfold vFst
  by_cases e : j = 45
  · subst e
    rw [if_pos rfl]
    show _ = Value.bool (heOf f k)
    unfold heOf
    rw [h]
    simp
  · rw [if_neg e]
theorem last_1 {f : Nat → Int} (h : lfoOf f ≠ 0) (v : Int) : ∀ i, i < 288 → updC (updC (vPart f 6) 49 (.int .i64 v)) 93 (.bool false) i = vrow f (accs f) (upN (per0 f) 1 v) i := vrow_ext fun k j hk hj => by
  rw [updC_at _ _ _ 1 45 k j rfl (by decide) hj, updC_at _ _ _ 1 1 k j rfl (by decide) hj, vPart_at f k j hk hj]
  by_cases e : k = 1 ∧ j = 45
  · obtain ⟨rfl, rfl⟩ := e
    rw [if_pos ⟨rfl, rfl⟩]
    show _ = Value.bool (heOf f 1)
    unfold heOf
    simp [h]
  · rw [if_neg e]
    by_cases e2 : k = 1 ∧ j = 1
    · obtain ⟨rfl, rfl⟩ := e2
      rw [if_pos ⟨rfl, rfl⟩]
      rfl
    · rw [if_neg e2]
      unfold vFst
      by_cases e3 : j = 45
      · subst e3
        rw [if_pos rfl]
        show _ = Value.bool (heOf f k)
        unfold heOf
        simp [show ¬ k = 1 from fun c => e ⟨c, rfl⟩]
      · rw [if_neg e3]
        unfold vAt upN
        by_cases e4 : j = 1
        · subst e4
          simp [show ¬ k = 1 from fun c => e2 ⟨c, rfl⟩]
        · rw [if_neg (c := j = 1) e4, if_neg (c := j = 1) e4]
theorem pers_0 {f : Nat → Int} (h : lfoOf f = 0) : Pers f (per0 f) := fun k hk => .inr (by
  unfold per0 perK
  rw [if_neg (c := k = 0 ∧ lfoOf f ≠ 0) (by simp [h]), if_neg (c := k = 1 ∧ lfoOf f ≠ 0) (by simp [h])])
theorem per0_1 (f : Nat → Int) : per0 f 1 = 6 * orL (ch f 1 0) 4096 := by
  unfold per0 nyOf
  simp
theorem pers_1 {f : Nat → Int} (h : lfoOf f ≠ 0) : Pers f (upN (per0 f) 1 (per0 f 1 * orL (f 2) 256)) := fun k hk => by
  by_cases e : k = 0
  · exact .inl ⟨e, h⟩
  · refine .inr ?_
    unfold upN
    by_cases e1 : k = 1
    · subst e1
      rw [if_pos rfl, per0_1]
      unfold perK nyOf
      simp [h]
    · rw [if_neg e1]
      unfold per0 perK
      rw [if_neg (c := k = 0 ∧ lfoOf f ≠ 0) (by simp [e]), if_neg (c := k = 1 ∧ lfoOf f ≠ 0) (by simp [e1])]
end Go.Proofs.YtcpilhbinkamiaaDoor
