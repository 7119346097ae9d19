/- Contracts of package pad: what each of its functions returns. -/
import Derived.Test.YtnoggfnidaifkaaGreatDoorConsoleNobodyJ03
import Derived.Test.YtnoggfnidaifkaaGreatDoorConsoleNobodyJ01
namespace Go.Proofs.YtnoggfnidaifkaaGreatDoor.J23
set_option maxRecDepth 20000
open Go.RowKit
set_option linter.unusedVariables false
set_option linter.unusedSimpArgs false
theorem wpQuiet_mid {P : Program} {ops : Array Oper} {C : World → Prop} {Q : Act → Prop} {a : Act} {o : Oper} {rest : List Oper} (hw : Region.wanted o (yielded ops a.tmps) = true) (ty : TypeId) (x : Operand) (ho : o.op = .load ty x)
    (b off : Nat) (hx : a.eval x = .pointer (some ⟨b, off, none⟩)) (cs : Array Value) (d : TypeDesc) (hc : ∀ w, C w → w.rangeAt b off cs.toList)
    (hu : P.underlying ty = some d) (hd : d.isRow = true) (hi : (P.info? ty).map (·.size) = some cs.size)
    (h : wpQuiet P ops C Q rest (a.put o.dst (.agg cs))) : wpQuiet P ops C Q (o :: rest) a := by
  unfold wpQuiet
  rw [if_pos hw]
  refine ⟨.agg cs, fun w hC => ?_, h⟩
  unfold Oper.quietAt execOp
  have k := run_loadVar_mid (P := P) w b off ty cs.toList d (hc w hC) hu hd (by rw [Array.length_toList]; exact hi)
  simp only [ho, hx, Instr.loadAt, Instr.sureAddr, Sem.run_bind, Sem.run_pure, Result.andThen_ok, k]
  exact ⟨rfl, rfl⟩
def HasP (t : TypeId) (w : World) (b : Nat) (s c d : Bool) (i : Int) : Prop := w.heap[b]? = some (.cells #[.bool s, .bool c, .bool d, .int .i64 i] t (0, 0))
theorem HasP.lt {t : TypeId} {w : World} {b : Nat} {s c d : Bool} {i : Int} (h : HasP t w b s c d i) : b < w.heap.size := lt_of_block h
theorem HasP.next {t : TypeId} {w : World} {b : Nat} {s c d : Bool} {i : Int} (h : HasP t w b s c d i) {w' : World} (k : Below w.heap.size w w') : HasP t w' b s c d i := (k.block b (lt_of_block h)).trans h
theorem HasP.c0 {t : TypeId} {w : World} {b : Nat} {s c d : Bool} {i : Int} (h : HasP t w b s c d i) : w.cell? ⟨b, 0, none⟩ = some (.bool s) := (cell_of_row w b 0 _ _ _ h).trans rfl
theorem HasP.c1 {t : TypeId} {w : World} {b : Nat} {s c d : Bool} {i : Int} (h : HasP t w b s c d i) : w.cell? ⟨b, 1, none⟩ = some (.bool c) := (cell_of_row w b 1 _ _ _ h).trans rfl
theorem HasP.c2 {t : TypeId} {w : World} {b : Nat} {s c d : Bool} {i : Int} (h : HasP t w b s c d i) : w.cell? ⟨b, 2, none⟩ = some (.bool d) := (cell_of_row w b 2 _ _ _ h).trans rfl
theorem HasP.c3 {t : TypeId} {w : World} {b : Nat} {s c d : Bool} {i : Int} (h : HasP t w b s c d i) : w.cell? ⟨b, 3, none⟩ = some (.int .i64 i) := (cell_of_row w b 3 _ _ _ h).trans rfl
theorem HasP.frozen {t : TypeId} {w : World} {b : Nat} {s c d : Bool} {i : Int} (h : HasP t w b s c d i) (j : Nat) : w.frozen? ⟨b, j, none⟩ = false := frozen_of_row w b j _ _ h
theorem HasP.set1 {t : TypeId} {w : World} {b : Nat} {s c d : Bool} {i : Int} (h : HasP t w b s c d i) (x : Bool) : HasP t (w.setCell ⟨b, 1, none⟩ (.bool x)) b s x d i := heap_setCell_same w b 1 _ _ _ h
theorem HasP.set2 {t : TypeId} {w : World} {b : Nat} {s c d : Bool} {i : Int} (h : HasP t w b s c d i) (x : Bool) : HasP t (w.setCell ⟨b, 2, none⟩ (.bool x)) b s c x i := heap_setCell_same w b 2 _ _ _ h
theorem HasP.other {t : TypeId} {w : World} {b : Nat} {s c d : Bool} {i : Int} (h : HasP t w b s c d i) (p : Addr) (v : Value) (hb : b ≠ p.block) : HasP t (w.setCell p v) b s c d i := (heap_setCell_other w p b v hb).trans h
theorem hasP_new (t : TypeId) (w : World) (s c d : Bool) (i : Int) : HasP t (w.alloc (.cells #[.bool s, .bool c, .bool d, .int .i64 i] t)) w.heap.size s c d i := heap_alloc_new _ _
def pc (K : Nat → Int) (X : Nat → Bool) : Nat → Value := fun j => if j % 2 = 0 then .int .i64 (K (j / 2)) else .bool (X (j / 2))
theorem pc_part (K : Nat → Int) (X : Nat → Bool) (n : Nat) : rowF (fun j => pc K X (n * 2 + j)) 2 = #[.int .i64 (K n), .bool (X n)] := by
  show (([0, 1] : List Nat).map fun j => pc K X (n * 2 + j)).toArray = _
  simp [pc, show (n * 2 + 1) / 2 = n by omega]
def bndI (i : Int) : Int := if i < 0 ∨ 5 < i then 5 else i
theorem bounded_any (i : Int) (w : World) : Calls Tryz.prog 283 #[.int .i64 i] w fun e w' => e = Ending.returned (.int .i64 (bndI i)) ∧ w' = w := by
  unfold bndI
  by_cases h0 : i < 0
  · rw [if_pos (.inl h0)]
    go_enter Tryz.func283, Tryz.ntmps283
    go_wp2
    go_ret
    exact ⟨rfl, rfl⟩
  · by_cases h5 : 5 < i
    · rw [if_pos (.inr h5)]
      go_enter Tryz.func283, Tryz.ntmps283
      go_wp2
      go_ret
      exact ⟨rfl, rfl⟩
    · rw [if_neg (by omega)]
      go_enter Tryz.func283, Tryz.ntmps283
      go_wp2
      go_ret
      exact ⟨rfl, rfl⟩
theorem four_0 (k : Int) (w : World) : Calls Tryz.prog 261 #[.int .i64 k, .int .i64 0] w fun e w' => e = Ending.returned (.int .i64 (k % 65536 / 1 % 16)) ∧ w' = w := by
  have HM := hide (and_15 (k % 65536 / 1))
  go_enter Tryz.func261, Tryz.ntmps261
  go_wp2_with (first | (go_at_call 24; refine (word_any _ _).mono ?_; rintro e w' ⟨rfl, hw⟩; subst w'))
  go_ret
  exact ⟨ret_int (by first | exact HM.out | simpa using HM.out), rfl⟩
theorem four_4 (k : Int) (w : World) : Calls Tryz.prog 261 #[.int .i64 k, .int .i64 4] w fun e w' => e = Ending.returned (.int .i64 (k % 65536 / 16 % 16)) ∧ w' = w := by
  have HM := hide (and_15 (k % 65536 / 16))
  go_enter Tryz.func261, Tryz.ntmps261
  go_wp2_with (first | (go_at_call 24; refine (word_any _ _).mono ?_; rintro e w' ⟨rfl, hw⟩; subst w'))
  go_ret
  exact ⟨ret_int (by first | exact HM.out | simpa using HM.out), rfl⟩
theorem four_8 (k : Int) (w : World) : Calls Tryz.prog 261 #[.int .i64 k, .int .i64 8] w fun e w' => e = Ending.returned (.int .i64 (k % 65536 / 256 % 16)) ∧ w' = w := by
  have HM := hide (and_15 (k % 65536 / 256))
  go_enter Tryz.func261, Tryz.ntmps261
  go_wp2_with (first | (go_at_call 24; refine (word_any _ _).mono ?_; rintro e w' ⟨rfl, hw⟩; subst w'))
  go_ret
  exact ⟨ret_int (by first | exact HM.out | simpa using HM.out), rfl⟩
def askOf (s d : Bool) (k : Int) (x : Bool) : Int := if d && x then (if s then 15 else k % 65536 / 256 % 16) else if s then k % 65536 / 16 % 16 else k % 65536 / 1 % 16
theorem askOf_in (s d : Bool) (k : Int) (x : Bool) : 0 ≤ askOf s d k x ∧ askOf s d k x < 16 := by
  unfold askOf
  split
  · split <;> omega
  · split <;> omega
theorem asked_any (s c d : Bool) (i k : Int) (x : Bool) (w : World) : Calls Tryz.prog 210 #[.agg #[.bool s, .bool c, .bool d, .int .i64 i], .agg #[.int .i64 k, .bool x]] w fun e w' => e = Ending.returned (.int .i64 (askOf s d k x)) ∧ Below w.heap.size w w' := by
  cases s <;> cases d <;> cases x <;> simp only [askOf, Bool.and_true, Bool.and_false, Bool.true_and, Bool.false_and, if_true, if_false, Bool.false_eq_true]
  all_goals
    go_enter Tryz.func210, Tryz.ntmps210
    go_wp2_with (first
      | (go_at_call_of 261 (Value.int .i64 0); refine (four_0 _ _).mono ?_; rintro e w' ⟨rfl, hw⟩; subst w')
      | (go_at_call_of 261 (Value.int .i64 4); refine (four_4 _ _).mono ?_; rintro e w' ⟨rfl, hw⟩; subst w')
      | (go_at_call_of 261 (Value.int .i64 8); refine (four_8 _ _).mono ?_; rintro e w' ⟨rfl, hw⟩; subst w'))
    go_ret
    exact ⟨by first | rfl | exact ret_int (by omega), ((Below.refl _ w).alloc (Nat.le_refl _) _).alloc (by simp) _⟩
def preOf (s d : Bool) (i : Int) (K : Nat → Int) (X : Nat → Bool) : Int := if 0 ≤ i ∧ i < 5 then askOf s d (K i.toNat) (X i.toNat) else 0
theorem preOf_in (s d : Bool) (i : Int) (K : Nat → Int) (X : Nat → Bool) : 0 ≤ preOf s d i K X ∧ preOf s d i K X < 16 := by
  unfold preOf
  split
  · exact askOf_in _ _ _ _
  · omega
def rdOf (s d : Bool) (i : Int) (K : Nat → Int) (X : Nat → Bool) (ab : Bool) : Int := (if ab then 191 else 255) - preOf s d i K X
theorem put_home (ab : Bool) : putOf 176 6 (!ab) = if ab then 176 else 240 := by cases ab <;> decide
theorem read_in (s c d : Bool) (n : Nat) (K : Nat → Int) (X : Nat → Bool) (ab : Bool) (p : Int) (hn : n < 5) (hp : Hid (askOf s d (K n) (X n) = p)) (p0 : 0 ≤ p) (p1 : p < 16) (w : World) :
    Calls Tryz.prog 151 #[.agg #[.bool s, .bool c, .bool d, .int .i64 n], .agg (rowF (pc K X) 10), .bool ab] w fun e w' => e = Ending.returned (.int .i64 ((if ab then 191 else 255) - p)) ∧ Below w.heap.size w w' := by
  have KA := hide (fun w => asked_any s c d n (K n) (X n) w)
  rw [hp.out] at KA
  have KP := hide (fun w => put_any 176 6 (!ab) w)
  rw [put_home] at KP
  have HE : Hid ((if ab then (176 : Int) else 240) + 15 - p = (if ab then (191 : Int) else 255) - p) := hide (by cases ab <;> simp)
  have hq : 0 ≤ (if ab then (176 : Int) else 240) ∧ (if ab then (176 : Int) else 240) ≤ 240 := by cases ab <;> simp
  generalize (if ab then (176 : Int) else 240) = q at *
  generalize (if ab then (191 : Int) else 255) = r at *
  go_enter Tryz.func151, Tryz.ntmps151
  go_wp2_with fail
  refine under_name fun wa hwa => ?_
  have P0 : HasP 65 wa w.heap.size s c d n := by rw [hwa]; exact (hasP_new _ _ _ _ _ _).next ((Below.refl _ _).alloc (Nat.le_refl _) _)
  have Q0 : HasF 68 wa (w.heap.size + 1) 10 (pc K X) := by rw [hwa]; exact hasF_new2 _ _ _ _ _
  have BA : Hid (Below w.heap.size w wa) := hide (by rw [hwa]; exact ((Below.refl _ w).alloc (Nat.le_refl _) _).alloc (by simp) _)
  have i0 := kept_cell P0.c0 P0.lt
  have i1 := kept_cell P0.c1 P0.lt
  have i2 := kept_cell P0.c2 P0.lt
  have i3 := kept_cell P0.c3 P0.lt
  have RQ := hide (Q0.range (n * 2) 2 (by omega))
  rw [pc_part] at RQ
  have HQ := hide Q0.lt
  clear hwa P0 Q0
  haveI := kept_some wa
  refine wp_region_kept (by kernel_rfl) (by kernel_rfl) ?_
  repeat (first
    | (refine wpQuiet_mid rfl 67 (.tmp 19) rfl (w.heap.size + 1) (n * 2) rfl #[.int .i64 (K n), .bool (X n)] _ (fun w' ⟨x, hx⟩ => by rw [hx]; intro j v hv; rw [x.cell (w.heap.size + 1) _ HQ.out]; exact RQ.out j v hv) Tryz.underlying67 rfl (by kernel_rfl) ?_; simp only [Act.put, List.setIfInBounds_toArray, List.set_cons_succ, List.set_cons_zero])
    | go_big_quiet_step ((go_at_call 210; exact kept_call (KA.out _))))
  refine wpQuiet_nil ?_
  rintro _ ⟨wk, rfl⟩
  go_wp2_with (first | (go_at_call 187; refine (KP.out _).mono ?_; rintro e w2 ⟨rfl, b2⟩))
  go_ret
  exact ⟨ret_int HE.out, bnext (bnext BA.out wk.below) b2⟩
theorem read_out (s c d : Bool) (i : Int) (K : Nat → Int) (X : Nat → Bool) (ab : Bool) (hi : i < 0 ∨ 5 ≤ i) (w : World) :
    Calls Tryz.prog 151 #[.agg #[.bool s, .bool c, .bool d, .int .i64 i], .agg (rowF (pc K X) 10), .bool ab] w fun e w' => e = Ending.returned (.int .i64 (if ab then 191 else 255)) ∧ Below w.heap.size w w' := by
  have KP := hide (fun w => put_any 176 6 (!ab) w)
  rw [put_home] at KP
  have HE : Hid ((if ab then (176 : Int) else 240) + 15 = (if ab then (191 : Int) else 255)) := hide (by cases ab <;> simp)
  have hq : 0 ≤ (if ab then (176 : Int) else 240) ∧ (if ab then (176 : Int) else 240) ≤ 240 := by cases ab <;> simp
  generalize (if ab then (176 : Int) else 240) = q at *
  generalize (if ab then (191 : Int) else 255) = r at *
  generalize rowF (pc K X) 10 = R at *
  rcases hi with hi | hi
  all_goals
    go_enter Tryz.func151, Tryz.ntmps151
    go_wp2_with (first | (go_at_call 187; refine (KP.out _).mono ?_; rintro e w2 ⟨rfl, b2⟩))
    go_ret
    exact ⟨ret_int (by have := HE.out; omega), bnext (((Below.refl _ w).alloc (Nat.le_refl _) _).alloc (by simp) _) b2⟩
theorem read_any (s c d : Bool) (i : Int) (K : Nat → Int) (X : Nat → Bool) (ab : Bool) (w : World) :
    Calls Tryz.prog 151 #[.agg #[.bool s, .bool c, .bool d, .int .i64 i], .agg (rowF (pc K X) 10), .bool ab] w fun e w' => e = Ending.returned (.int .i64 (rdOf s d i K X ab)) ∧ Below w.heap.size w w' := by
  unfold rdOf preOf
  by_cases h : 0 ≤ i ∧ i < 5
  · rw [if_pos h]
    obtain ⟨n, rfl⟩ := Int.eq_ofNat_of_zero_le h.1
    exact read_in s c d n K X ab _ (by omega) (hide rfl) (askOf_in _ _ _ _).1 (askOf_in _ _ _ _).2 w
  · rw [if_neg h, Int.sub_zero]
    exact read_out s c d i K X ab (by omega) w
end Go.Proofs.YtnoggfnidaifkaaGreatDoor.J23
