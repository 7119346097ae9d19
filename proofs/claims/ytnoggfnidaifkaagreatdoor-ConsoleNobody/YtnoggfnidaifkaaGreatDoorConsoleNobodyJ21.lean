/- Texts without a word of the program, one behind the other. -/
import Derived.Test.YtnoggfnidaifkaaGreatDoorConsoleNobodyJ03
import Derived.Laws.StructEq
import Derived.Laws.Rows
import Derived.Laws.Tables
import Derived.Laws.ResultCell
import Derived.Laws.CopyOwn
import Derived.WalkMore
import Derived.OneCell
import Derived.Handy
import Derived.Deep.Quiet
import Derived.BigFrame
namespace Go.Proofs.YtnoggfnidaifkaaGreatDoor.V12
set_option maxRecDepth 20000
open Go.RowKit
set_option linter.unusedVariables false
def rowV (c a : Int) (f : Nat → Int) : Array Value := (.int .i64 c :: .int .i64 a :: (List.range 512).map fun j => Value.int .i64 (f j)).toArray
theorem rowV_size (c a : Int) (f : Nat → Int) : (rowV c a f).size = 514 := by simp [rowV]
theorem rowV_0 (c a : Int) (f : Nat → Int) : (rowV c a f)[0]? = some (.int .i64 c) := by simp [rowV]
theorem rowV_1 (c a : Int) (f : Nat → Int) : (rowV c a f)[1]? = some (.int .i64 a) := by simp [rowV]
theorem rowV_at (c a : Int) (f : Nat → Int) (j : Nat) (h : j < 512) : (rowV c a f)[2 + j]? = some (.int .i64 (f j)) := by
  rw [show 2 + j = j + 1 + 1 by omega]
  simp [rowV, h]
def HasV (T : TypeId) (w : World) (b : Nat) (c a : Int) (f : Nat → Int) : Prop := w.heap[b]? = some (.cells (rowV c a f) T (0, 0))
theorem HasV.next {T : TypeId} {w w' : World} {b : Nat} {c a : Int} {f : Nat → Int} (h : HasV T w b c a f) (k : Below w.heap.size w w') : HasV T w' b c a f := (k.block b (lt_of_block h)).trans h
theorem HasV.alloc {T : TypeId} {w : World} {b : Nat} {c a : Int} {f : Nat → Int} (h : HasV T w b c a f) (x : Obj) : HasV T (w.alloc x) b c a f := h.next ((Below.refl _ w).alloc (Nat.le_refl _) _)
theorem hasV_new (T : TypeId) (w : World) (c a : Int) (f : Nat → Int) : HasV T (w.alloc (.cells (rowV c a f) T)) w.heap.size c a f := heap_alloc_new _ _
theorem HasV.lt {T : TypeId} {w : World} {b : Nat} {c a : Int} {f : Nat → Int} (h : HasV T w b c a f) : b < w.heap.size := lt_of_block h
theorem HasV.c0 {T : TypeId} {w : World} {b : Nat} {c a : Int} {f : Nat → Int} (h : HasV T w b c a f) : w.cell? ⟨b, 0, none⟩ = some (.int .i64 c) := (cell_of_row w b 0 _ _ _ h).trans (rowV_0 c a f)
theorem HasV.c1 {T : TypeId} {w : World} {b : Nat} {c a : Int} {f : Nat → Int} (h : HasV T w b c a f) : w.cell? ⟨b, 1, none⟩ = some (.int .i64 a) := (cell_of_row w b 1 _ _ _ h).trans (rowV_1 c a f)
theorem HasV.at {T : TypeId} {w : World} {b : Nat} {c a : Int} {f : Nat → Int} (h : HasV T w b c a f) (j : Nat) (hj : j < 512) : w.cell? ⟨b, 2 + j, none⟩ = some (.int .i64 (f j)) := (cell_of_row w b (2 + j) _ _ _ h).trans (rowV_at c a f j hj)
theorem HasV.frozen {T : TypeId} {w : World} {b : Nat} {c a : Int} {f : Nat → Int} (h : HasV T w b c a f) (j : Nat) : w.frozen? ⟨b, j, none⟩ = false := frozen_of_row w b j _ _ h
def upd (f : Nat → Int) (i : Nat) (v : Int) : Nat → Int := fun j => if j = i then v else f j
def colOf (x : Int) (grey : Bool) : Int := if grey then (x / 64 * 4 + x / 8 % 8 * 2 + x % 8) / 7 * 73 else x
theorem rowV_set1 (c a x : Int) (f : Nat → Int) : (rowV c a f).setIfInBounds 1 (.int .i64 x) = rowV c x f := by
  unfold rowV
  rw [List.setIfInBounds_toArray]
  rfl
theorem map_set (N i : Nat) (x : Int) (f : Nat → Int) : ((List.range N).map fun j => Value.int .i64 (f j)).set i (.int .i64 x) = (List.range N).map fun j => Value.int .i64 (upd f i x j) := by
  apply List.ext_getElem?
  intro j
  rw [List.getElem?_set]
  simp only [List.getElem?_map, List.length_map, List.length_range]
  by_cases h : i = j
  · subst h
    by_cases k : i < N
    · simp [k, upd]
    · simp [k]
  · rw [if_neg h]
    by_cases k : j < N
    · simp [k, upd, show ¬ j = i from fun e => h e.symm]
    · simp [k]
theorem rowV_set (c a x : Int) (f : Nat → Int) (i : Nat) : (rowV c a f).setIfInBounds (2 + i) (.int .i64 x) = rowV c a (upd f i x) := by
  unfold rowV
  rw [List.setIfInBounds_toArray, show 2 + i = i + 1 + 1 by omega, List.set_cons_succ, List.set_cons_succ, map_set]
theorem rowV_one (c a : Int) (f : Nat → Int) : (rowV c a f).all (·.oneCell') = true := by
  unfold rowV
  rw [← Array.all_toList]
  simp [Value.oneCell']
theorem HasV.set1 {T : TypeId} {w : World} {b : Nat} {c a : Int} {f : Nat → Int} (h : HasV T w b c a f) (x : Int) : HasV T (w.setCell ⟨b, 1, none⟩ (.int .i64 x)) b c x f := by
  have k := heap_setCell_same w b 1 _ _ (.int .i64 x) h
  rw [rowV_set1] at k
  exact k
theorem HasV.set {T : TypeId} {w : World} {b : Nat} {c a : Int} {f : Nat → Int} (h : HasV T w b c a f) (i : Nat) (x : Int) : HasV T (w.setCell ⟨b, 2 + i, none⟩ (.int .i64 x)) b c a (upd f i x) := by
  have k := heap_setCell_same w b (2 + i) _ _ (.int .i64 x) h
  rw [rowV_set] at k
  exact k
theorem HasV.other {T : TypeId} {w : World} {b : Nat} {c a : Int} {f : Nat → Int} (h : HasV T w b c a f) (p : Addr) (v : Value) (hb : b ≠ p.block) : HasV T (w.setCell p v) b c a f := (heap_setCell_other w p b v hb).trans h
theorem HasV.row {T : TypeId} {w : World} {b g : Nat} {c a : Int} {f : Nat → Int} (h : HasV T w b c a f) (cs : Array Value) (hb : b ≠ g) : HasV T (w.setRow g cs) b c a f := (setRow_other w g b cs hb).trans h
def zeroC : Array Value := rowV 0 0 (fun _ => 0)
@[simp] theorem zero_run (w : World) : (zeroValue 53).run Tryz.prog w = .ok (.agg zeroC) w := by kernel_rfl
theorem zero_same {Z : Array Value} (w : World) (h : (zeroValue 53).run Tryz.prog w = .ok (.agg Z) w) : Z = zeroC := by
  have k := h.symm.trans (zero_run w)
  simpa using k
theorem zero_V : zeroC = rowV 0 0 (fun _ => 0) := rfl
end Go.Proofs.YtnoggfnidaifkaaGreatDoor.V12
namespace Go.Proofs.YtnoggfnidaifkaaGreatDoor.V12
set_option maxRecDepth 20000
open Go.RowKit
set_option linter.unusedVariables false
theorem results_tmp_agg {P : Program} {fn : Func} {p u : Tmp} {ty : TypeId} (h : fn.results = #[.tmp u, .cell p ty]) (tmps : Array Value) (w : World) (g : Nat) (t : TypeId) (cs : Array Value) (fr : Nat × Nat) (d : TypeDesc)
    (hp : tmps.getD p undef = .pointer (some ⟨g, 0, none⟩)) (hg : w.heap[g]? = some (.cells cs t fr))
    (hu : P.underlying ty = some d) (hd : (match d with | .struct _ | .array _ _ => true | _ => false) = true) (hi : (P.info? ty).map (·.size) = some cs.size) :
    (results fn tmps).run P w = .ok (.tuple #[tmps.getD u undef, .agg cs]) w := by
  have hp' : tmps[p]?.getD undef = .pointer (some ⟨g, 0, none⟩) := by simpa using hp
  simp [results, h, hp', asAddr, run_loadVar_row w g t ty cs fr d hg hu hd hi]
theorem wpQuiet_row {P : Program} {ops : Array Oper} {C : World → Prop} {Q : Act → Prop} {a : Act} {o : Oper} {rest : List Oper} (hw : Region.wanted o (yielded ops a.tmps) = true) (ty : TypeId) (x : Operand) (ho : o.op = .load ty x)
    (g : Nat) (hx : a.eval x = .pointer (some ⟨g, 0, none⟩)) (t : TypeId) (cs : Array Value) (fr : Nat × Nat) (d : TypeDesc) (hg : ∀ w, C w → w.heap[g]? = some (.cells cs t fr))
    (hu : P.underlying ty = some d) (hd : (match d with | .struct _ | .array _ _ => true | _ => false) = true) (hi : (P.info? ty).map (·.size) = some cs.size)
    (h : wpQuiet P ops C Q rest (a.put o.dst (.agg cs))) : wpQuiet P ops C Q (o :: rest) a := by
  unfold wpQuiet
  rw [if_pos hw]
  refine ⟨.agg cs, fun w hC => ?_, h⟩
  unfold Oper.quietAt execOp
  simp only [ho, hx, Instr.loadAt, Instr.sureAddr, Sem.run_bind, Sem.run_pure, Result.andThen_ok, run_loadVar_row w g t ty cs fr d (hg w hC) hu hd hi]
  exact ⟨rfl, rfl⟩
theorem size_int (w : World) : (sizeOf 3).run Tryz.prog w = .ok 1 w := by
  have h : (Tryz.prog.info? 3).map (·.size) = some 1 := by kernel_rfl
  cases hq : Tryz.prog.info? 3 with
  | none => rw [hq] at h; cases h
  | some i =>
    rw [hq] at h
    have : i.size = 1 := by simpa using h
    simp [sizeOf, typeInfo, hq, this]
end Go.Proofs.YtnoggfnidaifkaaGreatDoor.V12
namespace Go.Proofs.YtnoggfnidaifkaaGreatDoor.V12
set_option maxRecDepth 20000
open Go.RowKit
set_option linter.unusedVariables false
theorem info_V (c a : Int) (f : Nat → Int) : (Tryz.prog.info? 53).map (·.size) = some (rowV c a f).size := by
  rw [rowV_size]
  kernel_rfl
end Go.Proofs.YtnoggfnidaifkaaGreatDoor.V12
namespace Go.Proofs.YtnoggfnidaifkaaGreatDoor.V12
set_option maxRecDepth 20000
open Go.RowKit
set_option linter.unusedVariables false
theorem and_511 (n : Int) : bits .and .i64 n 511 = n % 512 := and_mask 9 (by decide) n
end Go.Proofs.YtnoggfnidaifkaaGreatDoor.V12
namespace Go.Proofs.YtnoggfnidaifkaaGreatDoor.V12
set_option maxRecDepth 20000
open Go.RowKit
set_option linter.unusedVariables false
theorem nine_any (n : Int) (w : World) : Calls Tryz.prog 209 #[.int .i64 n] w fun e w' => e = .returned (.int .i64 (n % 512)) ∧ w' = w := by
  have h := and_511 n
  go_enter Tryz.func209, Tryz.ntmps209
  go_wp2
  go_ret
  exact ⟨rfl, rfl⟩
theorem grey_any (x : Int) (w : World) (h0 : 0 ≤ x) (h1 : x < 512) : Calls Tryz.prog 229 #[.int .i64 x] w fun e w' => e = .returned (.int .i64 (colOf x true)) ∧ w' = w := by
  have u1 := and_7 (x / 64)
  have u2 := and_7 (x / 8)
  have u3 := and_7 x
  have u4 : x / 64 % 8 = x / 64 := by omega
  show Calls Tryz.prog 229 #[.int .i64 x] w fun e w' => e = .returned (.int .i64 ((x / 64 * 4 + x / 8 % 8 * 2 + x % 8) / 7 * 73)) ∧ w' = w
  go_enter Tryz.func229, Tryz.ntmps229
  go_wp2
  go_ret
  exact ⟨ret_int (by omega), rfl⟩
theorem colour_at (c a k : Int) (f : Nat → Int) (w : World) (i : Nat) (hi : k % 512 = (i : Int)) : Calls Tryz.prog 167 #[.agg (rowV c a f), .int .i64 k] w fun e w' => e = .returned (.int .i64 (colOf (f i % 512) (bitOf c 7 == 1))) ∧ Below w.heap.size w w' := by
  have c0 := (hasV_new 53 w c a f).c0
  have h0 : i < 512 := by omega
  have ci := (hasV_new 53 w c a f).at i h0
  have hb := bitOf_01 c 7
  obtain ⟨x, hx, x0, x1⟩ : ∃ x, f i % 512 = x ∧ 0 ≤ x ∧ x < 512 := ⟨_, rfl, by omega, by omega⟩
  rw [hx]
  have hq : bitOf c 7 = 0 ∨ bitOf c 7 = 1 := by omega
  rcases hq with h7 | h7
  · rw [h7]
    show Calls Tryz.prog 167 _ w fun e w' => e = .returned (.int .i64 x) ∧ Below w.heap.size w w'
    go_enter Tryz.func167, Tryz.ntmps167
    go_wp2_with (first | (go_at_call 209; refine (nine_any _ _).mono ?_; rintro e w' ⟨rfl, rfl⟩) | (go_at_call 59; refine (bit_any _ _ _).mono ?_; rintro e w' ⟨rfl, rfl⟩))
    go_ret
    exact ⟨rfl, (Below.refl _ w).alloc (Nat.le_refl _) _⟩
  · rw [h7]
    show Calls Tryz.prog 167 _ w fun e w' => e = .returned (.int .i64 (colOf x true)) ∧ Below w.heap.size w w'
    go_enter Tryz.func167, Tryz.ntmps167
    go_wp2_with (first | (go_at_call 209; refine (nine_any _ _).mono ?_; rintro e w' ⟨rfl, rfl⟩) | (go_at_call 59; refine (bit_any _ _ _).mono ?_; rintro e w' ⟨rfl, rfl⟩) | (go_at_call 229; refine (grey_any _ _ x0 x1).mono ?_; rintro e w' ⟨rfl, rfl⟩))
    go_ret
    exact ⟨rfl, (Below.refl _ w).alloc (Nat.le_refl _) _⟩
theorem lines_any (c a : Int) (f : Nat → Int) (w : World) : Calls Tryz.prog 39 #[.agg (rowV c a f)] w fun e w' => e = .returned (.int .i64 (262 + bitOf c 2)) ∧ Below w.heap.size w w' := by
  have hb := bitOf_01 c 2
  have c0 := (hasV_new 53 w c a f).c0
  go_enter Tryz.func39, Tryz.ntmps39
  go_wp2_with (first | (go_at_call 59; refine (bit_any _ _ _).mono ?_; rintro e w' ⟨rfl, rfl⟩))
  go_ret
  exact ⟨rfl, (Below.refl _ w).alloc (Nat.le_refl _) _⟩
def dotOf (c : Int) : Int := if c % 4 = 0 then 4 else if c % 4 = 1 then 3 else 2
theorem dot_any (c a : Int) (f : Nat → Int) (w : World) : Calls Tryz.prog 38 #[.agg (rowV c a f)] w fun e w' => e = .returned (.int .i64 (dotOf c)) ∧ Below w.heap.size w w' := by
  have c0 := (hasV_new 53 w c a f).c0
  have ha := and_3 c
  unfold dotOf
  obtain ⟨q, hq, q0, q1⟩ : ∃ q, c % 4 = q ∧ 0 ≤ q ∧ q < 4 := ⟨_, rfl, by omega, by omega⟩
  rw [hq] at ha ⊢
  have hc : q = 0 ∨ q = 1 ∨ q = 2 ∨ q = 3 := by omega
  rcases hc with rfl | rfl | rfl | rfl
  all_goals
    go_enter Tryz.func38, Tryz.ntmps38
    go_wp2_with fail
    go_ret
    exact ⟨rfl, (Below.refl _ w).alloc (Nat.le_refl _) _⟩
end Go.Proofs.YtnoggfnidaifkaaGreatDoor.V12
namespace Go.Proofs.YtnoggfnidaifkaaGreatDoor.V12
set_option maxRecDepth 20000
open Go.RowKit
set_option linter.unusedVariables false
theorem bit_8 (n : Int) : bitOf n 8 = n % 512 / 256 := by
  rw [bitOf_in n 8 (by decide) (by decide)]
  show n % 65536 / 256 % 2 = n % 512 / 256
  omega
theorem bit_0 (n : Int) : bitOf n 0 = n % 2 := by
  rw [bitOf_in n 0 (by decide) (by decide)]
  show n % 65536 / 1 % 2 = n % 2
  omega
theorem withLow_is (n b x : Int) (hx : b % 256 + 256 * (n % 512 / 256) = x) (w : World) : Calls Tryz.prog 279 #[.int .i64 n, .int .i64 b] w fun e w' => e = .returned (.int .i64 x) ∧ Below w.heap.size w w' := by
  have h8 := bit_8 n
  go_enter Tryz.func279, Tryz.ntmps279
  go_wp2_with (first | (go_at_call 59; refine (bit_any _ _ _).mono ?_; rintro e w' ⟨rfl, rfl⟩) | (go_at_call 107; refine (join_any _ _ _).mono ?_; rintro e w' ⟨rfl, bw⟩))
  go_ret
  exact ⟨ret_int (by omega), bw⟩
theorem write_4 (c a b x : Int) (f : Nat → Int) (i : Nat) (ha : a % 512 = (i : Int)) (hx : b % 256 + 256 * (f i % 512 / 256) = x) (w : World) : Calls Tryz.prog 244 #[.agg (rowV c a f), .int .i64 4, .int .i64 b] w fun e w' => e = .returned (.agg (rowV c (i : Int) (upd f i x))) ∧ Below w.heap.size w w' := by
  have hi : i < 512 := by omega
  have HX := hide hx
  clear hx
  have c1 := ((hasV_new 53 w c a f).alloc (.cells zeroC 53)).c1
  try have hzz := zero_same w (Tryz.zeroValue53 w)
  go_enter Tryz.func244, Tryz.ntmps244
  go_wp2_with fail
  obtain ⟨wr, hwr⟩ : ∃ wr, wr = (w.alloc (.cells (rowV c a f) 53)).alloc (.cells zeroC 53) := ⟨_, rfl⟩
  rw [← hwr] at c1 ⊢
  have V0 := hide (show HasV 53 wr w.heap.size c a f by rw [hwr]; exact (hasV_new 53 w c a f).alloc _)
  have Z0 := hide (show HasV 53 wr (w.heap.size + 1) 0 0 (fun _ => 0) by rw [hwr, zero_V]; exact heap_alloc2_new _ _ _)
  have B0 := hide (show Below w.heap.size w wr by rw [hwr]; exact ((Below.refl _ w).alloc (Nat.le_refl _) _).alloc (by simp) _)
  clear hwr
  have c0 := V0.out.c0
  have ci := V0.out.at i hi
  have z0 := V0.out.frozen 0
  have z1 := V0.out.frozen 1
  have zi := V0.out.frozen (2 + i)
  go_wp2_with (first | (go_at_call 209; refine (nine_any _ _).mono ?_; rintro e w' ⟨rfl, hw⟩; subst w'))
  refine (withLow_is _ _ x HX.out _).mono ?_
  rintro e w1 ⟨rfl, b1⟩
  clear c0 c1 ci z0 z1 zi
  replace V0 := hide (V0.out.next b1)
  replace Z0 := hide (Z0.out.next b1)
  replace B0 := hide (bnext B0.out b1)
  clear b1
  have c0 := V0.out.c0
  have c1 := V0.out.c1
  have ci := V0.out.at i hi
  have z0 := V0.out.frozen 0
  have z1 := V0.out.frozen 1
  have zi := V0.out.frozen (2 + i)
  have d1 := (V0.out.set i x).c1
  have V1 := hide ((V0.out.set i x).set1 (i : Int))
  have Z1 := hide ((Z0.out.other ⟨w.heap.size, 2 + i, none⟩ (.int .i64 x) (by simp)).other ⟨w.heap.size, 1, none⟩ (.int .i64 (i : Int)) (by simp))
  have B1 := hide ((B0.out.setCell (p := ⟨w.heap.size, 2 + i, none⟩) (Nat.le_refl _) (.int .i64 x)).setCell (p := ⟨w.heap.size, 1, none⟩) (Nat.le_refl _) (.int .i64 (i : Int)))
  clear V0 Z0 B0
  go_wp2_with (first
    | (go_at_call 60; refine (byte_any _ _).mono ?_; rintro e w' ⟨rfl, hw⟩; subst w')
    | (go_at_call 209; refine (nine_any _ _).mono ?_; rintro e w' ⟨rfl, hw⟩; subst w')
    | (refine wpList_load_row rfl 53 (.tmp 3) rfl w.heap.size rfl 53 _ (0, 0) _ V1.out Tryz.underlying53 rfl (info_V _ _ _) ?_)
    | (refine wpList_store_row rfl 53 (.tmp 6) (.tmp 57) rfl (w.heap.size + 1) _ rfl rfl 53 _ Z1.out (info_V _ _ _) (by rw [rowV_size, rowV_size]) (rowV_one _ _ _) ?_)
    | (refine bodyPost_ret (results_cell_row rfl _ _ (w.heap.size + 1) 53 _ (0, 0) _ rfl (setRow_heap _ _ _ _ _ _ Z1.out) Tryz.underlying53 rfl (info_V _ _ _)) rfl ⟨rfl, below_setRow B1.out (Nat.le_succ _) _⟩))
theorem write_no (at_ : Int) (c a b : Int) (f : Nat → Int) (i : Nat) (ha : a % 512 = (i : Int)) (h0 : ¬ at_ = 0) (h2 : ¬ at_ = 2) (h3 : ¬ at_ = 3) (h4 : ¬ at_ = 4) (h5 : ¬ at_ = 5) (w : World) : Calls Tryz.prog 244 #[.agg (rowV c a f), .int .i64 at_, .int .i64 b] w fun e w' => e = .returned (.agg (rowV c a f)) ∧ Below w.heap.size w w' := by
  have hi : i < 512 := by omega
  have c1 := ((hasV_new 53 w c a f).alloc (.cells zeroC 53)).c1
  try have hzz := zero_same w (Tryz.zeroValue53 w)
  go_enter Tryz.func244, Tryz.ntmps244
  go_wp2_with fail
  obtain ⟨wr, hwr⟩ : ∃ wr, wr = (w.alloc (.cells (rowV c a f) 53)).alloc (.cells zeroC 53) := ⟨_, rfl⟩
  rw [← hwr] at c1 ⊢
  have V0 := hide (show HasV 53 wr w.heap.size c a f by rw [hwr]; exact (hasV_new 53 w c a f).alloc _)
  have Z0 := hide (show HasV 53 wr (w.heap.size + 1) 0 0 (fun _ => 0) by rw [hwr, zero_V]; exact heap_alloc2_new _ _ _)
  have B0 := hide (show Below w.heap.size w wr by rw [hwr]; exact ((Below.refl _ w).alloc (Nat.le_refl _) _).alloc (by simp) _)
  clear hwr
  have c0 := V0.out.c0
  have ci := V0.out.at i hi
  have z0 := V0.out.frozen 0
  have z1 := V0.out.frozen 1
  have zi := V0.out.frozen (2 + i)
  have V1 := V0
  have Z1 := Z0
  have B1 := B0
  clear V0 Z0 B0
  go_wp2_with (first
    | (go_at_call 60; refine (byte_any _ _).mono ?_; rintro e w' ⟨rfl, hw⟩; subst w')
    | (go_at_call 209; refine (nine_any _ _).mono ?_; rintro e w' ⟨rfl, hw⟩; subst w')
    | (refine wpList_load_row rfl 53 (.tmp 3) rfl w.heap.size rfl 53 _ (0, 0) _ V1.out Tryz.underlying53 rfl (info_V _ _ _) ?_)
    | (refine wpList_store_row rfl 53 (.tmp 6) (.tmp 57) rfl (w.heap.size + 1) _ rfl rfl 53 _ Z1.out (info_V _ _ _) (by rw [rowV_size, rowV_size]) (rowV_one _ _ _) ?_)
    | (refine bodyPost_ret (results_cell_row rfl _ _ (w.heap.size + 1) 53 _ (0, 0) _ rfl (setRow_heap _ _ _ _ _ _ Z1.out) Tryz.underlying53 rfl (info_V _ _ _)) rfl ⟨rfl, below_setRow B1.out (Nat.le_succ _) _⟩))
end Go.Proofs.YtnoggfnidaifkaaGreatDoor.V12
namespace Go.Proofs.YtnoggfnidaifkaaGreatDoor.V12
set_option maxRecDepth 20000
open Go.RowKit
set_option linter.unusedVariables false
theorem read_no (at_ : Int) (c a : Int) (f : Nat → Int) (i : Nat) (ha : a % 512 = (i : Int)) (h4 : ¬ at_ = 4) (h5 : ¬ at_ = 5) (w : World) : Calls Tryz.prog 149 #[.agg (rowV c a f), .int .i64 at_] w fun e w' => e = .returned (.tuple #[.int .i64 255, .agg (rowV c a f)]) ∧ Below w.heap.size w w' := by
  have hi : i < 512 := by omega
  have c1 := ((hasV_new 53 w c a f).alloc (.cells zeroC 53)).c1
  have ci := ((hasV_new 53 w c a f).alloc (.cells zeroC 53)).at i hi
  have z1 := ((hasV_new 53 w c a f).alloc (.cells zeroC 53)).frozen 1
  obtain ⟨wr, hwr⟩ : ∃ wr, wr = (w.alloc (.cells (rowV c a f) 53)).alloc (.cells zeroC 53) := ⟨_, rfl⟩
  rw [← hwr] at c1 ci z1
  have V0 := hide (show HasV 53 wr w.heap.size c a f by rw [hwr]; exact (hasV_new 53 w c a f).alloc _)
  have Z0 := hide (show HasV 53 wr (w.heap.size + 1) 0 0 (fun _ => 0) by rw [hwr, zero_V]; exact heap_alloc2_new _ _ _)
  have B0 := hide (show Below w.heap.size w wr by rw [hwr]; exact ((Below.refl _ w).alloc (Nat.le_refl _) _).alloc (by simp) _)
  have HW := hide hwr
  rw [hwr] at c1 ci z1
  clear hwr
  try have hzz := zero_same w (Tryz.zeroValue53 w)
  go_enter Tryz.func149, Tryz.ntmps149
  go_wp2_with fail
  rw [← HW.out] at c1 ci z1 ⊢
  clear HW
  go_wp2_with (first | (go_at_call 209; refine (nine_any _ _).mono ?_; rintro e w' ⟨rfl, hw⟩; subst w') | (go_at_call 111; refine (split_any _ _).mono ?_; rintro e w' ⟨rfl, hw⟩; subst w'))
  have V1 := V0
  have Z1 := Z0
  have B1 := B0
  clear V0 Z0 B0 c1 ci z1
  haveI := kept_some wr
  refine wp_region_kept_last _ _ (show _ = [_, _] ++ [_] from rfl) (by kernel_rfl) (by kernel_rfl) (by kernel_rfl) ?_
  repeat (first
    | (refine wpQuiet_row rfl 53 (.tmp 2) rfl w.heap.size rfl 53 _ (0, 0) _ (fun w' ⟨x, hx⟩ => by rw [hx]; exact (x.block _ V1.out.lt).trans V1.out) Tryz.underlying53 rfl (info_V _ _ _) ?_; simp only [Act.put, List.setIfInBounds_toArray, List.set_cons_succ, List.set_cons_zero])
    | go_big_quiet_step ((first | (go_at_call 59; exact kept_same (bit_any _ _ _)) | (go_at_call 187; exact kept_call (put_any _ _ _ _)))))
  refine wpQuiet_nil ?_
  rintro _ ⟨wk, rfl⟩
  have Z2 := hide (Z1.out.next wk.below)
  have B2 := hide (bnext B1.out wk.below)
  go_wp2_with (first
    | (refine wpList_store_row rfl 53 (.tmp 5) (.tmp 36) rfl (w.heap.size + 1) _ rfl rfl 53 _ Z2.out (info_V _ _ _) (by rw [rowV_size, rowV_size]) (rowV_one _ _ _) ?_)
    | (refine bodyPost_ret (results_tmp_agg rfl _ _ (w.heap.size + 1) 53 _ (0, 0) _ rfl (setRow_heap _ _ _ _ _ _ Z2.out) Tryz.underlying53 rfl (info_V _ _ _)) rfl ⟨rfl, below_setRow B2.out (Nat.le_succ _) _⟩))
theorem read_4 (c a : Int) (f : Nat → Int) (i : Nat) (ha : a % 512 = (i : Int)) (w : World) : Calls Tryz.prog 149 #[.agg (rowV c a f), .int .i64 4] w fun e w' => e = .returned (.tuple #[.int .i64 (f i % 256), .agg (rowV c a f)]) ∧ Below w.heap.size w w' := by
  have hi : i < 512 := by omega
  have c1 := ((hasV_new 53 w c a f).alloc (.cells zeroC 53)).c1
  have ci := ((hasV_new 53 w c a f).alloc (.cells zeroC 53)).at i hi
  have z1 := ((hasV_new 53 w c a f).alloc (.cells zeroC 53)).frozen 1
  obtain ⟨wr, hwr⟩ : ∃ wr, wr = (w.alloc (.cells (rowV c a f) 53)).alloc (.cells zeroC 53) := ⟨_, rfl⟩
  rw [← hwr] at c1 ci z1
  have V0 := hide (show HasV 53 wr w.heap.size c a f by rw [hwr]; exact (hasV_new 53 w c a f).alloc _)
  have Z0 := hide (show HasV 53 wr (w.heap.size + 1) 0 0 (fun _ => 0) by rw [hwr, zero_V]; exact heap_alloc2_new _ _ _)
  have B0 := hide (show Below w.heap.size w wr by rw [hwr]; exact ((Below.refl _ w).alloc (Nat.le_refl _) _).alloc (by simp) _)
  have HW := hide hwr
  rw [hwr] at c1 ci z1
  clear hwr
  try have hzz := zero_same w (Tryz.zeroValue53 w)
  go_enter Tryz.func149, Tryz.ntmps149
  go_wp2_with fail
  rw [← HW.out] at c1 ci z1 ⊢
  clear HW
  go_wp2_with (first | (go_at_call 209; refine (nine_any _ _).mono ?_; rintro e w' ⟨rfl, hw⟩; subst w') | (go_at_call 111; refine (split_any _ _).mono ?_; rintro e w' ⟨rfl, hw⟩; subst w'))
  have V1 := V0
  have Z1 := Z0
  have B1 := B0
  clear V0 Z0 B0 c1 ci z1
  haveI := kept_some wr
  refine wp_region_kept_last _ _ (show _ = [_, _, _] ++ [_] from rfl) (by kernel_rfl) (by kernel_rfl) (by kernel_rfl) ?_
  repeat (first
    | (refine wpQuiet_row rfl 53 (.tmp 2) rfl w.heap.size rfl 53 _ (0, 0) _ (fun w' ⟨x, hx⟩ => by rw [hx]; exact (x.block _ V1.out.lt).trans V1.out) Tryz.underlying53 rfl (info_V _ _ _) ?_; simp only [Act.put, List.setIfInBounds_toArray, List.set_cons_succ, List.set_cons_zero])
    | go_big_quiet_step ((first | (go_at_call 59; exact kept_same (bit_any _ _ _)) | (go_at_call 187; exact kept_call (put_any _ _ _ _)))))
  refine wpQuiet_nil ?_
  rintro _ ⟨wk, rfl⟩
  have Z2 := hide (Z1.out.next wk.below)
  have B2 := hide (bnext B1.out wk.below)
  go_wp2_with (first
    | (refine wpList_store_row rfl 53 (.tmp 5) (.tmp 24) rfl (w.heap.size + 1) _ rfl rfl 53 _ Z2.out (info_V _ _ _) (by rw [rowV_size, rowV_size]) (rowV_one _ _ _) ?_)
    | (refine bodyPost_ret (results_tmp_agg rfl _ _ (w.heap.size + 1) 53 _ (0, 0) _ rfl (setRow_heap _ _ _ _ _ _ Z2.out) Tryz.underlying53 rfl (info_V _ _ _)) rfl ⟨rfl, below_setRow B2.out (Nat.le_succ _) _⟩))
theorem read_5_0 (c a : Int) (f : Nat → Int) (i : Nat) (ha : a % 512 = (i : Int)) (n : Int) (hn : ((i : Int) + 1) % 512 = n) (h9 : f i % 512 / 256 = 0) (w : World) : Calls Tryz.prog 149 #[.agg (rowV c a f), .int .i64 5] w fun e w' => e = .returned (.tuple #[.int .i64 254, .agg (rowV c n f)]) ∧ Below w.heap.size w w' := by
  have hi : i < 512 := by omega
  have h0 := bit_0 (f i / 256 % 256)
  have hb : f i / 256 % 256 % 2 = 0 := by omega
  have hp : putOf 255 0 false = 254 + 0 := by decide +kernel
  rw [hb] at h0
  clear hb
  have c1 := ((hasV_new 53 w c a f).alloc (.cells zeroC 53)).c1
  have ci := ((hasV_new 53 w c a f).alloc (.cells zeroC 53)).at i hi
  have z1 := ((hasV_new 53 w c a f).alloc (.cells zeroC 53)).frozen 1
  obtain ⟨wr, hwr⟩ : ∃ wr, wr = (w.alloc (.cells (rowV c a f) 53)).alloc (.cells zeroC 53) := ⟨_, rfl⟩
  rw [← hwr] at c1 ci z1
  have V0 := hide (show HasV 53 wr w.heap.size c a f by rw [hwr]; exact (hasV_new 53 w c a f).alloc _)
  have Z0 := hide (show HasV 53 wr (w.heap.size + 1) 0 0 (fun _ => 0) by rw [hwr, zero_V]; exact heap_alloc2_new _ _ _)
  have B0 := hide (show Below w.heap.size w wr by rw [hwr]; exact ((Below.refl _ w).alloc (Nat.le_refl _) _).alloc (by simp) _)
  have HW := hide hwr
  rw [hwr] at c1 ci z1
  clear hwr
  try have hzz := zero_same w (Tryz.zeroValue53 w)
  go_enter Tryz.func149, Tryz.ntmps149
  go_wp2_with fail
  rw [← HW.out] at c1 ci z1 ⊢
  clear HW
  go_wp2_with (first | (go_at_call 209; refine (nine_any _ _).mono ?_; rintro e w' ⟨rfl, hw⟩; subst w') | (go_at_call 111; refine (split_any _ _).mono ?_; rintro e w' ⟨rfl, hw⟩; subst w'))
  obtain ⟨ws, hws⟩ : ∃ ws, ws = wr.setCell ⟨w.heap.size, 1, none⟩ (.int .i64 n) := ⟨_, rfl⟩
  have V1 := hide (show HasV 53 ws w.heap.size c n f by rw [hws]; exact V0.out.set1 _)
  have Z1 := hide (show HasV 53 ws (w.heap.size + 1) 0 0 (fun _ => 0) by rw [hws]; exact Z0.out.other ⟨w.heap.size, 1, none⟩ (.int .i64 n) (by simp))
  have B1 := hide (show Below w.heap.size w ws by rw [hws]; exact B0.out.setCell (p := ⟨w.heap.size, 1, none⟩) (Nat.le_refl _) (.int .i64 n))
  clear V0 Z0 B0 c1 ci z1
  rw [← hws]
  clear hws
  haveI := kept_some ws
  refine wp_region_kept_last _ _ (show _ = [_, _, _, _, _, _] ++ [_] from rfl) (by kernel_rfl) (by kernel_rfl) (by kernel_rfl) ?_
  repeat (first
    | (refine wpQuiet_row rfl 53 (.tmp 2) rfl w.heap.size rfl 53 _ (0, 0) _ (fun w' ⟨x, hx⟩ => by rw [hx]; exact (x.block _ V1.out.lt).trans V1.out) Tryz.underlying53 rfl (info_V _ _ _) ?_; simp only [Act.put, List.setIfInBounds_toArray, List.set_cons_succ, List.set_cons_zero])
    | go_big_quiet_step ((first | (go_at_call 59; exact kept_same (bit_any _ _ _)) | (go_at_call 187; exact kept_call (put_any _ _ _ _)))))
  refine wpQuiet_nil ?_
  rintro _ ⟨wk, rfl⟩
  have Z2 := hide (Z1.out.next wk.below)
  have B2 := hide (bnext B1.out wk.below)
  go_wp2_with (first
    | (refine wpList_store_row rfl 53 (.tmp 5) (.tmp 35) rfl (w.heap.size + 1) _ rfl rfl 53 _ Z2.out (info_V _ _ _) (by rw [rowV_size, rowV_size]) (rowV_one _ _ _) ?_)
    | (refine bodyPost_ret (results_tmp_agg rfl _ _ (w.heap.size + 1) 53 _ (0, 0) _ rfl (setRow_heap _ _ _ _ _ _ Z2.out) Tryz.underlying53 rfl (info_V _ _ _)) rfl ⟨rfl, below_setRow B2.out (Nat.le_succ _) _⟩))
theorem read_5_1 (c a : Int) (f : Nat → Int) (i : Nat) (ha : a % 512 = (i : Int)) (n : Int) (hn : ((i : Int) + 1) % 512 = n) (h9 : f i % 512 / 256 = 1) (w : World) : Calls Tryz.prog 149 #[.agg (rowV c a f), .int .i64 5] w fun e w' => e = .returned (.tuple #[.int .i64 255, .agg (rowV c n f)]) ∧ Below w.heap.size w w' := by
  have hi : i < 512 := by omega
  have h0 := bit_0 (f i / 256 % 256)
  have hb : f i / 256 % 256 % 2 = 1 := by omega
  have hp : putOf 255 0 true = 254 + 1 := by decide +kernel
  rw [hb] at h0
  clear hb
  have c1 := ((hasV_new 53 w c a f).alloc (.cells zeroC 53)).c1
  have ci := ((hasV_new 53 w c a f).alloc (.cells zeroC 53)).at i hi
  have z1 := ((hasV_new 53 w c a f).alloc (.cells zeroC 53)).frozen 1
  obtain ⟨wr, hwr⟩ : ∃ wr, wr = (w.alloc (.cells (rowV c a f) 53)).alloc (.cells zeroC 53) := ⟨_, rfl⟩
  rw [← hwr] at c1 ci z1
  have V0 := hide (show HasV 53 wr w.heap.size c a f by rw [hwr]; exact (hasV_new 53 w c a f).alloc _)
  have Z0 := hide (show HasV 53 wr (w.heap.size + 1) 0 0 (fun _ => 0) by rw [hwr, zero_V]; exact heap_alloc2_new _ _ _)
  have B0 := hide (show Below w.heap.size w wr by rw [hwr]; exact ((Below.refl _ w).alloc (Nat.le_refl _) _).alloc (by simp) _)
  have HW := hide hwr
  rw [hwr] at c1 ci z1
  clear hwr
  try have hzz := zero_same w (Tryz.zeroValue53 w)
  go_enter Tryz.func149, Tryz.ntmps149
  go_wp2_with fail
  rw [← HW.out] at c1 ci z1 ⊢
  clear HW
  go_wp2_with (first | (go_at_call 209; refine (nine_any _ _).mono ?_; rintro e w' ⟨rfl, hw⟩; subst w') | (go_at_call 111; refine (split_any _ _).mono ?_; rintro e w' ⟨rfl, hw⟩; subst w'))
  obtain ⟨ws, hws⟩ : ∃ ws, ws = wr.setCell ⟨w.heap.size, 1, none⟩ (.int .i64 n) := ⟨_, rfl⟩
  have V1 := hide (show HasV 53 ws w.heap.size c n f by rw [hws]; exact V0.out.set1 _)
  have Z1 := hide (show HasV 53 ws (w.heap.size + 1) 0 0 (fun _ => 0) by rw [hws]; exact Z0.out.other ⟨w.heap.size, 1, none⟩ (.int .i64 n) (by simp))
  have B1 := hide (show Below w.heap.size w ws by rw [hws]; exact B0.out.setCell (p := ⟨w.heap.size, 1, none⟩) (Nat.le_refl _) (.int .i64 n))
  clear V0 Z0 B0 c1 ci z1
  rw [← hws]
  clear hws
  haveI := kept_some ws
  refine wp_region_kept_last _ _ (show _ = [_, _, _, _, _, _] ++ [_] from rfl) (by kernel_rfl) (by kernel_rfl) (by kernel_rfl) ?_
  repeat (first
    | (refine wpQuiet_row rfl 53 (.tmp 2) rfl w.heap.size rfl 53 _ (0, 0) _ (fun w' ⟨x, hx⟩ => by rw [hx]; exact (x.block _ V1.out.lt).trans V1.out) Tryz.underlying53 rfl (info_V _ _ _) ?_; simp only [Act.put, List.setIfInBounds_toArray, List.set_cons_succ, List.set_cons_zero])
    | go_big_quiet_step ((first | (go_at_call 59; exact kept_same (bit_any _ _ _)) | (go_at_call 187; exact kept_call (put_any _ _ _ _)))))
  refine wpQuiet_nil ?_
  rintro _ ⟨wk, rfl⟩
  have Z2 := hide (Z1.out.next wk.below)
  have B2 := hide (bnext B1.out wk.below)
  go_wp2_with (first
    | (refine wpList_store_row rfl 53 (.tmp 5) (.tmp 35) rfl (w.heap.size + 1) _ rfl rfl 53 _ Z2.out (info_V _ _ _) (by rw [rowV_size, rowV_size]) (rowV_one _ _ _) ?_)
    | (refine bodyPost_ret (results_tmp_agg rfl _ _ (w.heap.size + 1) 53 _ (0, 0) _ rfl (setRow_heap _ _ _ _ _ _ Z2.out) Tryz.underlying53 rfl (info_V _ _ _)) rfl ⟨rfl, below_setRow B2.out (Nat.le_succ _) _⟩))
theorem read_5 (c a : Int) (f : Nat → Int) (i : Nat) (ha : a % 512 = (i : Int)) (n : Int) (hn : ((i : Int) + 1) % 512 = n) (w : World) : Calls Tryz.prog 149 #[.agg (rowV c a f), .int .i64 5] w fun e w' => e = .returned (.tuple #[.int .i64 (254 + f i % 512 / 256), .agg (rowV c n f)]) ∧ Below w.heap.size w w' := by
  have h : f i % 512 / 256 = 0 ∨ f i % 512 / 256 = 1 := by omega
  rcases h with h | h
  · rw [h]
    exact read_5_0 c a f i ha n hn h w
  · rw [h]
    exact read_5_1 c a f i ha n hn h w
end Go.Proofs.YtnoggfnidaifkaaGreatDoor.V12
namespace Go.Proofs.YtnoggfnidaifkaaGreatDoor.V12
set_option maxRecDepth 20000
open Go.RowKit
set_option linter.unusedVariables false
theorem rlines_any (c a : Int) (f : Nat → Int) (w : World) : Calls Tryz.prog 76 #[.agg (rowV c a f)] w fun e w' => e = .returned (.int .i64 (262 + bitOf c 2)) ∧ Below w.heap.size w w' := by
  have hb := bitOf_01 c 2
  have c0 := (hasV_new 132 w c a f).c0
  go_enter Tryz.func76, Tryz.ntmps76
  go_wp2_with (first | (go_at_call 120; refine (rbit_any _ _ _).mono ?_; rintro e w' ⟨rfl, rfl⟩))
  go_ret
  exact ⟨rfl, (Below.refl _ w).alloc (Nat.le_refl _) _⟩
end Go.Proofs.YtnoggfnidaifkaaGreatDoor.V12
namespace Go.Proofs.YtnoggfnidaifkaaGreatDoor.V12
set_option maxRecDepth 20000
open Go.RowKit
set_option linter.unusedVariables false
end Go.Proofs.YtnoggfnidaifkaaGreatDoor.V12
