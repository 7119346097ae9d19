/- Texts without a word of the program, one behind the other. -/
import Derived.Test.YtnoggfnidaifkaaGreatDoorConsoleNobodyJ01
import Derived.Test.YtnoggfnidaifkaaGreatDoorConsoleNobodyJ03
import Derived.Laws.StructEq
import Derived.Laws.Rows
import Derived.Laws.Tables
import Derived.Laws.ResultCell
import Derived.Laws.CopyOwn
import Derived.Deep.Quiet
import Derived.Deep.MidRow
import Derived.BigFrame
import Derived.WalkMore
import Derived.OneCell
import Derived.Handy
namespace Go.Proofs.YtnoggfnidaifkaaGreatDoor.R15
set_option maxRecDepth 20000
def andW (n m : Int) : Int := (((n % 65536).toNat &&& m.toNat : Nat) : Int)
def IsMask (m : Int) : Prop := 0 ≤ m ∧ m < 65536
theorem and_word (n m : Int) (h : IsMask m) : bits .and .i64 n m = andW n m := by
  obtain ⟨h0, h1⟩ := h
  obtain ⟨m, rfl⟩ := Int.eq_ofNat_of_zero_le h0
  have e : (BitVec.ofInt 64 n &&& BitVec.ofInt 64 (m : Int)).toNat = (n % 65536).toNat &&& m := by
    rw [BitVec.toNat_and, BitVec.ofInt_natCast, BitVec.toNat_ofNat, Nat.mod_eq_of_lt (by omega : m < 2 ^ 64), BitVec.toNat_ofInt]
    have h2 : m = m % 2 ^ 16 := (Nat.mod_eq_of_lt (by omega)).symm
    have h3 : (n % 65536).toNat = (n % ((2 ^ 64 : Nat) : Int)).toNat % 2 ^ 16 := by omega
    rw [h3]
    generalize (n % ((2 ^ 64 : Nat) : Int)).toNat = x
    conv => rhs; rw [h2, ← Nat.and_mod_two_pow]
    exact (Nat.mod_eq_of_lt (Nat.and_lt_two_pow _ (by omega))).symm
  show IntKind.i64.wrap ((BitVec.ofInt 64 n &&& BitVec.ofInt 64 (m : Int)).toNat : Nat) = _
  rw [e]
  have hl := Nat.and_lt_two_pow (n % 65536).toNat (n := 16) (y := m) (by omega)
  rw [i64_small _ (by omega) (by omega)]
  unfold andW
  simp
theorem andW_mask (n m : Int) (h : IsMask m) : IsMask (andW n m) := by
  obtain ⟨h0, h1⟩ := h
  unfold andW IsMask
  have hl := Nat.and_lt_two_pow (n % 65536).toNat (n := 16) (y := m.toNat) (by omega)
  omega
def onlyTo (n m : Int) : Nat → Int
  | 0 => 0
  | k + 1 => onlyTo n m k + bitOf n k * bitOf m k * 2 ^ k
def fits (n m : Int) : Bool := decide (0 ≤ n ∧ n ≤ 65535 ∧ andW n m = n)
theorem bic_fits (n m : Int) (hn : (Lit.int .i64 n).wf = true) (h : IsMask m) : (bits .andNot .i64 n m != 0) = !fits n m := by
  have hw : IntKind.i64.wrap n = n := by
    have k : IntKind.i64.min ≤ n ∧ n ≤ 9223372036854775807 := by simpa [Lit.wf] using hn
    rw [show IntKind.i64.min = -9223372036854775808 by decide] at k
    rw [IntKind.wrap_i64]
    omega
  have hand := and_word n m h
  have hm := andW_mask n m h
  have hs := bv_whole (BitVec.ofInt 64 n) (BitVec.ofInt 64 m)
  have hb : bits .andNot .i64 n m = IntKind.i64.wrap ((BitVec.ofInt 64 n &&& ~~~ BitVec.ofInt 64 m).toNat : Nat) := rfl
  have ha : bits .and .i64 n m = IntKind.i64.wrap ((BitVec.ofInt 64 n &&& BitVec.ofInt 64 m).toNat : Nat) := rfl
  have hx : ((BitVec.ofInt 64 n).toNat : Int) = n % ((2 ^ 64 : Nat) : Int) := by
    rw [BitVec.toNat_ofInt]
    exact Int.toNat_of_nonneg (Int.emod_nonneg _ (by decide))
  have ht := BitVec.toNat_add_of_and_eq_zero (bv_apart (BitVec.ofInt 64 n) (BitVec.ofInt 64 m))
  rw [hs] at ht
  rw [hand] at ha
  have l1 := (BitVec.ofInt 64 n &&& ~~~ BitVec.ofInt 64 m).isLt
  have l2 := (BitVec.ofInt 64 n &&& BitVec.ofInt 64 m).isLt
  have l3 := (BitVec.ofInt 64 n).isLt
  rw [hb]
  obtain ⟨m0, m1⟩ := hm
  generalize (BitVec.ofInt 64 n &&& ~~~ BitVec.ofInt 64 m).toNat = a at *
  generalize (BitVec.ofInt 64 n &&& BitVec.ofInt 64 m).toNat = b at *
  generalize (BitVec.ofInt 64 n).toNat = c at *
  rw [IntKind.wrap_i64] at ha hw ⊢
  unfold fits
  generalize andW n m = d at *
  by_cases hq : 0 ≤ n ∧ n ≤ 65535 ∧ d = n
  · rw [decide_eq_true hq]
    have : (a : Int) = 0 := by omega
    rw [this]
    decide
  · rw [decide_eq_false hq]
    have : ((a : Int) + 2 ^ 63) % 2 ^ 64 - 2 ^ 63 ≠ 0 := by omega
    simpa using this
def lowOf (n b : Int) : Int := b % 256 + 256 * (n / 256 % 256)
def highOf (n b : Int) : Int := n % 256 + 256 * (b % 256)
def maskL : List Int := [65535, 65535, 65535, 0, 0, 8191, 1023, 1023, 511, 255, 32543, 32639, 65311, 511, 255, 31, 65535, 65535, 65535, 65535]
def mk (k : Nat) : Int := maskL.getD k 0
theorem mk_all : ∀ k : Fin 20, 0 ≤ mk k.val ∧ mk k.val < 65536 ∧ andW (highOf (andW (lowOf 0 255) (mk k.val)) 255) (mk k.val) = mk k.val := by decide +kernel
theorem mk_mask (k : Nat) : IsMask (mk k) := by
  by_cases h : k < 20
  · have := mk_all ⟨k, h⟩
    exact ⟨this.1, this.2.1⟩
  · have e : mk k = 0 := by
      unfold mk
      rw [List.getD_eq_getElem?_getD, List.getElem?_eq_none (by simp [maskL]; omega)]
      rfl
    rw [e]
    exact ⟨by decide, by decide⟩
def okTo (f : Nat → Int) : Nat → Bool
  | 0 => true
  | k + 1 => okTo f k && fits (f k) (mk k)
theorem okTo_iff (f : Nat → Int) : ∀ n : Nat, okTo f n = true ↔ ∀ k, k < n → fits (f k) (mk k) = true
  | 0 => by simp [okTo]
  | n + 1 => by
    simp only [okTo, Bool.and_eq_true, okTo_iff f n]
    constructor
    · rintro ⟨a, b⟩ k hk
      by_cases e : k = n
      · subst e; exact b
      · exact a k (by omega)
    · intro a
      exact ⟨fun k hk => a k (by omega), a n (by omega)⟩
def okR (s : Int) (f : Nat → Int) : Bool := okTo f 20 && decide (0 ≤ s ∧ s ≤ 31)
end Go.Proofs.YtnoggfnidaifkaaGreatDoor.R15
namespace Go.Proofs.YtnoggfnidaifkaaGreatDoor.R15
set_option maxRecDepth 20000
open Go.RowKit
set_option linter.unusedVariables false
def rowG (s : Int) (f : Nat → Int) : Array Value := (.int .i64 s :: (List.range 20).map fun j => Value.int .i64 (f j)).toArray
theorem rowG_size (s : Int) (f : Nat → Int) : (rowG s f).size = 21 := by simp [rowG]
theorem rowG_0 (s : Int) (f : Nat → Int) : (rowG s f)[0]? = some (.int .i64 s) := by simp [rowG]
theorem rowG_at (s : Int) (f : Nat → Int) (j : Nat) (h : j < 20) : (rowG s f)[1 + j]? = some (.int .i64 (f j)) := by
  rw [show 1 + j = j + 1 by omega]
  simp [rowG, h]
def HasG (T : TypeId) (w : World) (b : Nat) (s : Int) (f : Nat → Int) : Prop := w.heap[b]? = some (.cells (rowG s f) T (0, 0))
theorem HasG.next {T : TypeId} {w w' : World} {b : Nat} {s : Int} {f : Nat → Int} (h : HasG T w b s f) (k : Below w.heap.size w w') : HasG T w' b s f := (k.block b (lt_of_block h)).trans h
theorem HasG.alloc {T : TypeId} {w : World} {b : Nat} {s : Int} {f : Nat → Int} (h : HasG T w b s f) (x : Obj) : HasG T (w.alloc x) b s f := h.next ((Below.refl _ w).alloc (Nat.le_refl _) _)
theorem hasG_new (T : TypeId) (w : World) (s : Int) (f : Nat → Int) : HasG T (w.alloc (.cells (rowG s f) T)) w.heap.size s f := heap_alloc_new _ _
theorem HasG.lt {T : TypeId} {w : World} {b : Nat} {s : Int} {f : Nat → Int} (h : HasG T w b s f) : b < w.heap.size := lt_of_block h
theorem HasG.c0 {T : TypeId} {w : World} {b : Nat} {s : Int} {f : Nat → Int} (h : HasG T w b s f) : w.cell? ⟨b, 0, none⟩ = some (.int .i64 s) := (cell_of_row w b 0 _ _ _ h).trans (rowG_0 s f)
theorem HasG.at {T : TypeId} {w : World} {b : Nat} {s : Int} {f : Nat → Int} (h : HasG T w b s f) (j : Nat) (hj : j < 20) : w.cell? ⟨b, 1 + j, none⟩ = some (.int .i64 (f j)) := (cell_of_row w b (1 + j) _ _ _ h).trans (rowG_at s f j hj)
theorem HasG.frozen {T : TypeId} {w : World} {b : Nat} {s : Int} {f : Nat → Int} (h : HasG T w b s f) (j : Nat) : w.frozen? ⟨b, j, none⟩ = false := frozen_of_row w b j _ _ h
def upd (f : Nat → Int) (i : Nat) (v : Int) : Nat → Int := fun j => if j = i then v else f j
theorem map_set (N i : Nat) (x : Int) (f : Nat → Int) : ((List.range N).map fun j => Value.int .i64 (f j)).set i (.int .i64 x) = (List.range N).map fun j => Value.int .i64 (upd f i x j) := by
  apply List.ext_getElem?
  intro j
  rw [List.getElem?_set]
  simp only [List.getElem?_map, List.length_map, List.length_range]
  by_cases h : i = j
  · subst h
    by_cases k : i < N
    · simp [k, upd]
    · simp [k]
  · rw [if_neg h]
    by_cases k : j < N
    · simp [k, upd, show ¬ j = i from fun e => h e.symm]
    · simp [k]
theorem rowG_set (s x : Int) (f : Nat → Int) (i : Nat) : (rowG s f).setIfInBounds (1 + i) (.int .i64 x) = rowG s (upd f i x) := by
  unfold rowG
  rw [List.setIfInBounds_toArray, show 1 + i = i + 1 by omega, List.set_cons_succ, map_set]
theorem rowG_one (s : Int) (f : Nat → Int) : (rowG s f).all (·.oneCell') = true := by
  unfold rowG
  rw [← Array.all_toList]
  simp [Value.oneCell']
theorem HasG.set {T : TypeId} {w : World} {b : Nat} {s : Int} {f : Nat → Int} (h : HasG T w b s f) (i : Nat) (x : Int) : HasG T (w.setCell ⟨b, 1 + i, none⟩ (.int .i64 x)) b s (upd f i x) := by
  have k := heap_setCell_same w b (1 + i) _ _ (.int .i64 x) h
  rw [rowG_set] at k
  exact k
theorem HasG.other {T : TypeId} {w : World} {b : Nat} {s : Int} {f : Nat → Int} (h : HasG T w b s f) (p : Addr) (v : Value) (hb : b ≠ p.block) : HasG T (w.setCell p v) b s f := (heap_setCell_other w p b v hb).trans h
theorem HasG.row {T : TypeId} {w : World} {b g : Nat} {s : Int} {f : Nat → Int} (h : HasG T w b s f) (cs : Array Value) (hb : b ≠ g) : HasG T (w.setRow g cs) b s f := (setRow_other w g b cs hb).trans h
theorem zero_lit : (#[.int .i64 0, .int .i64 0, .int .i64 0, .int .i64 0, .int .i64 0, .int .i64 0, .int .i64 0, .int .i64 0, .int .i64 0, .int .i64 0, .int .i64 0, .int .i64 0, .int .i64 0, .int .i64 0, .int .i64 0, .int .i64 0, .int .i64 0, .int .i64 0, .int .i64 0, .int .i64 0, .int .i64 0] : Array Value) = rowG 0 (fun _ => 0) := rfl
theorem info_G (s : Int) (f : Nat → Int) : (Tryz.prog.info? 43).map (·.size) = some (rowG s f).size := by
  rw [rowG_size]
  kernel_rfl
def listG (f : Nat → Int) : List Int := (List.range 20).map f
theorem listG_length (f : Nat → Int) : (listG f).length = 20 := by simp [listG]
theorem size_int (w : World) : (sizeOf 3).run Tryz.prog w = .ok 1 w := by
  have h : (Tryz.prog.info? 3).map (·.size) = some 1 := by kernel_rfl
  cases hq : Tryz.prog.info? 3 with
  | none => rw [hq] at h; cases h
  | some i =>
    rw [hq] at h
    have : i.size = 1 := by simpa using h
    simp [sizeOf, typeInfo, hq, this]
theorem HasG.range {T : TypeId} {w : World} {b : Nat} {s : Int} {f : Nat → Int} (h : HasG T w b s f) : w.rangeAt b 1 ((listG f).map (Value.int .i64)) := by
  intro j v hv
  obtain ⟨hj, he⟩ := List.getElem?_eq_some_iff.1 hv
  have h5 : j < 20 := by simpa [listG_length] using hj
  rw [h.at j h5, ← he]
  simp [listG]
theorem info_T (f : Nat → Int) : (Tryz.prog.info? 41).map (·.size) = some ((listG f).map (Value.int .i64)).length := by
  rw [List.length_map, listG_length]
  kernel_rfl
theorem wpQuiet_row {P : Program} {ops : Array Oper} {C : World → Prop} {Q : Act → Prop} {a : Act} {o : Oper} {rest : List Oper} (hw : Region.wanted o (yielded ops a.tmps) = true) (ty : TypeId) (x : Operand) (ho : o.op = .load ty x)
    (g : Nat) (hx : a.eval x = .pointer (some ⟨g, 0, none⟩)) (t : TypeId) (cs : Array Value) (fr : Nat × Nat) (d : TypeDesc) (hg : ∀ w, C w → w.heap[g]? = some (.cells cs t fr))
    (hu : P.underlying ty = some d) (hd : (match d with | .struct _ | .array _ _ => true | _ => false) = true) (hi : (P.info? ty).map (·.size) = some cs.size)
    (h : wpQuiet P ops C Q rest (a.put o.dst (.agg cs))) : wpQuiet P ops C Q (o :: rest) a := by
  unfold wpQuiet
  rw [if_pos hw]
  refine ⟨.agg cs, fun w hC => ?_, h⟩
  unfold Oper.quietAt execOp
  simp only [ho, hx, Instr.loadAt, Instr.sureAddr, Sem.run_bind, Sem.run_pure, Result.andThen_ok, run_loadVar_row w g t ty cs fr d (hg w hC) hu hd hi]
  exact ⟨rfl, rfl⟩
theorem tab_index (f : Nat → Int) (k : Nat) (hk : k < 20) (w : World) : (Instr.index 41 (.agg ((listG f).map (Value.int .i64)).toArray) (.int .i64 (k : Int))).run Tryz.prog w = .ok (.int .i64 (f k)) w := by
  have e : ((listG f).map (Value.int .i64)).toArray[k]? = some (.int .i64 (f k)) := by simp [listG, hk]
  have h0 : (0 : Int) ≤ k ∧ (k : Int) < ((20 : Nat) : Int) := by omega
  have h1 : (k : Int) < 20 := by omega
  have hs := size_int w
  generalize ((listG f).map (Value.int .i64)).toArray = cs at e ⊢
  simp only [Instr.index, asIntOf, part]
  simp only [run_underlying Tryz.underlying41, Sem.run_bind, Result.andThen]
  simp [h0, h1, hs, e, isAgg, run_underlying Tryz.underlying3, Result.andThen]
end Go.Proofs.YtnoggfnidaifkaaGreatDoor.R15
namespace Go.Proofs.YtnoggfnidaifkaaGreatDoor.R15
set_option maxRecDepth 20000
open Go.RowKit
set_option linter.unusedVariables false
def maskCells : Array Value := (maskL.map (Value.int .i64)).toArray
def HasMask (w : World) : Prop := ∃ t fr, w.heap[2]? = some (.cells maskCells t fr)
theorem HasMask.pos {w : World} (h : HasMask w) : 2 < w.heap.size := by
  obtain ⟨t, fr, e⟩ := h
  exact lt_of_block e
theorem HasMask.next {w w' : World} (h : HasMask w) (b : Below w.heap.size w w') : HasMask w' := by
  have k := h.pos
  obtain ⟨t, fr, e⟩ := h
  exact ⟨t, fr, (b.block 2 k).trans e⟩
theorem mask_cell : ∀ k : Fin 20, maskL[k.val]? = some (mk k.val) := by decide +kernel
theorem HasMask.at {w : World} (h : HasMask w) (k : Nat) (hk : k < 20) : w.cell? ⟨2, k, none⟩ = some (.int .i64 (mk k)) := by
  obtain ⟨t, fr, e⟩ := h
  rw [cell_of_row w 2 k _ _ _ e]
  have := mask_cell ⟨k, hk⟩
  simp only at this
  simp [maskCells, this]
def halfOf (n a b : Int) : Int := if a = 2 then lowOf n b else highOf n b
theorem half_any (n a b x : Int) (hx : halfOf n a b = x) (w : World) : Calls Tryz.prog 298 #[.int .i64 n, .int .i64 a, .int .i64 b] w fun e w' => e = .returned (.int .i64 x) ∧ Below w.heap.size w w' := by
  unfold halfOf lowOf highOf at hx
  have HX := hide hx
  clear hx
  by_cases h : a = 2
  · have HH := hide h
    go_enter Tryz.func298, Tryz.ntmps298
    go_wp2_with (first | (go_at_call 111; refine (split_any _ _).mono ?_; rintro e w' ⟨rfl, hw⟩; subst w') | (go_at_call 107; refine (join_any _ _ _).mono ?_; rintro e w' ⟨rfl, bw⟩))
    go_ret
    exact ⟨ret_int (by rw [← HX.out, if_pos HH.out]), bw⟩
  · have HH := hide h
    go_enter Tryz.func298, Tryz.ntmps298
    go_wp2_with (first | (go_at_call 111; refine (split_any _ _).mono ?_; rintro e w' ⟨rfl, hw⟩; subst w') | (go_at_call 107; refine (join_any _ _ _).mono ?_; rintro e w' ⟨rfl, bw⟩))
    go_ret
    exact ⟨ret_int (by rw [← HX.out, if_neg HH.out]), bw⟩
end Go.Proofs.YtnoggfnidaifkaaGreatDoor.R15
namespace Go.Proofs.YtnoggfnidaifkaaGreatDoor.R15
set_option maxRecDepth 20000
open Go.RowKit
set_option linter.unusedVariables false
theorem and_31 (n : Int) : bits .and .i64 n 31 = n % 32 := and_mask 5 (by decide) n
theorem write_no (a s b : Int) (f : Nat → Int) (h : a ≠ 0 ∧ (a = 2 ∨ a = 3 → s < 0 ∨ 20 ≤ s)) (w : World) : Calls Tryz.prog 277 #[.agg (rowG s f), .int .i64 a, .int .i64 b] w fun e w' => e = .returned (.tuple #[.agg (rowG s f), .int .i64 0]) ∧ Below w.heap.size w w' := by
  obtain ⟨h0, hs⟩ := h
  by_cases h2 : a = 2
  · subst h2
    rcases hs (.inl rfl) with k | k
    · clear hs
      have V0 := (hasG_new 43 w s f).alloc (.cells #[.int .i64 0, .int .i64 0, .int .i64 0, .int .i64 0, .int .i64 0, .int .i64 0, .int .i64 0, .int .i64 0, .int .i64 0, .int .i64 0, .int .i64 0, .int .i64 0, .int .i64 0, .int .i64 0, .int .i64 0, .int .i64 0, .int .i64 0, .int .i64 0, .int .i64 0, .int .i64 0, .int .i64 0] 43)
      have Z0 := heap_alloc2_new w (.cells (rowG s f) 43) (.cells #[.int .i64 0, .int .i64 0, .int .i64 0, .int .i64 0, .int .i64 0, .int .i64 0, .int .i64 0, .int .i64 0, .int .i64 0, .int .i64 0, .int .i64 0, .int .i64 0, .int .i64 0, .int .i64 0, .int .i64 0, .int .i64 0, .int .i64 0, .int .i64 0, .int .i64 0, .int .i64 0, .int .i64 0] 43)
      have B0 := ((Below.refl _ w).alloc (Nat.le_refl _) (.cells (rowG s f) 43)).alloc (by simp) (.cells #[.int .i64 0, .int .i64 0, .int .i64 0, .int .i64 0, .int .i64 0, .int .i64 0, .int .i64 0, .int .i64 0, .int .i64 0, .int .i64 0, .int .i64 0, .int .i64 0, .int .i64 0, .int .i64 0, .int .i64 0, .int .i64 0, .int .i64 0, .int .i64 0, .int .i64 0, .int .i64 0, .int .i64 0] 43)
      have c0 := V0.c0
      have z0 := V0.frozen 0
      have V1 := hide V0
      have Z1 := hide Z0
      have B1 := hide B0
      clear V0 Z0 B0
      go_enter Tryz.func277, Tryz.ntmps277
      go_wp2_with (first
        | (refine wpList_load_row rfl 43 (.tmp 3) rfl w.heap.size rfl 43 _ (0, 0) _ V1.out Tryz.underlying43 rfl (info_G _ _) ?_)
        | (refine wpList_store_row rfl 43 (.tmp 6) (.tmp 48) rfl (w.heap.size + 1) _ rfl rfl 43 _ Z1.out (info_G _ _) (by rw [rowG_size]; rfl) (rowG_one _ _) ?_)
        | (refine bodyPost_ret (results_agg_tmp rfl _ _ (w.heap.size + 1) 43 _ (0, 0) _ rfl (setRow_heap _ _ _ _ _ _ Z1.out) Tryz.underlying43 rfl (info_G _ _)) rfl ⟨rfl, below_setRow B1.out (Nat.le_succ _) _⟩))
    · clear hs
      have V0 := (hasG_new 43 w s f).alloc (.cells #[.int .i64 0, .int .i64 0, .int .i64 0, .int .i64 0, .int .i64 0, .int .i64 0, .int .i64 0, .int .i64 0, .int .i64 0, .int .i64 0, .int .i64 0, .int .i64 0, .int .i64 0, .int .i64 0, .int .i64 0, .int .i64 0, .int .i64 0, .int .i64 0, .int .i64 0, .int .i64 0, .int .i64 0] 43)
      have Z0 := heap_alloc2_new w (.cells (rowG s f) 43) (.cells #[.int .i64 0, .int .i64 0, .int .i64 0, .int .i64 0, .int .i64 0, .int .i64 0, .int .i64 0, .int .i64 0, .int .i64 0, .int .i64 0, .int .i64 0, .int .i64 0, .int .i64 0, .int .i64 0, .int .i64 0, .int .i64 0, .int .i64 0, .int .i64 0, .int .i64 0, .int .i64 0, .int .i64 0] 43)
      have B0 := ((Below.refl _ w).alloc (Nat.le_refl _) (.cells (rowG s f) 43)).alloc (by simp) (.cells #[.int .i64 0, .int .i64 0, .int .i64 0, .int .i64 0, .int .i64 0, .int .i64 0, .int .i64 0, .int .i64 0, .int .i64 0, .int .i64 0, .int .i64 0, .int .i64 0, .int .i64 0, .int .i64 0, .int .i64 0, .int .i64 0, .int .i64 0, .int .i64 0, .int .i64 0, .int .i64 0, .int .i64 0] 43)
      have c0 := V0.c0
      have z0 := V0.frozen 0
      have V1 := hide V0
      have Z1 := hide Z0
      have B1 := hide B0
      clear V0 Z0 B0
      go_enter Tryz.func277, Tryz.ntmps277
      go_wp2_with (first
        | (refine wpList_load_row rfl 43 (.tmp 3) rfl w.heap.size rfl 43 _ (0, 0) _ V1.out Tryz.underlying43 rfl (info_G _ _) ?_)
        | (refine wpList_store_row rfl 43 (.tmp 6) (.tmp 48) rfl (w.heap.size + 1) _ rfl rfl 43 _ Z1.out (info_G _ _) (by rw [rowG_size]; rfl) (rowG_one _ _) ?_)
        | (refine bodyPost_ret (results_agg_tmp rfl _ _ (w.heap.size + 1) 43 _ (0, 0) _ rfl (setRow_heap _ _ _ _ _ _ Z1.out) Tryz.underlying43 rfl (info_G _ _)) rfl ⟨rfl, below_setRow B1.out (Nat.le_succ _) _⟩))
  · by_cases h3 : a = 3
    · subst h3
      rcases hs (.inr rfl) with k | k
      · clear hs
        have V0 := (hasG_new 43 w s f).alloc (.cells #[.int .i64 0, .int .i64 0, .int .i64 0, .int .i64 0, .int .i64 0, .int .i64 0, .int .i64 0, .int .i64 0, .int .i64 0, .int .i64 0, .int .i64 0, .int .i64 0, .int .i64 0, .int .i64 0, .int .i64 0, .int .i64 0, .int .i64 0, .int .i64 0, .int .i64 0, .int .i64 0, .int .i64 0] 43)
        have Z0 := heap_alloc2_new w (.cells (rowG s f) 43) (.cells #[.int .i64 0, .int .i64 0, .int .i64 0, .int .i64 0, .int .i64 0, .int .i64 0, .int .i64 0, .int .i64 0, .int .i64 0, .int .i64 0, .int .i64 0, .int .i64 0, .int .i64 0, .int .i64 0, .int .i64 0, .int .i64 0, .int .i64 0, .int .i64 0, .int .i64 0, .int .i64 0, .int .i64 0] 43)
        have B0 := ((Below.refl _ w).alloc (Nat.le_refl _) (.cells (rowG s f) 43)).alloc (by simp) (.cells #[.int .i64 0, .int .i64 0, .int .i64 0, .int .i64 0, .int .i64 0, .int .i64 0, .int .i64 0, .int .i64 0, .int .i64 0, .int .i64 0, .int .i64 0, .int .i64 0, .int .i64 0, .int .i64 0, .int .i64 0, .int .i64 0, .int .i64 0, .int .i64 0, .int .i64 0, .int .i64 0, .int .i64 0] 43)
        have c0 := V0.c0
        have z0 := V0.frozen 0
        have V1 := hide V0
        have Z1 := hide Z0
        have B1 := hide B0
        clear V0 Z0 B0
        go_enter Tryz.func277, Tryz.ntmps277
        go_wp2_with (first
          | (refine wpList_load_row rfl 43 (.tmp 3) rfl w.heap.size rfl 43 _ (0, 0) _ V1.out Tryz.underlying43 rfl (info_G _ _) ?_)
          | (refine wpList_store_row rfl 43 (.tmp 6) (.tmp 48) rfl (w.heap.size + 1) _ rfl rfl 43 _ Z1.out (info_G _ _) (by rw [rowG_size]; rfl) (rowG_one _ _) ?_)
          | (refine bodyPost_ret (results_agg_tmp rfl _ _ (w.heap.size + 1) 43 _ (0, 0) _ rfl (setRow_heap _ _ _ _ _ _ Z1.out) Tryz.underlying43 rfl (info_G _ _)) rfl ⟨rfl, below_setRow B1.out (Nat.le_succ _) _⟩))
      · clear hs
        have V0 := (hasG_new 43 w s f).alloc (.cells #[.int .i64 0, .int .i64 0, .int .i64 0, .int .i64 0, .int .i64 0, .int .i64 0, .int .i64 0, .int .i64 0, .int .i64 0, .int .i64 0, .int .i64 0, .int .i64 0, .int .i64 0, .int .i64 0, .int .i64 0, .int .i64 0, .int .i64 0, .int .i64 0, .int .i64 0, .int .i64 0, .int .i64 0] 43)
        have Z0 := heap_alloc2_new w (.cells (rowG s f) 43) (.cells #[.int .i64 0, .int .i64 0, .int .i64 0, .int .i64 0, .int .i64 0, .int .i64 0, .int .i64 0, .int .i64 0, .int .i64 0, .int .i64 0, .int .i64 0, .int .i64 0, .int .i64 0, .int .i64 0, .int .i64 0, .int .i64 0, .int .i64 0, .int .i64 0, .int .i64 0, .int .i64 0, .int .i64 0] 43)
        have B0 := ((Below.refl _ w).alloc (Nat.le_refl _) (.cells (rowG s f) 43)).alloc (by simp) (.cells #[.int .i64 0, .int .i64 0, .int .i64 0, .int .i64 0, .int .i64 0, .int .i64 0, .int .i64 0, .int .i64 0, .int .i64 0, .int .i64 0, .int .i64 0, .int .i64 0, .int .i64 0, .int .i64 0, .int .i64 0, .int .i64 0, .int .i64 0, .int .i64 0, .int .i64 0, .int .i64 0, .int .i64 0] 43)
        have c0 := V0.c0
        have z0 := V0.frozen 0
        have V1 := hide V0
        have Z1 := hide Z0
        have B1 := hide B0
        clear V0 Z0 B0
        go_enter Tryz.func277, Tryz.ntmps277
        go_wp2_with (first
          | (refine wpList_load_row rfl 43 (.tmp 3) rfl w.heap.size rfl 43 _ (0, 0) _ V1.out Tryz.underlying43 rfl (info_G _ _) ?_)
          | (refine wpList_store_row rfl 43 (.tmp 6) (.tmp 48) rfl (w.heap.size + 1) _ rfl rfl 43 _ Z1.out (info_G _ _) (by rw [rowG_size]; rfl) (rowG_one _ _) ?_)
          | (refine bodyPost_ret (results_agg_tmp rfl _ _ (w.heap.size + 1) 43 _ (0, 0) _ rfl (setRow_heap _ _ _ _ _ _ Z1.out) Tryz.underlying43 rfl (info_G _ _)) rfl ⟨rfl, below_setRow B1.out (Nat.le_succ _) _⟩))
    · clear hs
      have V0 := (hasG_new 43 w s f).alloc (.cells #[.int .i64 0, .int .i64 0, .int .i64 0, .int .i64 0, .int .i64 0, .int .i64 0, .int .i64 0, .int .i64 0, .int .i64 0, .int .i64 0, .int .i64 0, .int .i64 0, .int .i64 0, .int .i64 0, .int .i64 0, .int .i64 0, .int .i64 0, .int .i64 0, .int .i64 0, .int .i64 0, .int .i64 0] 43)
      have Z0 := heap_alloc2_new w (.cells (rowG s f) 43) (.cells #[.int .i64 0, .int .i64 0, .int .i64 0, .int .i64 0, .int .i64 0, .int .i64 0, .int .i64 0, .int .i64 0, .int .i64 0, .int .i64 0, .int .i64 0, .int .i64 0, .int .i64 0, .int .i64 0, .int .i64 0, .int .i64 0, .int .i64 0, .int .i64 0, .int .i64 0, .int .i64 0, .int .i64 0] 43)
      have B0 := ((Below.refl _ w).alloc (Nat.le_refl _) (.cells (rowG s f) 43)).alloc (by simp) (.cells #[.int .i64 0, .int .i64 0, .int .i64 0, .int .i64 0, .int .i64 0, .int .i64 0, .int .i64 0, .int .i64 0, .int .i64 0, .int .i64 0, .int .i64 0, .int .i64 0, .int .i64 0, .int .i64 0, .int .i64 0, .int .i64 0, .int .i64 0, .int .i64 0, .int .i64 0, .int .i64 0, .int .i64 0] 43)
      have c0 := V0.c0
      have z0 := V0.frozen 0
      have V1 := hide V0
      have Z1 := hide Z0
      have B1 := hide B0
      clear V0 Z0 B0
      go_enter Tryz.func277, Tryz.ntmps277
      go_wp2_with (first
        | (refine wpList_load_row rfl 43 (.tmp 3) rfl w.heap.size rfl 43 _ (0, 0) _ V1.out Tryz.underlying43 rfl (info_G _ _) ?_)
        | (refine wpList_store_row rfl 43 (.tmp 6) (.tmp 48) rfl (w.heap.size + 1) _ rfl rfl 43 _ Z1.out (info_G _ _) (by rw [rowG_size]; rfl) (rowG_one _ _) ?_)
        | (refine bodyPost_ret (results_agg_tmp rfl _ _ (w.heap.size + 1) 43 _ (0, 0) _ rfl (setRow_heap _ _ _ _ _ _ Z1.out) Tryz.underlying43 rfl (info_G _ _)) rfl ⟨rfl, below_setRow B1.out (Nat.le_succ _) _⟩))
end Go.Proofs.YtnoggfnidaifkaaGreatDoor.R15
namespace Go.Proofs.YtnoggfnidaifkaaGreatDoor.R15
set_option maxRecDepth 20000
open Go.RowKit
set_option linter.unusedVariables false
theorem okR_no (s : Int) (f : Nat → Int) (k : Nat) (hk : k < 20) (h : fits (f k) (mk k) = false) : okR s f = false := by
  have e : okTo f 20 = false := by
    cases c : okTo f 20 with
    | false => rfl
    | true =>
      rw [(okTo_iff f 20).1 c k hk] at h
      cases h
  unfold okR
  rw [e]
  rfl
theorem okR_sel (s : Int) (f : Nat → Int) (h : ∀ k, k < 20 → fits (f k) (mk k) = true) : okR s f = decide (0 ≤ s ∧ s ≤ 31) := by
  unfold okR
  rw [(okTo_iff f 20).2 h]
  rfl
theorem valid_at (s : Int) (f : Nat → Int) (hw : ∀ j, j < 20 → (Lit.int .i64 (f j)).wf = true) (w : World) (hM : HasMask w) (cs : List Value) (hcs : cs = (listG f).map (Value.int .i64))
    (hi : ∀ (j : Nat), j < 20 → ∀ w : World, (Instr.index 41 (.agg cs.toArray) (.int .i64 (j : Int))).run Tryz.prog w = .ok (.int .i64 (f j)) w) :
    Calls Tryz.prog 84 #[.agg (rowG s f)] w fun e w' => e = .returned (.bool (okR s f)) ∧ Below w.heap.size w w' := by
  have HX := hide hi
  have V := hide (hasG_new 43 w s f)
  have R := hide (show (w.alloc (.cells (rowG s f) 43)).rangeAt w.heap.size 1 cs by rw [hcs]; exact V.out.range)
  have I := hide (show (Tryz.prog.info? 41).map (·.size) = some cs.length by rw [hcs]; exact info_T f)
  have B := hide ((Below.refl _ w).alloc (Nat.le_refl _) (.cells (rowG s f) 43))
  have M := hide (hM.next B.out)
  have HW := hide hw
  clear hi hcs hM hw
  go_enter Tryz.func84, Tryz.ntmps84
  go_wp2_with (first | (refine wpList_load_mid rfl 41 (.tmp 5) rfl w.heap.size 1 rfl cs _ R.out Tryz.underlying41 rfl I.out ?_))
  obtain ⟨wa, hwa⟩ : ∃ wa, wa = w.alloc (.cells (rowG s f) 43) := ⟨_, rfl⟩
  rw [← hwa] at V B M ⊢
  clear hwa R I
  go_loop [7] (fun si => ∃ j : Nat, j ≤ 20 ∧ si = .int .i64 (j : Int) ∧ ∀ k, k < j → fits (f k) (mk k) = true) (fun si => 20 - (intOf si).toNat)
  case atStart => exact ⟨0, by omega, rfl, fun i hi => absurd hi (by omega)⟩
  case round =>
    obtain ⟨j, hj, rfl, hne⟩ := hrel
    have HN := hide hne
    clear hne
    by_cases h : j < 20
    · have hx := HX.out j h
      have cm := M.out.at j h
      have hb := bic_fits (f j) (mk j) (HW.out j h) (mk_mask j)
      by_cases hf : fits (f j) (mk j) = true
      · rw [hf] at hb
        replace hb : (bits .andNot .i64 (f j) (mk j) != 0) = false := hb
        have HF := hide hf
        clear hf
        generalize f j = n at hx hb
        generalize mk j = m at cm hb
        go_wp2_with fail
        go_round
        case rel =>
          refine ⟨j + 1, by omega, by go_num, fun i hi => ?_⟩
          by_cases hij : i = j
          · subst hij; exact HF.out
          · exact HN.out i (by omega)
        case measure => simp [intOf]; omega
      · have hf2 : fits (f j) (mk j) = false := by simpa using hf
        rw [hf2] at hb
        replace hb : (bits .andNot .i64 (f j) (mk j) != 0) = true := hb
        have HF := hide (okR_no s f j h hf2)
        clear hf hf2
        generalize f j = n at hx hb
        generalize mk j = m at cm hb
        go_wp2_with fail
        go_ret
        exact ⟨ret_bool HF.out.symm, B.out⟩
    · obtain rfl : j = 20 := by omega
      have c0 := V.out.c0
      have HF := hide (okR_sel s f HN.out)
      by_cases h0 : 0 ≤ s
      · by_cases h1 : s ≤ 31
        · rw [decide_eq_true ⟨h0, h1⟩] at HF
          go_wp2_with fail
          go_ret
          exact ⟨ret_bool HF.out.symm, B.out⟩
        · rw [decide_eq_false (fun k => h1 k.2)] at HF
          go_wp2_with fail
          go_ret
          exact ⟨ret_bool HF.out.symm, B.out⟩
      · rw [decide_eq_false (fun k => h0 k.1)] at HF
        go_wp2_with fail
        go_ret
        exact ⟨ret_bool HF.out.symm, B.out⟩
theorem valid_any (s : Int) (f : Nat → Int) (hw : ∀ j, j < 20 → (Lit.int .i64 (f j)).wf = true) (w : World) (hM : HasMask w) :
    Calls Tryz.prog 84 #[.agg (rowG s f)] w fun e w' => e = .returned (.bool (okR s f)) ∧ Below w.heap.size w w' :=
  valid_at s f hw w hM _ rfl fun j hj w => tab_index f j hj w
end Go.Proofs.YtnoggfnidaifkaaGreatDoor.R15
namespace Go.Proofs.YtnoggfnidaifkaaGreatDoor.R15
set_option maxRecDepth 20000
open Go.RowKit
set_option linter.unusedVariables false
theorem fresh_any (w : World) : Calls Tryz.prog 30 #[] w fun e w' => e = .returned (.agg (rowG 0 (fun _ => 0))) ∧ Below w.heap.size w w' := by
  have Z0 := hide (show (w.alloc (.cells #[.int .i64 0, .int .i64 0, .int .i64 0, .int .i64 0, .int .i64 0, .int .i64 0, .int .i64 0, .int .i64 0, .int .i64 0, .int .i64 0, .int .i64 0, .int .i64 0, .int .i64 0, .int .i64 0, .int .i64 0, .int .i64 0, .int .i64 0, .int .i64 0, .int .i64 0, .int .i64 0, .int .i64 0] 43)).heap[w.heap.size]? = some (.cells #[.int .i64 0, .int .i64 0, .int .i64 0, .int .i64 0, .int .i64 0, .int .i64 0, .int .i64 0, .int .i64 0, .int .i64 0, .int .i64 0, .int .i64 0, .int .i64 0, .int .i64 0, .int .i64 0, .int .i64 0, .int .i64 0, .int .i64 0, .int .i64 0, .int .i64 0, .int .i64 0, .int .i64 0] 43 (0, 0)) from heap_alloc_new _ _)
  rw [← zero_lit]
  go_enter Tryz.func30, Tryz.ntmps30
  go_wp2_with (first
    | (refine wpList_store_row rfl 43 (.tmp 0) (.tmp 1) rfl w.heap.size _ rfl rfl 43 _ Z0.out (by kernel_rfl) rfl (by kernel_rfl) ?_)
    | (refine bodyPost_ret (results_cell_row rfl _ _ w.heap.size 43 _ (0, 0) _ rfl (setRow_heap _ _ _ _ _ _ Z0.out) Tryz.underlying43 rfl (by kernel_rfl)) rfl ⟨rfl, below_setRow ((Below.refl _ w).alloc (Nat.le_refl _) _) (Nat.le_refl _) _⟩))
end Go.Proofs.YtnoggfnidaifkaaGreatDoor.R15
namespace Go.Proofs.YtnoggfnidaifkaaGreatDoor.R15
set_option maxRecDepth 20000
open Go.RowKit
set_option linter.unusedVariables false
def wideL : List Int := [32, 64, 128, 128]
def wideOf (p : Nat) : Int := wideL.getD p 0
end Go.Proofs.YtnoggfnidaifkaaGreatDoor.R15
namespace Go.Proofs.YtnoggfnidaifkaaGreatDoor.R15
set_option maxRecDepth 20000
open Go.RowKit
set_option linter.unusedVariables false
end Go.Proofs.YtnoggfnidaifkaaGreatDoor.R15
namespace Go.Proofs.YtnoggfnidaifkaaGreatDoor.R15
set_option maxRecDepth 20000
open Go.RowKit
set_option linter.unusedVariables false
end Go.Proofs.YtnoggfnidaifkaaGreatDoor.R15
namespace Go.Proofs.YtnoggfnidaifkaaGreatDoor.R15
set_option maxRecDepth 20000
open Go.RowKit
set_option linter.unusedVariables false
end Go.Proofs.YtnoggfnidaifkaaGreatDoor.R15
namespace Go.Proofs.YtnoggfnidaifkaaGreatDoor.R15
set_option maxRecDepth 20000
open Go.RowKit
set_option linter.unusedVariables false
end Go.Proofs.YtnoggfnidaifkaaGreatDoor.R15
