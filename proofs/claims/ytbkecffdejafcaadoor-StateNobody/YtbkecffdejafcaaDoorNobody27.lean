/- What Encode and Decode answer of consoles and cards that no call made. -/
import Derived.Test.YtbkecffdejafcaaDoorZero27
import Derived.Test.YtbkecffdejafcaaDoorWant
import Derived.Stop.Asserts
import Derived.Deep.MidRow
import Derived.LaidEql
namespace Go.Proofs.YtbkecffdejafcaaDoor
open Go.RowKit Go.Extern.Stop Go.Stop Go.Extern
set_option linter.unusedVariables false
theorem wpList_mid_want {P : Program} {ops : Array Oper} {rest : List Oper} {op : Oper} {a : Act} {w : World} {Q : Exit → Act → World → Prop} (hw : Region.wanted op (yielded ops a.tmps) = true) (ty : TypeId) (x : Operand) (ho : op.op = .load ty x)
    (b o : Nat) (hx : a.eval x = .pointer (some ⟨b, o, none⟩)) (cs : List Value) (d : TypeDesc) (hc : w.rangeAt b o cs)
    (hu : P.underlying ty = some d) (hd : d.isRow = true) (hi : (P.info? ty).map (·.size) = some cs.length)
    (h : wpList P ops Q rest (a.put op.dst (.agg cs.toArray)) w) : wpList P ops Q (op :: rest) a w :=
  BigFrame.wpList_want hw fun _ hK => wp_load_mid ty x ho b o hx cs d hc hu hd hi (hK _ _ h)
theorem chan_self (c : Nat → Int) (d : Nat) (w : World) : (Op.equalIn (d + 3) 49 (.agg (rowF (iv c) 40)) (.agg (rowF (iv c) 40))).run Tryd.prog w = .ok true w := by
  refine same_struct (fs := _) Tryd.underlying49 (by kernel_rfl) (d + 2) w fun q hq => ?_
  simp only [List.mem_cons, List.not_mem_nil, or_false] at hq
  have one : ∀ i, i < 40 → ∃ a, (part 3 (rowF (iv c) 40) i).run Tryd.prog w = .ok a w ∧ (Op.equalIn (d + 2) 3 a a).run Tryd.prog w = .ok true w := fun i hi => ⟨_, part_int Tryd.underlying3 c 40 i hi w, by rw [run_equalIn_int w (d + 1) 3 .i64 .i64 _ _ Tryd.underlying3]; simp⟩
  rcases hq with rfl | rfl | rfl | rfl | rfl | rfl | rfl | rfl | rfl
  · exact one 0 (by decide)
  · exact one 1 (by decide)
  · exact one 2 (by decide)
  · exact one 3 (by decide)
  · exact ⟨_, part_row (t := 47) Tryd.underlying47 rfl (M := 32) (by kernel_rfl) (iv c) 40 4 (by decide) w, same_ints Tryd.underlying47 Tryd.underlying3 (i := Tryd.t3) (by kernel_rfl) (by kernel_rfl) (fun j => c (4 + j)) d w⟩
  · exact one 36 (by decide)
  · exact one 37 (by decide)
  · exact one 38 (by decide)
  · exact one 39 (by decide)
theorem psg_self (f : Nat → Int) (d : Nat) (w : World) : (Op.equalIn (d + 5) 52 (.agg (rowF (iv f) 244)) (.agg (rowF (iv f) 244))).run Tryd.prog w = .ok true w := by
  refine same_struct (fs := _) Tryd.underlying52 (by kernel_rfl) (d + 4) w fun q hq => ?_
  simp only [List.mem_cons, List.not_mem_nil, or_false] at hq
  have one : ∀ i, i < 244 → ∃ a, (part 3 (rowF (iv f) 244) i).run Tryd.prog w = .ok a w ∧ (Op.equalIn (d + 4) 3 a a).run Tryd.prog w = .ok true w := fun i hi => ⟨_, part_int Tryd.underlying3 f 244 i hi w, by rw [run_equalIn_int w (d + 3) 3 .i64 .i64 _ _ Tryd.underlying3]; simp⟩
  rcases hq with rfl | rfl | rfl | rfl | rfl
  · exact one 0 (by decide)
  · exact one 1 (by decide)
  · exact one 2 (by decide)
  · exact one 3 (by decide)
  · refine ⟨_, part_row (t := 50) Tryd.underlying50 rfl (M := 240) (by kernel_rfl) (iv f) 244 4 (by decide) w, ?_⟩
    rw [run_equalIn_array w (d + 3) _ _ Tryd.underlying50 (i := Tryd.t49) (by kernel_rfl), show Tryd.prog.cellsOf 49 = 40 by kernel_rfl]
    refine eqItems_self _ _ w fun j hj => ⟨_, part_row (t := 49) Tryd.underlying49 rfl (M := 40) (by kernel_rfl) (fun j => iv f (4 + j)) 240 (j * 40) (by have := List.mem_range.1 hj; omega) w, ?_⟩
    exact chan_self (fun i => f (4 + (j * 40 + i))) d w
theorem psg_eql (f : Nat → Int) (w : World) : (binOp .eql 52 (.agg (rowF (iv f) 244)) (.agg (rowF (iv f) 244))).run Tryd.prog w = .ok (.bool true) w := eql_true w (psg_self f 9995 w)
def zeroP : List (Nat × (Nat → Value)) := [(244, iv fun _ => 0)]
theorem zeroP_is : Tryd.t52.zero = some (.agg (pl zeroP).toArray) := isZeroB_eq (by kernel_rfl)
theorem built_P (w : World) : (Instr.build 52 #[]).run Tryd.prog w = .ok (.agg (rowF (iv fun _ => 0) 244)) w := by
  rw [built_zero (ti := Tryd.t52) (N := 244) (by kernel_rfl) Tryd.underlying52 zeroP_is (of_decide_eq_true (by kernel_rfl)) (by kernel_rfl) w]
  congr 2
theorem file_eql (w : World) : (binOp .eql 43 (.agg (rowF (iv fun _ => 0) 8)) (.agg #[.int .i64 0, .int .i64 0, .int .i64 0, .int .i64 0, .int .i64 0, .int .i64 0, .int .i64 0, .int .i64 0])).run Tryd.prog w = .ok (.bool true) w :=
  (run_eql_ints w 43 3 8 Tryd.underlying43 Tryd.underlying3 Tryd.sizeOf3 [0, 0, 0, 0, 0, 0, 0, 0] [0, 0, 0, 0, 0, 0, 0, 0] rfl rfl).trans (by simp)
/-- A machine that no call made is plain. -/
theorem isPlain_yes {w : World} {b : Nat} (h : HasF 63 w b 9263 (segs L0)) : Calls Tryd.prog 17 #[.pointer (some ⟨b, 0, none⟩)] w fun e w' => e = Ending.returned (.bool true) ∧ w' = w := by
  have HS := hide (show ∀ j, j < 244 → segs L0 (8997 + j) = iv (fun _ => 0) j from fun j hj => by
    have q := segs_get L0 11 244 (iv fun _ => 0) j rfl hj
    rw [show soff L0 11 = 8997 from of_decide_eq_true (by kernel_rfl)] at q
    exact q)
  have HF := hide (show w.rangeAt b 8475 (rowF (iv fun _ => 0) 8).toList by
    have q := h.range 8475 8 (by decide)
    rw [rowF_ext (d := iv fun _ => 0) fun j hj => by
      have q := segs_get L0 9 8 (iv fun _ => 0) j rfl hj
      rw [show soff L0 9 = 8475 from of_decide_eq_true (by kernel_rfl)] at q
      exact q] at q
    exact q)
  have H := hide h
  have hb := h.lt
  clear h
  have pe := psg_eql (fun _ => 0)
  have fe := file_eql
  have I8 := hide (show (Tryd.prog.info? 43).map (·.size) = some (rowF (iv fun _ => 0) 8).toList.length by kernel_rfl)
  obtain ⟨R, hR⟩ : ∃ R, rowF (iv fun _ => 0) 244 = R := ⟨_, rfl⟩
  rw [hR] at pe
  have HR := hide hR
  clear hR
  set_option maxRecDepth 20000 in
  go_enter Tryd.func17, Tryd.ntmps17
  set_option maxRecDepth 20000 in
  go_wp2_with (first
    | (refine wpList_load_part rfl 52 (.tmp 5) rfl b 8997 rfl H.out 244 (by decide) (iv fun _ => 0) HS.out _ Tryd.underlying52 rfl (by kernel_rfl) ?_; rw [HR.out])
    | (refine wpList_built rfl 52 _ rfl #[] (by simp) R (fun w => by rw [← HR.out]; exact built_P w) ?_)
    | (refine wpList_mid_want rfl 43 (.tmp 12) rfl b 8475 rfl _ _ HF.out Tryd.underlying43 rfl I8.out ?_))
  set_option maxRecDepth 20000 in
  go_ret
  exact ⟨rfl, rfl⟩
/-- isNone: nil, without a machine, with one that no call made. -/
theorem isNone_nil (w : World) : Calls Tryd.prog 6 #[.pointer none] w fun e w' => e = Ending.returned (.bool true) ∧ w' = w := by
  set_option maxRecDepth 20000 in
  go_enter Tryd.func6, Tryd.ntmps6
  set_option maxRecDepth 20000 in
  go_wp2
  set_option maxRecDepth 20000 in
  go_ret
  exact ⟨rfl, rfl⟩
theorem isNone_no {w : World} {c : Nat} (h : w.cell? ⟨c, 8, none⟩ = some (.pointer none)) : Calls Tryd.prog 6 #[.pointer (some ⟨c, 0, none⟩)] w fun e w' => e = Ending.returned (.bool true) ∧ w' = w := by
  set_option maxRecDepth 20000 in
  go_enter Tryd.func6, Tryd.ntmps6
  set_option maxRecDepth 20000 in
  go_wp2
  set_option maxRecDepth 20000 in
  go_ret
  exact ⟨rfl, rfl⟩
theorem isNone_plain {w : World} {c b : Nat} (h : w.cell? ⟨c, 8, none⟩ = some (.pointer (some ⟨b, 0, none⟩))) (hb : HasF 63 w b 9263 (segs L0)) : Calls Tryd.prog 6 #[.pointer (some ⟨c, 0, none⟩)] w fun e w' => e = Ending.returned (.bool true) ∧ w' = w := by
  have K := hide (isPlain_yes hb)
  clear hb
  set_option maxRecDepth 20000 in
  go_enter Tryd.func6, Tryd.ntmps6
  set_option maxRecDepth 20000 in
  go_wp2_with (first | (go_at_call 17; refine K.out.mono ?_; rintro e w' ⟨rfl, hw⟩; subst w'))
  set_option maxRecDepth 20000 in
  go_ret
  exact ⟨rfl, rfl⟩
/-- Encode of such a one. -/
theorem encode_none {w : World} {p : Value} (K : Calls Tryd.prog 6 #[p] w fun e w' => e = Ending.returned (.bool true) ∧ w' = w) : Calls Tryd.prog 4 #[p] w fun e w' => e = Ending.returned (.tuple #[.slice none 0 0, .int .i64 1]) ∧ w' = w := by
  replace K := hide K
  set_option maxRecDepth 20000 in
  go_enter Tryd.func4, Tryd.ntmps4
  set_option maxRecDepth 20000 in
  go_wp2_with (first | (go_at_call 6; refine K.out.mono ?_; rintro e w' ⟨rfl, hw⟩; subst w'))
  set_option maxRecDepth 20000 in
  go_ret2
  exact ⟨rfl, rfl⟩
/-! ### Decode -/
theorem pages_nil (w : World) : Calls Tryd.prog 33 #[.pointer none] w fun e w' => e = Ending.returned (.int .i64 0) ∧ w' = w := by
  set_option maxRecDepth 20000 in
  go_enter Tryd.func33, Tryd.ntmps33
  set_option maxRecDepth 20000 in
  go_wp2
  set_option maxRecDepth 20000 in
  go_ret
  exact ⟨rfl, rfl⟩
theorem pages_plain {w : World} {c : Nat} (h : w.cell? ⟨c, 0, none⟩ = some (.slice none 0 0)) : Calls Tryd.prog 33 #[.pointer (some ⟨c, 0, none⟩)] w fun e w' => e = Ending.returned (.int .i64 0) ∧ w' = w := by
  set_option maxRecDepth 20000 in
  go_enter Tryd.func33, Tryd.ntmps33
  set_option maxRecDepth 20000 in
  go_wp2
  set_option maxRecDepth 20000 in
  go_ret
  exact ⟨rfl, rfl⟩
theorem refuse_is (w : World) : Calls Tryd.prog 40 #[(.string ⟨#[116, 104, 101, 114, 101, 32, 105, 115, 32, 110, 111, 32, 99, 97, 114, 100]⟩), .int .i64 1] w fun e w' => e = Ending.returned (.iface 148 (.pointer (some ⟨w.heap.size, 0, none⟩))) ∧ w' = w.alloc (.cells #[(.string ⟨#[116, 104, 101, 114, 101, 32, 105, 115, 32, 110, 111, 32, 99, 97, 114, 100]⟩), .iface 65 (.int .i64 1)] 150) := by
  set_option maxRecDepth 20000 in
  go_enter Tryd.func40, Tryd.ntmps40
  set_option maxRecDepth 20000 in
  go_wp2
  set_option maxRecDepth 20000 in
  go_ret
  exact ⟨rfl, rfl⟩
theorem check_none {w : World} {p l : Value} (K : Calls Tryd.prog 33 #[p] w fun e w' => e = Ending.returned (.int .i64 0) ∧ w' = w) : Calls Tryd.prog 36 #[p, l] w fun e w' => e = Ending.returned (.iface 148 (.pointer (some ⟨w.heap.size, 0, none⟩))) ∧ w' = w.alloc (.cells #[(.string ⟨#[116, 104, 101, 114, 101, 32, 105, 115, 32, 110, 111, 32, 99, 97, 114, 100]⟩), .iface 65 (.int .i64 1)] 150) := by
  replace K := hide K
  have K2 := hide (refuse_is w)
  set_option maxRecDepth 20000 in
  go_enter Tryd.func36, Tryd.ntmps36
  set_option maxRecDepth 20000 in
  go_wp2_with (first
    | (go_at_call 33; refine K.out.mono ?_; rintro e w' ⟨rfl, hw⟩; subst w')
    | (go_at_call 40; refine K2.out.mono ?_; rintro e w' ⟨rfl, hw⟩; subst w'))
  set_option maxRecDepth 20000 in
  go_ret
  exact ⟨rfl, rfl⟩
theorem read_none {w : World} {p l : Value} (K : Calls Tryd.prog 33 #[p] w fun e w' => e = Ending.returned (.int .i64 0) ∧ w' = w) : Calls Tryd.prog 15 #[p, l] w fun e w' => e = Ending.returned (.tuple #[.pointer none, .iface 148 (.pointer (some ⟨w.heap.size, 0, none⟩))]) ∧ w' = w.alloc (.cells #[(.string ⟨#[116, 104, 101, 114, 101, 32, 105, 115, 32, 110, 111, 32, 99, 97, 114, 100]⟩), .iface 65 (.int .i64 1)] 150) := by
  have K2 := hide (check_none (l := l) K)
  clear K
  set_option maxRecDepth 20000 in
  go_enter Tryd.func15, Tryd.ntmps15
  set_option maxRecDepth 20000 in
  go_wp2_with (first
    | (go_at_call 36; refine K2.out.mono ?_; rintro e w' ⟨rfl, hw⟩; subst w'))
  set_option maxRecDepth 20000 in
  go_ret2
  exact ⟨rfl, rfl⟩
theorem isTypeOf (v : Value) (w : World) : (Extern.ReflectliteType.typeOf #[.iface 65 v]).run Tryd.prog w = .ok (.iface 153 (.agg #[.pointer (some ⟨1, 65, none⟩)])) w := by kernel_rfl
theorem isComparable (w : World) : ((Extern.ReflectliteType.method fun t => do Rtype.noPackHeld "Comparable" t; (fun a => Value.bool a.comparable) <$> typeInfo t) #[.agg #[.pointer (some ⟨1, 65, none⟩)]]).run Tryd.prog w = .ok (.bool true) w := by kernel_rfl
theorem isMethodComparable (v : Value) (w : World) : (Go.method 312 153 v "Comparable").run Tryd.prog w = .ok (94, v) w := by kernel_rfl
theorem methodUnwrap (v : Value) (w : World) : (Go.method 312 148 v "Unwrap").run Tryd.prog w = .ok (90, v) w := by kernel_rfl
theorem unwrap_of (b : Nat) (c : Int) (w : World) (he : w.cell? ⟨b, 1, none⟩ = some (.iface 65 (.int .i64 c))) :
    Calls Tryd.prog 90 #[.pointer (some ⟨b, 0, none⟩)] w fun ev w' => ev = .returned (.iface 65 (.int .i64 c)) ∧ w' = w := by
  set_option maxRecDepth 20000 in
  go_enter Tryd.func90, Tryd.ntmps90
  set_option maxRecDepth 20000 in
  go_wp2
  set_option maxRecDepth 20000 in
  go_ret
  exact ⟨rfl, rfl⟩
theorem one_eql (w : World) : (binOp .eql 91 (.iface 65 (.int .i64 1)) (.iface 65 (.int .i64 1))).run Tryd.prog w = .ok (.bool true) w := by kernel_rfl
/-- errors.Is of such a fault, and the number that it wraps. -/
theorem is_errno (b : Nat) (w : World) (he : w.cell? ⟨b, 1, none⟩ = some (.iface 65 (.int .i64 1))) :
    Calls Tryd.prog 16 #[.iface 148 (.pointer (some ⟨b, 0, none⟩)), .iface 65 (.int .i64 1)] w fun e w' => e = Ending.returned (.bool true) ∧ w' = w := by
  have h8 := @run_callFunc_extern Tryd.prog 43 _ Extern.ReflectliteType.typeOf Tryd.func43 (by kernel_rfl) (by kernel_rfl) (by kernel_rfl) (by kernel_rfl)
  have h32 := @run_callFunc_extern Tryd.prog 94 _ (Extern.ReflectliteType.method fun t => do Rtype.noPackHeld "Comparable" t; pure (.bool (← typeInfo t).comparable)) Tryd.func94 (by kernel_rfl) (by kernel_rfl) (by kernel_rfl) (by kernel_rfl)
  have tT := isTypeOf
  have cT := isComparable
  have mR := isMethodComparable
  have z1 := @run_typeAssert_lacksB Tryd.prog 148 155 .nilIface _ Tryd.underlying155 (by kernel_rfl) (by kernel_rfl)
  have z2 := @run_typeAssert_hasB Tryd.prog 148 158 _ Tryd.underlying158 (by kernel_rfl)
  have mU := methodUnwrap
  have hty := fun w => run_eql_iface_types (P := Tryd.prog) 148 65 (.pointer (some ⟨b, 0, none⟩)) (.int .i64 1) Tryd.underlying91 (by decide) w
  have heq := fun w => one_eql w
  have cu := hide (unwrap_of b 1 w he)
  set_option maxRecDepth 20000 in
  go_enter Tryd.func16, Tryd.ntmps16
  set_option maxRecDepth 20000 in
  go_wp2
  refine wp_loop_rounds 2 ?_
  set_option maxRecDepth 20000 in
  rw [rounds_succ]
  set_option maxRecDepth 20000 in
  go_wp2_with (first | (go_at_call 90; refine cu.out.mono ?_; rintro e w' ⟨rfl, hw⟩; subst w'))
  set_option maxRecDepth 20000 in
  rw [rounds_succ]
  set_option maxRecDepth 20000 in
  go_wp2
  set_option maxRecDepth 20000 in
  go_ret
  exact ⟨rfl, rfl⟩
set_option maxRecDepth 20000 in
theorem decode_none {w : World} {p l : Value} (K : Calls Tryd.prog 33 #[p] w fun e w' => e = Ending.returned (.int .i64 0) ∧ w' = w) : Calls Tryd.prog 5 #[p, l] w fun e w' => e = Ending.returned (.tuple #[.pointer none, .int .i64 1]) ∧ w' = w.alloc (.cells #[(.string ⟨#[116, 104, 101, 114, 101, 32, 105, 115, 32, 110, 111, 32, 99, 97, 114, 100]⟩), .iface 65 (.int .i64 1)] 150) := by
  have K2 := hide (read_none (l := l) K)
  have hi : ∀ w, (Instr.index 94 (.agg #[.int .i64 1, .int .i64 20, .int .i64 3, .int .i64 21, .int .i64 22]) (.int .i64 0)).run Tryd.prog w = .ok (.int .i64 1) w := fun w => rfl
  have K3 := hide (is_errno w.heap.size (w.alloc (.cells #[(.string ⟨#[116, 104, 101, 114, 101, 32, 105, 115, 32, 110, 111, 32, 99, 97, 114, 100]⟩), .iface 65 (.int .i64 1)] 150)) (cell_of_row _ _ 1 _ _ _ (heap_alloc_new _ _)))
  clear K
  set_option maxRecDepth 20000 in
  go_enter Tryd.func5, Tryd.ntmps5
  set_option maxRecDepth 20000 in
  go_wp2_with (first
    | (go_at_call 15; refine K2.out.mono ?_; rintro e w' ⟨rfl, hw⟩; subst w'))
  refine wp_loop_rounds 1 ?_
  set_option maxRecDepth 20000 in
  rw [rounds_succ]
  set_option maxRecDepth 20000 in
  go_wp2_with (first
    | (go_at_call 16; refine K3.out.mono ?_; rintro e w' ⟨rfl, hw⟩; subst w'))
  set_option maxRecDepth 20000 in
  go_ret2
  exact ⟨rfl, rfl⟩
end Go.Proofs.YtbkecffdejafcaaDoor
