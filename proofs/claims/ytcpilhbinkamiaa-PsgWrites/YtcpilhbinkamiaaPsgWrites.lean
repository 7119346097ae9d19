/- For every sound and every two numbers the law PsgWrites of layer 22 returns true: any sound is the document's behind any write, and may be, or not. No condition. -/
import Derived.Test.YtcpilhbinkamiaaRC22
import Derived.Test.YtcpilhbinkamiaaOpen22
import Derived.Test.YtcpilhbinkamiaaFacts
import Derived.OpenShut
import Derived.ShutString
import Derived.ChangeOld
import Derived.Below
namespace Go.Proofs.Ytcpilhbinkamiaa
open Go.ChangeShapes Go.WideShapes Go.ChangeAt Go.RowKit
open Go.ChangeMaps (open_string shut_string)
set_option linter.unusedVariables false
theorem own : ownKnob Try.prog.godebug = none := by kernel_rfl

theorem wpList_load_want {P : Program} {ops : Array Oper} {rest : List Oper} {o : Oper} {a : Act} {w : World} {Q : Exit → Act → World → Prop} (hw : Region.wanted o (yielded ops a.tmps) = true) (ty : TypeId) (x : Operand) (ho : o.op = .load ty x)
    (g : Nat) (hx : a.eval x = .pointer (some ⟨g, 0, none⟩)) (t : TypeId) (cs : Array Value) (fr : Nat × Nat) (d : TypeDesc) (hg : w.heap[g]? = some (.cells cs t fr))
    (hu : P.underlying ty = some d) (hd : (match d with | .struct _ | .array _ _ => true | _ => false) = true) (hi : (P.info? ty).map (·.size) = some cs.size)
    (h : wpList P ops Q rest (a.put o.dst (.agg cs)) w) : wpList P ops Q (o :: rest) a w :=
  BigFrame.wpList_want hw fun _ hK => wp_load_row ty x ho g hx t cs fr d hg hu hd hi (hK _ _ h)
/-- The document's Write, whatever is written. -/
theorem rwrite_any (f : Nat → Int) (at_ b : Int) (ok : okP f) (w : World) : Calls Try.prog 7 #[.agg (rowF (iv f) 244), .int .i64 at_, .int .i64 b] w fun e w' => e = Ending.returned (.agg (rowF (iv (wrF f at_ b)) 244)) ∧ Below w.heap.size w w' := by
  have KV := hide (fun w => rvalid_any f w)
  rw [(vB_iff f).1 ok] at KV
  have h0 := ok.1
  by_cases a0 : at_ = 0
  · subst a0; exact rwrite_0 f b w KV
  by_cases a1 : at_ = 1
  · subst a1; exact rwrite_1 f b w KV
  by_cases a8 : at_ = 8
  · subst a8; exact rwrite_8 f b w KV
  by_cases a9 : at_ = 9
  · subst a9; exact rwrite_9 f b w KV
  by_cases hs : f 0 < 6
  · have e : wrF f at_ b = chW f (f 0).toNat at_ (b % 256) := by unfold wrF; rw [if_neg a0, if_neg a1, if_neg a8, if_neg a9, if_pos hs]
    by_cases hn : at_ < 2 ∨ 7 < at_
    · exact rwrite_none f b w KV at_ a0 a1 a8 a9 (.inr hn) (by rw [e, chW_none f _ at_ _ hn])
    · rw [e]
      obtain ⟨k, hk⟩ : ∃ k : Nat, f 0 = (k : Int) := ⟨(f 0).toNat, by omega⟩
      rw [show (f 0).toNat = k by omega]
      have hk6 : k < 6 := by omega
      have KB := hide (fun w => rbyte_any b w)
      have oc := okP_at ok hk6
      have b0 : 0 ≤ b % 256 := by omega
      have b1 : b % 256 ≤ 255 := by omega
      rcases (show at_ = 2 ∨ at_ = 3 ∨ at_ = 4 ∨ at_ = 5 ∨ at_ = 6 ∨ at_ = 7 by omega) with rfl | rfl | rfl | rfl | rfl | rfl
      · exact rch_2 f b _ w KV KB b0 b1 k hk hk6 oc
      · exact rch_3 f b _ w KV KB b0 b1 k hk hk6 oc
      · by_cases h : b % 256 / 64 = 1
        · exact rch_4z f b _ w KV KB b0 b1 k hk hk6 oc h
        · exact rch_4 f b _ w KV KB b0 b1 k hk hk6 oc h
      · exact rch_5 f b _ w KV KB b0 b1 k hk hk6 oc
      · by_cases h : ch f k 1 / 64 % 2 = 1
        · exact rch_6d f b _ w KV KB b0 b1 k hk hk6 oc h
        · exact rch_6 f b _ w KV KB b0 b1 k hk hk6 oc h
      · by_cases h : 4 ≤ k
        · exact rch_7 f b _ w KV KB b0 b1 k hk hk6 oc h
        · exact rch_7n f b _ w KV KB b0 b1 k hk hk6 oc h
  · exact rwrite_none f b w KV at_ a0 a1 a8 a9 (.inl (by omega)) (by unfold wrF; rw [if_neg a0, if_neg a1, if_neg a8, if_neg a9, if_neg hs])
def pwR (g7 : Nat) (at_ b : Int) (q : Bool) (R RW RF : Array Value) : Nat → Value → World → Prop
  | 0, v, _ => v = .agg R
  | 1, v, _ => v = .int .i64 at_
  | 2, v, _ => v = .int .i64 b
  | 3, v, _ => v = .agg RW
  | 4, v, _ => v = .agg RW
  | 5, v, _ => v = .agg R
  | 6, v, _ => v = .agg R
  | 7, v, _ => v = .int .i64 at_
  | 8, v, _ => v = .int .i64 b
  | 9, v, _ => v = .agg RW
  | 10, v, _ => v = .bool true
  | 11, v, _ => v = .bool true
  | 12, v, _ => v = .agg R
  | 13, v, _ => v = .bool q
  | 14, v, _ => v = .agg R
  | 15, v, _ => v = .agg R
  | 16, v, _ => v = .bool q
  | 17, v, _ => v = .bool true
  | 18, v, _ => v = .bool true
  | 19, v, _ => v = .bool true
  | 20, v, _ => v = .agg RF
  | 21, v, _ => v = .bool true
  | 22, v, _ => v = .bool true
  | 23, v, _ => v = .bool true
  | 24, v, _ => v = .pointer (some ⟨g7, 4, none⟩)
  | 25, v, _ => v = .pointer (some ⟨g7, 204, none⟩)
  | 26, v, _ => v = .pointer (some ⟨g7, 242, none⟩)
  | 27, v, _ => v = .int .i64 1
  | 28, v, _ => v = .bool true
  | 29, v, _ => v = .bool true
  | _, _, _ => True
theorem pwR_next {g7 : Nat} {at_ b : Int} {q : Bool} {R RW RF : Array Value} : ∀ i v w w', pwR g7 at_ b q R RW RF i v w → Below w.heap.size w w' → pwR g7 at_ b q R RW RF i v w' := by
  intro i v w w' h k
  match i, h with
  | 0, h => exact h
  | 1, h => exact h
  | 2, h => exact h
  | 3, h => exact h
  | 4, h => exact h
  | 5, h => exact h
  | 6, h => exact h
  | 7, h => exact h
  | 8, h => exact h
  | 9, h => exact h
  | 10, h => exact h
  | 11, h => exact h
  | 12, h => exact h
  | 13, h => exact h
  | 14, h => exact h
  | 15, h => exact h
  | 16, h => exact h
  | 17, h => exact h
  | 18, h => exact h
  | 19, h => exact h
  | 20, h => exact h
  | 21, h => exact h
  | 22, h => exact h
  | 23, h => exact h
  | 24, h => exact h
  | 25, h => exact h
  | 26, h => exact h
  | 27, h => exact h
  | 28, h => exact h
  | 29, h => exact h
  | _ + 30, h => trivial
set_option maxHeartbeats 8000000 in
theorem writes_go (at_ b : Int) (q : Bool) (R RW RF : Array Value) (w : World) (KN : Hid (∀ u : World, Calls Try.prog 4 #[] u fun e w' => e = Ending.returned (.agg RF) ∧ Below u.heap.size u w')) (KW : Hid (∀ u : World, Calls Try.prog 6 #[.agg R, .int .i64 at_, .int .i64 b] u fun e w' => e = Ending.returned (.agg RW) ∧ Below u.heap.size u w')) (KO : Hid (∀ u : World, Calls Try.prog 5 #[.agg RW] u fun e w' => e = Ending.returned (.agg RW) ∧ Below u.heap.size u w')) (KP : Hid (∀ u : World, Calls Try.prog 5 #[.agg R] u fun e w' => e = Ending.returned (.agg R) ∧ Below u.heap.size u w')) (KR : Hid (∀ u : World, Calls Try.prog 7 #[.agg R, .int .i64 at_, .int .i64 b] u fun e w' => e = Ending.returned (.agg RW) ∧ Below u.heap.size u w')) (KV : Hid (∀ u : World, Calls Try.prog 8 #[.agg R] u fun e w' => e = Ending.returned (.bool q) ∧ Below u.heap.size u w')) (KU : Hid (∀ u : World, Calls Try.prog 9 #[.agg R] u fun e w' => e = Ending.returned (.bool q) ∧ Below u.heap.size u w')) (KF : Hid (∀ u : World, Calls Try.prog 8 #[.agg RF] u fun e w' => e = Ending.returned (.bool true) ∧ Below u.heap.size u w'))
    (EE : ∀ w : World, (binOp .eql 32 (.agg RW) (.agg RW)).run Try.prog w = .ok (.bool true) w) (ZI : Hid ((Try.prog.info? 27).map (·.size) = some R.size)) (FI : Hid ((Try.prog.info? 27).map (·.size) = some RF.size)) (FO : Hid (RF.all (·.oneCell') = true)) (FS : Hid ((rowF (iv fun _ => 0) 244).size = RF.size)) (F1 : Hid (RF[242]? = some (.int .i64 1))) : Calls Try.prog 3 #[.agg R, .int .i64 at_, .int .i64 b] w fun e w' => e = .returned (.bool true) ∧ Below w.heap.size w w' := by
  have P0 : Hid ((w.alloc (.cells R 27)).heap[w.heap.size]? = some (.cells R 27 (0, 0))) := hide (heap_alloc_new _ _)
  have B0 : Hid (Below w.heap.size w (w.alloc (.cells R 27))) := hide ((Below.refl _ w).alloc (Nat.le_refl _) _)
  set_option maxRecDepth 20000 in
  go_enter Try.func3, Try.ntmps3
  set_option maxRecDepth 20000 in
  go_wp2_with (first
    | (go_at_call 4; refine (KN.out _).mono ?_; rintro e w1 ⟨rfl, c1⟩; have P1 := hide ((c1.block _ (lt_of_block P0.out)).trans P0.out); have B1 := hide (bnext B0.out c1); clear c1 P0 B0)
    | (refine wpList_alloced rfl 27 rfl (rowF (iv fun _ => 0) 244) zero_P ?_)
    | (refine wpList_store_row rfl 27 (.tmp 7) (.tmp 8) rfl w1.heap.size RF (by simp [Act.eval, Act.put]) rfl 27 _ (hasF_new _ _ _ _) FI.out FS.out FO.out ?_; refine under_list fun w4 hh => ?_; have M4 : Hid (w4.heap[w1.heap.size]? = some (.cells RF 27 (0, 0))) := hide (by rw [hh]; exact setRow_heap _ _ _ _ _ _ (hasF_new _ _ _ _)); have W4 : Below w1.heap.size w1 w4 := (by rw [hh]; exact below_setRow ((Below.refl _ _).alloc (Nat.le_refl _) _) (Nat.le_refl _) _); have P4 := hide ((W4.block _ (lt_of_block P1.out)).trans P1.out); have B4 := hide (bnext B1.out W4); clear hh W4 P1 B1))
  generalize w1.heap.size = g7 at *
  have CR : Hid (∀ u, Below w4.heap.size w4 u → u.cell? ⟨g7, 242, none⟩ = some (.int .i64 1)) := hide (fun u hb => (cell_of_row u g7 242 _ _ _ ((hb.block _ (lt_of_block M4.out)).trans M4.out)).trans F1.out)
  refine wp_region_facts_last [_, _, _, _, _, _, _, _, _, _, _, _, _, _, _, _, _, _, _, _, _, _, _, _, _, _, _, _, _, _] _ rfl (pwR g7 at_ b q R RW RF) _ (fun vals => by simp only [putAll, Act.put, List.setIfInBounds_toArray, List.set_cons_succ, List.set_cons_zero, Nat.reduceAdd]; rfl) (by kernel_rfl) (by kernel_rfl) (by kernel_rfl) (by kernel_rfl) pwR_next ?_ ?_
  · refine (steps_cons (fun vals u hb hf => ?_) (steps_cons (fun vals u hb hf => ?_) (steps_cons (fun vals u hb hf => ?_) (steps_cons (fun vals u hb hf => ?_) (steps_cons (fun vals u hb hf => ?_) (steps_cons (fun vals u hb hf => ?_) (steps_cons (fun vals u hb hf => ?_) (steps_cons (fun vals u hb hf => ?_) (steps_cons (fun vals u hb hf => ?_) (steps_cons (fun vals u hb hf => ?_) (steps_cons (fun vals u hb hf => ?_) (steps_cons (fun vals u hb hf => ?_) (steps_cons (fun vals u hb hf => ?_) (steps_cons (fun vals u hb hf => ?_) (steps_cons (fun vals u hb hf => ?_) (steps_cons (fun vals u hb hf => ?_) (steps_cons (fun vals u hb hf => ?_) (steps_cons (fun vals u hb hf => ?_) (steps_cons (fun vals u hb hf => ?_) (steps_cons (fun vals u hb hf => ?_) (steps_cons (fun vals u hb hf => ?_) (steps_cons (fun vals u hb hf => ?_) (steps_cons (fun vals u hb hf => ?_) (steps_cons (fun vals u hb hf => ?_) (steps_cons (fun vals u hb hf => ?_) (steps_cons (fun vals u hb hf => ?_) (steps_cons (fun vals u hb hf => ?_) (steps_cons (fun vals u hb hf => ?_) (steps_cons (fun vals u hb hf => ?_) (steps_cons (fun vals u hb hf => ?_) steps_nil))))))))))))))))))))))))))))))
    · go_wp2_with (first | (refine wpList_load_row rfl 27 (.tmp 3) rfl w.heap.size rfl _ _ _ _ ((hb.block _ (lt_of_block P4.out)).trans P4.out) Try.underlying27 rfl ZI.out ?_))
      exact stepPost_mk _ rfl rfl (Below.refl _ _)
    · go_wp2_with fail
      exact stepPost_mk _ rfl rfl (Below.refl _ _)
    · go_wp2_with fail
      exact stepPost_mk _ rfl rfl (Below.refl _ _)
    · obtain ⟨(h0 : vals 0 = .agg R), (h1 : vals 1 = .int .i64 at_), (h2 : vals 2 = .int .i64 b), _⟩ := hf
      simp only [h0, h1, h2]
      clear h0 h1 h2
      go_wp2_with (go_at_call 6; refine (KW.out _).mono ?_; rintro e u2 ⟨rfl, b2⟩)
      exact stepPost_mk _ rfl rfl b2
    · obtain ⟨(h3 : vals 3 = .agg RW), _⟩ := hf
      simp only [h3]
      clear h3
      go_wp2_with (go_at_call 5; refine (KO.out _).mono ?_; rintro e u2 ⟨rfl, b2⟩)
      exact stepPost_mk _ rfl rfl b2
    · go_wp2_with (first | (refine wpList_load_row rfl 27 (.tmp 3) rfl w.heap.size rfl _ _ _ _ ((hb.block _ (lt_of_block P4.out)).trans P4.out) Try.underlying27 rfl ZI.out ?_))
      exact stepPost_mk _ rfl rfl (Below.refl _ _)
    · obtain ⟨(h5 : vals 5 = .agg R), (h4 : vals 4 = .agg RW), _⟩ := hf
      simp only [h4, h5]
      clear h5 h4
      go_wp2_with (go_at_call 5; refine (KP.out _).mono ?_; rintro e u2 ⟨rfl, b2⟩)
      exact stepPost_mk _ rfl rfl b2
    · go_wp2_with fail
      exact stepPost_mk _ rfl rfl (Below.refl _ _)
    · go_wp2_with fail
      exact stepPost_mk _ rfl rfl (Below.refl _ _)
    · obtain ⟨(h6 : vals 6 = .agg R), (h7 : vals 7 = .int .i64 at_), (h8 : vals 8 = .int .i64 b), _⟩ := hf
      simp only [h6, h7, h8]
      clear h6 h7 h8
      go_wp2_with (go_at_call 7; refine (KR.out _).mono ?_; rintro e u2 ⟨rfl, b2⟩)
      exact stepPost_mk _ rfl rfl b2
    · obtain ⟨(h4 : vals 4 = .agg RW), (h9 : vals 9 = .agg RW), _⟩ := hf
      simp only [h4, h9]
      clear h4 h9
      go_wp2_with fail
      exact stepPost_mk _ rfl rfl (Below.refl _ _)
    · obtain ⟨(h10 : vals 10 = .bool true), (h9 : vals 9 = .agg RW), _⟩ := hf
      simp only [h9, h10]
      clear h10 h9
      go_wp2_with fail
      exact stepPost_mk _ rfl rfl (Below.refl _ _)
    · obtain ⟨(h11 : vals 11 = .bool true), _⟩ := hf
      simp only [h11]
      clear h11
      go_wp2_with (first | (refine wpList_load_want rfl 27 (.tmp 3) rfl w.heap.size rfl _ _ _ _ ((hb.block _ (lt_of_block P4.out)).trans P4.out) Try.underlying27 rfl ZI.out ?_))
      exact stepPost_mk _ rfl rfl (Below.refl _ _)
    · obtain ⟨(h12 : vals 12 = .agg R), (h11 : vals 11 = .bool true), _⟩ := hf
      simp only [h11, h12]
      clear h12 h11
      go_wp2_with (go_at_call 8; refine (KV.out _).mono ?_; rintro e u2 ⟨rfl, b2⟩)
      exact stepPost_mk _ rfl rfl b2
    · obtain ⟨(h11 : vals 11 = .bool true), _⟩ := hf
      simp only [h11]
      clear h11
      go_wp2_with (first | (refine wpList_load_want rfl 27 (.tmp 3) rfl w.heap.size rfl _ _ _ _ ((hb.block _ (lt_of_block P4.out)).trans P4.out) Try.underlying27 rfl ZI.out ?_))
      exact stepPost_mk _ rfl rfl (Below.refl _ _)
    · obtain ⟨(h14 : vals 14 = .agg R), (h13 : vals 13 = .bool q), (h11 : vals 11 = .bool true), _⟩ := hf
      simp only [h11, h13, h14]
      clear h14 h13 h11
      go_wp2_with (go_at_call 5; refine (KP.out _).mono ?_; rintro e u2 ⟨rfl, b2⟩)
      exact stepPost_mk _ rfl rfl b2
    · obtain ⟨(h15 : vals 15 = .agg R), (k15 : vals 15 = .agg R), (h11 : vals 11 = .bool true), _⟩ := hf
      simp only [h11, h15]
      clear h15 k15 h11
      go_wp2_with (go_at_call 9; refine (KU.out _).mono ?_; rintro e u2 ⟨rfl, b2⟩)
      exact stepPost_mk _ rfl rfl b2
    · obtain ⟨(h13 : vals 13 = .bool q), (h16 : vals 16 = .bool q), (h11 : vals 11 = .bool true), _⟩ := hf
      simp only [h11, h13, h16]
      clear h13 h16 h11
      have qq : (q == q) = true := by simp
      go_wp2_with fail
      exact stepPost_mk _ rfl rfl (Below.refl _ _)
    · obtain ⟨(h11 : vals 11 = .bool true), (h17 : vals 17 = .bool true), _⟩ := hf
      simp only [h11, h17]
      clear h11 h17
      go_wp2_with fail
      exact stepPost_mk _ rfl rfl (Below.refl _ _)
    · obtain ⟨(h18 : vals 18 = .bool true), (h16 : vals 16 = .bool q), _⟩ := hf
      simp only [h16, h18]
      clear h18 h16
      go_wp2_with fail
      exact stepPost_mk _ rfl rfl (Below.refl _ _)
    · obtain ⟨(h19 : vals 19 = .bool true), _⟩ := hf
      simp only [h19]
      clear h19
      go_wp2_with (first | (refine wpList_load_want rfl 27 (.tmp 7) rfl g7 rfl _ _ _ _ ((hb.block _ (lt_of_block M4.out)).trans M4.out) Try.underlying27 rfl FI.out ?_))
      exact stepPost_mk _ rfl rfl (Below.refl _ _)
    · obtain ⟨(h20 : vals 20 = .agg RF), (h19 : vals 19 = .bool true), _⟩ := hf
      simp only [h19, h20]
      clear h20 h19
      go_wp2_with (go_at_call 8; refine (KF.out _).mono ?_; rintro e u2 ⟨rfl, b2⟩)
      exact stepPost_mk _ rfl rfl b2
    · obtain ⟨(h19 : vals 19 = .bool true), (h21 : vals 21 = .bool true), _⟩ := hf
      simp only [h19, h21]
      clear h19 h21
      go_wp2_with fail
      exact stepPost_mk _ rfl rfl (Below.refl _ _)
    · obtain ⟨(h22 : vals 22 = .bool true), (h21 : vals 21 = .bool true), _⟩ := hf
      simp only [h21, h22]
      clear h22 h21
      go_wp2_with fail
      exact stepPost_mk _ rfl rfl (Below.refl _ _)
    · obtain ⟨(h23 : vals 23 = .bool true), _⟩ := hf
      simp only [h23]
      clear h23
      go_wp2_with fail
      exact stepPost_mk _ rfl rfl (Below.refl _ _)
    · obtain ⟨(h24 : vals 24 = .pointer (some ⟨g7, 4, none⟩)), (h23 : vals 23 = .bool true), _⟩ := hf
      simp only [h23, h24]
      clear h24 h23
      go_wp2_with fail
      exact stepPost_mk _ rfl rfl (Below.refl _ _)
    · obtain ⟨(h25 : vals 25 = .pointer (some ⟨g7, 204, none⟩)), (h23 : vals 23 = .bool true), _⟩ := hf
      simp only [h23, h25]
      clear h25 h23
      go_wp2_with fail
      exact stepPost_mk _ rfl rfl (Below.refl _ _)
    · obtain ⟨(h26 : vals 26 = .pointer (some ⟨g7, 242, none⟩)), (h23 : vals 23 = .bool true), _⟩ := hf
      simp only [h23, h26]
      clear h26 h23
      have c1 := CR.out u hb
      go_wp2_with fail
      exact stepPost_mk _ rfl rfl (Below.refl _ _)
    · obtain ⟨(h27 : vals 27 = .int .i64 1), (h23 : vals 23 = .bool true), _⟩ := hf
      simp only [h23, h27]
      clear h27 h23
      go_wp2_with fail
      exact stepPost_mk _ rfl rfl (Below.refl _ _)
    · obtain ⟨(h23 : vals 23 = .bool true), (h28 : vals 28 = .bool true), _⟩ := hf
      simp only [h23, h28]
      clear h23 h28
      go_wp2_with fail
      exact stepPost_mk _ rfl rfl (Below.refl _ _)
  intro vals u hb hf
  obtain ⟨_, _, _, _, _, _, _, _, _, _, _, _, _, _, _, _, _, _, _, _, _, _, _, _, _, _, _, _, _, (h29 : vals 29 = .bool true), _⟩ := hf
  simp only [h29]
  clear h29
  set_option maxRecDepth 20000 in
  go_wp2_with fail
  go_ret
  exact ⟨rfl, bnext B4.out hb⟩
theorem psgWrites_walk (f : Nat → Int) (at_ b : Int) (hf : ∀ j, j < 244 → (Lit.int .i64 (f j)).wf = true) (w1 : (Lit.int .i64 at_).wf = true) (w2 : (Lit.int .i64 b).wf = true) (w : World) : Calls Try.prog 3 #[.agg (rowF (iv f) 244), .int .i64 at_, .int .i64 b] w fun e w' => e = .returned (.bool true) ∧ Below w.heap.size w w' := by
  have KF : ∀ u : World, Calls Try.prog 8 #[.agg (rowF (iv freshF) 244)] u fun e w' => e = Ending.returned (.bool true) ∧ Below u.heap.size u w' := fun u => by
    have k := valid_any freshF u
    rw [(vB_iff _).1 fresh_ok] at k
    exact k
  have F1 : (rowF (iv freshF) 244)[242]? = some (.int .i64 1) := by
    rw [rowF_at _ _ _ (by decide)]
    rfl
  by_cases ok : okP f
  · exact writes_go at_ b (vB f) _ _ _ w (hide fun u => fresh_any u) (hide fun u => write_any f at_ b ok u) (hide fun u => own_any _ u) (hide fun u => own_any f u) (hide fun u => rwrite_any f at_ b ok u) (hide fun u => valid_any f u) (hide fun u => rvalid_any f u) (hide KF) (fun w => rpsg_eql _ w) (hide (info_P _)) (hide (info_P _)) (hide (rowF_one _ _)) (hide (by rw [rowF_size, rowF_size])) (hide F1)
  · have hv := vB_no ok
    exact writes_go at_ b (vB f) _ _ _ w (hide fun u => fresh_any u) (hide fun u => write_no f at_ b hv u) (hide fun u => own_any _ u) (hide fun u => own_any f u) (hide fun u => rwrite_no f at_ b hv u) (hide fun u => valid_any f u) (hide fun u => rvalid_any f u) (hide KF) (fun w => rpsg_eql _ w) (hide (info_P _)) (hide (info_P _)) (hide (rowF_one _ _)) (hide (by rw [rowF_size, rowF_size])) (hide F1)

set_option maxRecDepth 100000 in
theorem psgWrites_lifted (os : Os) (started : os.Started) (H : Type) (enc : TypeId × Value → H) :
    ReturnsInHanded {} Try.checked os 3 .any (Rows.psgWritesSpec.pre6 enc Try.prog Try.f3 Rows.psgWritesRow.domain false) (Rows.psgWritesSpec.post enc Try.prog Try.f3 false true false false) := by
  refine returnsInHanded_of_change (C := Try.checked) own started (by kernel_rfl) Try.func3
    (ChangeSpec.witness6 (enc := enc) (C := Try.checked) false ⟨#[], #[.agg #[.int .i64 0, .int .i64 0, .int .i64 0, .int .i64 0, .int .i64 0, .int .i64 0, .int .i64 0, .int .i64 0, .int .i64 0, .int .i64 0, .int .i64 0, .int .i64 0, .int .i64 0, .int .i64 0, .int .i64 0, .int .i64 0, .int .i64 0, .int .i64 0, .int .i64 0, .int .i64 0, .int .i64 0, .int .i64 0, .int .i64 0, .int .i64 0, .int .i64 0, .int .i64 0, .int .i64 0, .int .i64 0, .int .i64 0, .int .i64 0, .int .i64 0, .int .i64 0, .int .i64 0, .int .i64 0, .int .i64 0, .int .i64 0, .int .i64 0, .int .i64 0, .int .i64 0, .int .i64 0, .int .i64 0, .int .i64 0, .int .i64 0, .int .i64 0, .int .i64 0, .int .i64 0, .int .i64 0, .int .i64 0, .int .i64 0, .int .i64 0, .int .i64 0, .int .i64 0, .int .i64 0, .int .i64 0, .int .i64 0, .int .i64 0, .int .i64 0, .int .i64 0, .int .i64 0, .int .i64 0, .int .i64 0, .int .i64 0, .int .i64 0, .int .i64 0, .int .i64 0, .int .i64 0, .int .i64 0, .int .i64 0, .int .i64 0, .int .i64 0, .int .i64 0, .int .i64 0, .int .i64 0, .int .i64 0, .int .i64 0, .int .i64 0, .int .i64 0, .int .i64 0, .int .i64 0, .int .i64 0, .int .i64 0, .int .i64 0, .int .i64 0, .int .i64 0, .int .i64 0, .int .i64 0, .int .i64 0, .int .i64 0, .int .i64 0, .int .i64 0, .int .i64 0, .int .i64 0, .int .i64 0, .int .i64 0, .int .i64 0, .int .i64 0, .int .i64 0, .int .i64 0, .int .i64 0, .int .i64 0, .int .i64 0, .int .i64 0, .int .i64 0, .int .i64 0, .int .i64 0, .int .i64 0, .int .i64 0, .int .i64 0, .int .i64 0, .int .i64 0, .int .i64 0, .int .i64 0, .int .i64 0, .int .i64 0, .int .i64 0, .int .i64 0, .int .i64 0, .int .i64 0, .int .i64 0, .int .i64 0, .int .i64 0, .int .i64 0, .int .i64 0, .int .i64 0, .int .i64 0, .int .i64 0, .int .i64 0, .int .i64 0, .int .i64 0, .int .i64 0, .int .i64 0, .int .i64 0, .int .i64 0, .int .i64 0, .int .i64 0, .int .i64 0, .int .i64 0, .int .i64 0, .int .i64 0, .int .i64 0, .int .i64 0, .int .i64 0, .int .i64 0, .int .i64 0, .int .i64 0, .int .i64 0, .int .i64 0, .int .i64 0, .int .i64 0, .int .i64 0, .int .i64 0, .int .i64 0, .int .i64 0, .int .i64 0, .int .i64 0, .int .i64 0, .int .i64 0, .int .i64 0, .int .i64 0, .int .i64 0, .int .i64 0, .int .i64 0, .int .i64 0, .int .i64 0, .int .i64 0, .int .i64 0, .int .i64 0, .int .i64 0, .int .i64 0, .int .i64 0, .int .i64 0, .int .i64 0, .int .i64 0, .int .i64 0, .int .i64 0, .int .i64 0, .int .i64 0, .int .i64 0, .int .i64 0, .int .i64 0, .int .i64 0, .int .i64 0, .int .i64 0, .int .i64 0, .int .i64 0, .int .i64 0, .int .i64 0, .int .i64 0, .int .i64 0, .int .i64 0, .int .i64 0, .int .i64 0, .int .i64 0, .int .i64 0, .int .i64 0, .int .i64 0, .int .i64 0, .int .i64 0, .int .i64 0, .int .i64 0, .int .i64 0, .int .i64 0, .int .i64 0, .int .i64 0, .int .i64 0, .int .i64 0, .int .i64 0, .int .i64 0, .int .i64 0, .int .i64 0, .int .i64 0, .int .i64 0, .int .i64 0, .int .i64 0, .int .i64 0, .int .i64 0, .int .i64 0, .int .i64 0, .int .i64 0, .int .i64 0, .int .i64 0, .int .i64 0, .int .i64 0, .int .i64 0, .int .i64 0, .int .i64 0, .int .i64 0, .int .i64 0, .int .i64 0, .int .i64 0, .int .i64 0, .int .i64 0, .int .i64 0, .int .i64 0, .int .i64 0, .int .i64 0, .int .i64 0, .int .i64 0, .int .i64 0, .int .i64 0, .int .i64 0, .int .i64 0, .int .i64 0, .int .i64 0], .int .i64 0, .int .i64 0], []⟩ 8 (by kernel_rfl) (by kernel_rfl) (by kernel_rfl) (by kernel_rfl)) ?_
  intro W base args ds gs before hval0 hW hcnd _
  have hval : ∀ (j : Nat) t v, Try.f3.params[j]? = some t → args[j]? = some v → Value.okWide Try.prog W .any base t v := hval0
  have hW' := hW
  obtain ⟨p, q, hA0, hV, rfl, hfz, hnd⟩ := hW
  have hA : DataW.TrodAll enc Try.prog W 0 (fun _ => true) true Try.f3.params.toList args.toList ds p := hA0
  rw [Try.params3] at hA hval
  obtain ⟨v0, vs0, d0, ds0, p0, q0, hargs, rfl, rfl, h0, r0⟩ := trodAll_cons hA
  obtain ⟨v1, vs1, d1, ds1, p1, q1, rfl, rfl, rfl, h1, r1⟩ := trodAll_cons r0
  obtain ⟨v2, vs2, d2, ds2, p2, q2, rfl, rfl, rfl, h2, r2⟩ := trodAll_cons r1
  obtain ⟨rfl, rfl, rfl⟩ := trodAll_nil r2
  obtain rfl : args = #[v0, v1, v2] := by cases args; simp_all
  obtain ⟨rfl, rfl⟩ := trodVars_none hV
  have k0 := h0
  have lt0 : ∀ x ∈ p0, x.block < W.heap.size := by obtain ⟨m, hm⟩ := k0; exact DataW.trod_lt m _ _ _ hm
  obtain ⟨f0, rfl, g0⟩ := open_flat Try.underlying27 (by kernel_rfl) psg_ints (hval 0 27 v0 rfl rfl) h0
  obtain ⟨a1, rfl, rfl, rfl, w1⟩ := open_int Try.underlying3 (hval 1 3 v1 rfl rfl) h1
  obtain ⟨a2, rfl, rfl, rfl, w2⟩ := open_int Try.underlying3 (hval 2 3 v2 rfl rfl) h2
  clear hA0 hval0
  refine (psgWrites_walk f0 a1 a2 g0 w1 w2 W).mono fun e W' ⟨he, bel⟩ => ?_
  subst he
  exact ⟨_, rfl, _, _, _, [], _, [], hW', trodAll_mk1 (shut_bool Try.underlying4 _), (trodAll_cons_mk (Below.trod laidOut (by kernel_rfl) (of_decide_eq_true (by kernel_rfl)) k0 bel lt0) (trodAll_cons_mk (shut_int Try.underlying3 w1) (trodAll_cons_mk (shut_int Try.underlying3 w2) trodAll_mk0))), rfl, bel.frame _, fun h => by cases h⟩

theorem psgWrites_over : Rows.psgWritesRow.holds Try.pinned (OpenSpec.ofChange Rows.psgWritesSpec) :=
  OpenClaim.holds_of_wide 3 Try.f3 rfl rfl rfl rfl rfl rfl rfl ⟨rfl, rfl, rfl, rfl, rfl⟩ rfl rfl rfl rfl rfl (by kernel_rfl) Try.func3 (by kernel_rfl)
    (of_decide_eq_true (by kernel_rfl)) (by unfold Func.isWrapper; first | (rw [if_pos (by decide +kernel)]; kernel_rfl) | (rw [if_neg (by decide +kernel)]; exact ⟨rfl, rfl⟩))
    (fun os started H enc _ => psgWrites_lifted os started H enc)

theorem psgWrites_holds : Rows.PsgWritesSaid := psgWrites_over
#print axioms psgWrites_holds
end Go.Proofs.Ytcpilhbinkamiaa
