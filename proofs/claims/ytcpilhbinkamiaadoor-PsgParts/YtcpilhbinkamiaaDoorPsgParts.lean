/- For every sound and every two numbers the law PsgParts of layer 22 returns true, where the program's table of levels holds what its own initialiser lays: so many samples at once, or in two parts, are alike, none is beyond what six channels can be, and what may be stays so. -/
import Derived.Test.YtcpilhbinkamiaaDoorSamples22
import Derived.Test.YtcpilhbinkamiaaDoorOpen22
import Derived.Test.YtcpilhbinkamiaaDoorLevLaid
import Derived.Test.YtcpilhbinkamiaaDoorTie
import Derived.Test.YtcpilhbinkamiaaDoorCards
import Derived.SevenTiedAt
import Derived.OpenShut
import Derived.ShutString
import Derived.ChangeOld
import Derived.Below
namespace Go.Proofs.YtcpilhbinkamiaaDoor
open Go.ChangeShapes Go.WideShapes Go.ChangeAt Go.RowKit
open Go.ChangeMaps (open_string shut_string)
set_option linter.unusedVariables false
theorem own : ownKnob Tryd.prog.godebug = none := by kernel_rfl

theorem wpList_load_want {P : Program} {ops : Array Oper} {rest : List Oper} {o : Oper} {a : Act} {w : World} {Q : Exit → Act → World → Prop} (hw : Region.wanted o (yielded ops a.tmps) = true) (ty : TypeId) (x : Operand) (ho : o.op = .load ty x)
    (g : Nat) (hx : a.eval x = .pointer (some ⟨g, 0, none⟩)) (t : TypeId) (cs : Array Value) (fr : Nat × Nat) (d : TypeDesc) (hg : w.heap[g]? = some (.cells cs t fr))
    (hu : P.underlying ty = some d) (hd : (match d with | .struct _ | .array _ _ => true | _ => false) = true) (hi : (P.info? ty).map (·.size) = some cs.size)
    (h : wpList P ops Q rest (a.put o.dst (.agg cs)) w) : wpList P ops Q (o :: rest) a w :=
  BigFrame.wpList_want hw fun _ hK => wp_load_row ty x ho g hx t cs fr d hg hu hd hi (hK _ _ h)
theorem mask_63 (n : Int) : bits .and .i64 n 63 = n % 64 := and_mask 6 (by decide) n
theorem smp_add (f : Nat → Int) (A j r : Nat) (hr : r < 2) : smp f ((A + j) * 2 + r) = smp (itF f A) (j * 2 + r) := by
  unfold smp
  rw [show ((A + j) * 2 + r) / 2 = A + j by omega, show (j * 2 + r) / 2 = j by omega, show ((A + j) * 2 + r) % 2 = r by omega, show (j * 2 + r) % 2 = r by omega, show A + j + 1 = A + (j + 1) by omega, itF_add]
theorem smp_in {f : Nat → Int} (h : okP f) (j : Nat) : -98304 ≤ smp f j ∧ smp f j ≤ 98304 := by
  unfold smp
  split
  · exact leftOf_in (okP_it h _)
  · exact rightOf_in (okP_it h _)
set_option maxHeartbeats 4000000 in
theorem parts_no (f : Nat → Int) (a b : Int) (A B : Nat) (ha : bits .and .i64 a 63 = (A : Int) - 1) (hb : bits .and .i64 b 63 = (B : Int) - 1) (a1 : 1 ≤ A) (a2 : A ≤ 64) (b1 : 1 ≤ B) (b2 : B ≤ 64) (w : World) (HL : Hid (HasLevels w)) (hv : vB f = false) : Calls Tryd.prog 4 #[.agg (rowF (iv f) 244), .int .i64 a, .int .i64 b] w fun e w' => e = .returned (.bool true) ∧ Below w.heap.size w w' := by
  have KV := hide (fun w => valid_any f w)
  rw [hv] at KV
  have KN := hide (fun n w => samples_no f n (.inl hv) w)
  have P0 := hide (hasF_new 27 w 244 (iv f))
  have ZI := hide (info_P (iv f))
  have ZO := hide (rowF_one f 244)
  have ZS : Hid ((rowF (iv fun _ => 0) 244).size = (rowF (iv f) 244).size) := hide (by rw [rowF_size, rowF_size])
  have KF := hide (fun (u : World) (hu : HasLevels u) => samples_any freshF A a1 (by omega) fresh_ok u hu)
  have IF := hide (info_P (iv (itF freshF A)))
  have FO := hide (rowF_one (itF freshF A) 244)
  have FS : Hid ((rowF (iv fun _ => 0) 244).size = (rowF (iv (itF freshF A)) 244).size) := hide (by rw [rowF_size, rowF_size])
  have BA : Hid (Below w.heap.size w (w.alloc (.cells (rowF (iv f) 244) 27))) := hide ((Below.refl _ w).alloc (Nat.le_refl _) _)
  clear hv
  rw [HasF] at P0
  generalize rowF (iv f) 244 = R at *
  generalize rowF (iv (itF freshF A)) 244 = RF at *
  have e1 : 1 + ((A : Int) - 1) = A := by omega
  have e2 : 1 + ((B : Int) - 1) = B := by omega
  set_option maxRecDepth 20000 in
  go_enter Tryd.func4, Tryd.ntmps4
  set_option maxRecDepth 20000 in
  go_wp2_with (first
    | (refine wpList_load_row rfl 27 (.tmp 3) rfl w.heap.size rfl _ _ _ _ P0.out Tryd.underlying27 rfl ZI.out ?_))
  refine (KN.out _ _).mono ?_
  rintro e w1 ⟨rfl, c1⟩
  have P1 := hide ((c1.block _ (lt_of_block P0.out)).trans P0.out)
  have B1 := hide (bnext BA.out c1)
  clear c1 P0 BA
  set_option maxRecDepth 20000 in
  go_wp2_with (first
    | (refine wpList_alloced rfl 27 rfl (rowF (iv fun _ => 0) 244) zero_P ?_)
    | (refine wpList_store_row rfl 27 (.tmp 8) (.tmp 29) rfl w1.heap.size R (by simp [Act.eval]) rfl 27 _ (hasF_new _ _ _ _) ZI.out ZS.out ZO.out ?_; refine under_list fun w2 hh => ?_; have M2 : Hid (w2.heap[w1.heap.size]? = some (.cells R 27 (0, 0))) := hide (by rw [hh]; exact setRow_heap _ _ _ _ _ _ (hasF_new _ _ _ _)); have W2 : Below w1.heap.size w1 w2 := (by rw [hh]; exact below_setRow ((Below.refl _ _).alloc (Nat.le_refl _) _) (Nat.le_refl _) _); clear hh)
    | (refine wpList_load_row rfl 27 (.tmp 8) rfl w1.heap.size rfl _ _ _ _ M2.out Tryd.underlying27 rfl ZI.out ?_))
  have P2 := hide ((W2.block _ (lt_of_block P1.out)).trans P1.out)
  have B2 := hide (bnext B1.out W2)
  clear P1 B1 W2
  refine (KN.out _ _).mono ?_
  rintro e w3 ⟨rfl, c3⟩
  have P3 := hide ((c3.block _ (lt_of_block P2.out)).trans P2.out)
  have B3 := hide (bnext B2.out c3)
  clear c3 P2 B2 M2
  set_option maxRecDepth 20000 in
  go_wp2_with (first
    | (refine wpList_alloced rfl 27 rfl (rowF (iv fun _ => 0) 244) zero_P ?_)
    | (refine wpList_store_row rfl 27 (.tmp 10) (.tmp 35) rfl w3.heap.size R (by simp [Act.eval]) rfl 27 _ (hasF_new _ _ _ _) ZI.out ZS.out ZO.out ?_; refine under_list fun w4 hh => ?_; have M4 : Hid (w4.heap[w3.heap.size]? = some (.cells R 27 (0, 0))) := hide (by rw [hh]; exact setRow_heap _ _ _ _ _ _ (hasF_new _ _ _ _)); have W4 : Below w3.heap.size w3 w4 := (by rw [hh]; exact below_setRow ((Below.refl _ _).alloc (Nat.le_refl _) _) (Nat.le_refl _) _); clear hh)
    | (have P4 := hide ((W4.block _ (lt_of_block P3.out)).trans P3.out); refine wpList_load_row rfl 27 (.tmp 3) rfl w.heap.size rfl _ _ _ _ P4.out Tryd.underlying27 rfl ZI.out ?_))
  have B4 := hide (bnext B3.out W4)
  clear P3 B3 W4 M4
  refine (KN.out _ _).mono ?_
  rintro e w5 ⟨rfl, c5⟩
  have P5 := hide ((c5.block _ (lt_of_block P4.out)).trans P4.out)
  have B5 := hide (bnext B4.out c5)
  clear c5 P4 B4
  set_option maxRecDepth 20000 in
  go_wp2_with (first
    | (refine wpList_alloced rfl 27 rfl (rowF (iv fun _ => 0) 244) zero_P ?_)
    | (refine wpList_store_row rfl 27 (.tmp 12) (.tmp 43) rfl w5.heap.size R (by simp [Act.eval]) rfl 27 _ (hasF_new _ _ _ _) ZI.out ZS.out ZO.out ?_; refine under_list fun w6 hh => ?_; have M6 : Hid (w6.heap[w5.heap.size]? = some (.cells R 27 (0, 0))) := hide (by rw [hh]; exact setRow_heap _ _ _ _ _ _ (hasF_new _ _ _ _)); have W6 : Below w5.heap.size w5 w6 := (by rw [hh]; exact below_setRow ((Below.refl _ _).alloc (Nat.le_refl _) _) (Nat.le_refl _) _); clear hh)
    | (have P6 := hide ((W6.block _ (lt_of_block P5.out)).trans P5.out); refine wpList_load_row rfl 27 (.tmp 3) rfl w.heap.size rfl _ _ _ _ P6.out Tryd.underlying27 rfl ZI.out ?_)
    | (go_at_call 13; refine (KV.out _).mono ?_; rintro e w7 ⟨rfl, c7⟩; have B7 := hide (bnext (bnext B5.out W6) c7); clear c7)
    | (go_at_call 11; refine (fresh_any _).mono ?_; rintro e w8 ⟨rfl, c8⟩; have B8 := hide (bnext B7.out c8); clear c8))
  refine (KF.out _ (HL.out.next B8.out)).mono ?_
  rintro e w9 ⟨g, rfl, hg, c9⟩
  have B9 := hide (bnext B8.out c9)
  clear hg c9
  set_option maxRecDepth 20000 in
  go_wp2_with (first
    | (refine wpList_alloced rfl 27 rfl (rowF (iv fun _ => 0) 244) zero_P ?_)
    | (refine wpList_store_row rfl 27 (.tmp 14) (.tmp 52) rfl w9.heap.size RF (by simp [Act.eval]) rfl 27 _ (hasF_new _ _ _ _) IF.out FS.out FO.out ?_; refine under_list fun w10 hh => ?_; have M10 : Hid (w10.heap[w9.heap.size]? = some (.cells RF 27 (0, 0))) := hide (by rw [hh]; exact setRow_heap _ _ _ _ _ _ (hasF_new _ _ _ _)); have W10 : Below w9.heap.size w9 w10 := (by rw [hh]; exact below_setRow ((Below.refl _ _).alloc (Nat.le_refl _) _) (Nat.le_refl _) _); clear hh))
  go_ret
  exact ⟨rfl, bnext B9.out W10⟩

set_option maxHeartbeats 4000000 in
theorem parts_yes (f : Nat → Int) (a b : Int) (A B : Nat) (ha : bits .and .i64 a 63 = (A : Int) - 1) (hb : bits .and .i64 b 63 = (B : Int) - 1) (a1 : 1 ≤ A) (a2 : A ≤ 64) (b1 : 1 ≤ B) (b2 : B ≤ 64) (w : World) (HL : Hid (HasLevels w)) (ok : okP f) : Calls Tryd.prog 4 #[.agg (rowF (iv f) 244), .int .i64 a, .int .i64 b] w fun e w' => e = .returned (.bool true) ∧ Below w.heap.size w w' := by
  have KV := hide (fun w => valid_any f w)
  rw [(vB_iff f).1 ok] at KV
  have K1 := hide (fun (u : World) (hu : HasLevels u) => samples_any f A a1 (by omega) ok u hu)
  have K2 := hide (fun (u : World) (hu : HasLevels u) => samples_any (itF f A) B b1 (by omega) (okP_it ok A) u hu)
  have K3 := hide (fun (u : World) (hu : HasLevels u) => samples_any f (A + B) (by omega) (by omega) ok u hu)
  have KW := hide (fun w => valid_any (itF f (A + B)) w)
  rw [(vB_iff _).1 (okP_it ok (A + B))] at KW
  have EN := psg_neq (itF f (A + B))
  have P0 := hide (hasF_new 27 w 244 (iv f))
  have ZI := hide (info_P (iv f))
  have I1 := hide (info_P (iv (itF f A)))
  have I2 := hide (info_P (iv (itF f (A + B))))
  have O1 := hide (rowF_one (itF f A) 244)
  have O2 := hide (rowF_one (itF f (A + B)) 244)
  have S1 : Hid ((rowF (iv fun _ => 0) 244).size = (rowF (iv (itF f A)) 244).size) := hide (by rw [rowF_size, rowF_size])
  have S2 : Hid ((rowF (iv fun _ => 0) 244).size = (rowF (iv (itF f (A + B))) 244).size) := hide (by rw [rowF_size, rowF_size])
  have BA : Hid (Below w.heap.size w (w.alloc (.cells (rowF (iv f) 244) 27))) := hide ((Below.refl _ w).alloc (Nat.le_refl _) _)
  have SI := hide (fun j => smp_in ok j)
  have SA := hide (fun j r hr => smp_add f A j r hr)
  clear ok
  rw [HasF] at P0
  rw [← itF_add] at K2
  generalize rowF (iv f) 244 = R at *
  generalize rowF (iv (itF f A)) 244 = R1 at *
  generalize rowF (iv (itF f (A + B))) 244 = R2 at *
  generalize itF f A = fA at *
  have e1 : 1 + ((A : Int) - 1) = A := by omega
  have e2 : 1 + ((B : Int) - 1) = B := by omega
  set_option maxRecDepth 20000 in
  go_enter Tryd.func4, Tryd.ntmps4
  set_option maxRecDepth 20000 in
  go_wp2_with (first
    | (refine wpList_load_row rfl 27 (.tmp 3) rfl w.heap.size rfl _ _ _ _ P0.out Tryd.underlying27 rfl ZI.out ?_))
  refine (K1.out _ (HL.out.next BA.out)).mono ?_
  rintro e w1 ⟨g1, rfl, hg1, c1⟩
  have P1 := hide ((c1.block _ (lt_of_block P0.out)).trans P0.out)
  have B1 := hide (bnext BA.out c1)
  have G1 := hide hg1
  clear c1 P0 BA hg1
  set_option maxRecDepth 20000 in
  go_wp2_with (first
    | (refine wpList_alloced rfl 27 rfl (rowF (iv fun _ => 0) 244) zero_P ?_)
    | (refine wpList_store_row rfl 27 (.tmp 8) (.tmp 29) rfl w1.heap.size R1 (by simp [Act.eval]) rfl 27 _ (hasF_new _ _ _ _) I1.out S1.out O1.out ?_; refine under_list fun w2 hh => ?_; have M2 : Hid (w2.heap[w1.heap.size]? = some (.cells R1 27 (0, 0))) := hide (by rw [hh]; exact setRow_heap _ _ _ _ _ _ (hasF_new _ _ _ _)); have W2 : Below w1.heap.size w1 w2 := (by rw [hh]; exact below_setRow ((Below.refl _ _).alloc (Nat.le_refl _) _) (Nat.le_refl _) _); clear hh)
    | (refine wpList_load_row rfl 27 (.tmp 8) rfl w1.heap.size rfl _ _ _ _ M2.out Tryd.underlying27 rfl I1.out ?_))
  have P2 := hide ((W2.block _ (lt_of_block P1.out)).trans P1.out)
  have B2 := hide (bnext B1.out W2)
  have G12 := hide (G1.out.next W2)
  clear P1 B1 W2 G1
  refine (K2.out _ (HL.out.next B2.out)).mono ?_
  rintro e w3 ⟨g2, rfl, hg2, c3⟩
  have P3 := hide ((c3.block _ (lt_of_block P2.out)).trans P2.out)
  have B3 := hide (bnext B2.out c3)
  have G13 := hide (G12.out.next c3)
  have G23 := hide hg2
  clear c3 P2 B2 M2 hg2 G12
  set_option maxRecDepth 20000 in
  go_wp2_with (first
    | (refine wpList_alloced rfl 27 rfl (rowF (iv fun _ => 0) 244) zero_P ?_)
    | (refine wpList_store_row rfl 27 (.tmp 10) (.tmp 35) rfl w3.heap.size R2 (by simp [Act.eval]) rfl 27 _ (hasF_new _ _ _ _) I2.out S2.out O2.out ?_; refine under_list fun w4 hh => ?_; have M4 : Hid (w4.heap[w3.heap.size]? = some (.cells R2 27 (0, 0))) := hide (by rw [hh]; exact setRow_heap _ _ _ _ _ _ (hasF_new _ _ _ _)); have W4 : Below w3.heap.size w3 w4 := (by rw [hh]; exact below_setRow ((Below.refl _ _).alloc (Nat.le_refl _) _) (Nat.le_refl _) _); clear hh)
    | (have P4 := hide ((W4.block _ (lt_of_block P3.out)).trans P3.out); refine wpList_load_row rfl 27 (.tmp 3) rfl w.heap.size rfl _ _ _ _ P4.out Tryd.underlying27 rfl ZI.out ?_))
  have B4 := hide (bnext B3.out W4)
  have G14 := hide (G13.out.next W4)
  have G24 := hide (G23.out.next W4)
  clear P3 B3 W4 G13 G23
  have eAB : ((A : Int) + (B : Int)) = ((A + B : Nat) : Int) := by omega
  try rw [eAB]
  clear eAB
  refine (K3.out _ (HL.out.next B4.out)).mono ?_
  rintro e w5 ⟨g3, rfl, hg3, c5⟩
  have P5 := hide ((c5.block _ (lt_of_block P4.out)).trans P4.out)
  have B5 := hide (bnext B4.out c5)
  have M5 := hide ((c5.block _ (lt_of_block M4.out)).trans M4.out)
  have G15 := hide (G14.out.next c5)
  have G25 := hide (G24.out.next c5)
  have G35 := hide hg3
  clear c5 P4 B4 M4 hg3 G14 G24
  set_option maxRecDepth 20000 in
  go_wp2_with (first
    | (refine wpList_alloced rfl 27 rfl (rowF (iv fun _ => 0) 244) zero_P ?_)
    | (refine wpList_store_row rfl 27 (.tmp 12) (.tmp 43) rfl w5.heap.size R2 (by simp [Act.eval]) rfl 27 _ (hasF_new _ _ _ _) I2.out S2.out O2.out ?_; refine under_list fun w6 hh => ?_; have M6 : Hid (w6.heap[w5.heap.size]? = some (.cells R2 27 (0, 0))) := hide (by rw [hh]; exact setRow_heap _ _ _ _ _ _ (hasF_new _ _ _ _)); have W6 : Below w5.heap.size w5 w6 := (by rw [hh]; exact below_setRow ((Below.refl _ _).alloc (Nat.le_refl _) _) (Nat.le_refl _) _); clear hh)
    | (have P6 := hide ((W6.block _ (lt_of_block P5.out)).trans P5.out); refine wpList_load_row rfl 27 (.tmp 3) rfl w.heap.size rfl _ _ _ _ P6.out Tryd.underlying27 rfl ZI.out ?_))
  refine (KV.out _).mono ?_
  rintro e w7 ⟨rfl, c7⟩
  have W7 := bnext W6 c7
  have M7 := hide ((W7.block _ (lt_of_block M5.out)).trans M5.out)
  have N7 := hide ((c7.block _ (lt_of_block M6.out)).trans M6.out)
  have B7 := hide (bnext B5.out W7)
  have G17 := hide (G15.out.next W7)
  have G27 := hide (G25.out.next W7)
  have G37 := hide (G35.out.next W7)
  clear c7 W6 W7 M5 M6 B5 G15 G25 G35 P5 P6
  set_option maxRecDepth 20000 in
  go_wp2_with (first
    | (refine wpList_load_want rfl 27 (.tmp 10) rfl w3.heap.size rfl _ _ _ _ M7.out Tryd.underlying27 rfl I2.out ?_)
    | (refine wpList_load_want rfl 27 (.tmp 12) rfl w5.heap.size rfl _ _ _ _ N7.out Tryd.underlying27 rfl I2.out ?_))
  refine (KW.out _).mono ?_
  rintro e w8 ⟨rfl, c8⟩
  have B8 := hide (bnext B7.out c8)
  have G18 := hide (G17.out.next c8)
  have G28 := hide (G27.out.next c8)
  have G38 := hide (G37.out.next c8)
  clear c8 M7 N7 B7 G17 G27 G37 KV KW K1 K2 K3 EN I1 I2 O1 O2 S1 S2 ZI HL
  set_option maxRecDepth 20000 in
  go_wp2_with fail
  have hN : A + B ≤ 128 := by omega
  go_loopw [15] (fun v w' => ∃ i : Nat, i ≤ A + B ∧ v = .int .i64 i ∧ Below w8.heap.size w8 w') (fun v _ => A + B - (intOf v).toNat)
  case atStart => exact ⟨0, Nat.zero_le _, rfl, Below.refl _ _⟩
  case round =>
    obtain ⟨i, hi, rfl, hb9⟩ := hrel
    have B9 := hide hb9
    clear hb9
    by_cases hlt : i < A + B
    · have X0 := SI.out (i * 2)
      have X1 := SI.out (i * 2 + 1)
      have G3 := G38.out.next B9.out
      have c0 := G3.int (i * 2) (by omega)
      have c1 := G3.int (i * 2 + 1) (by omega)
      clear G3
      by_cases hA : i < A
      · have G1 := G18.out.next B9.out
        have d0 := G1.int (i * 2) (by omega)
        have d1 := G1.int (i * 2 + 1) (by omega)
        have HG1 := hide G1.lt
        clear G1
        have en := two_neq (smp f (i * 2)) (smp f (i * 2 + 1))
        generalize smp f (i * 2) = x at *
        generalize smp f (i * 2 + 1) = y at *
        set_option maxRecDepth 20000 in
        go_wp2_with fail
        have hd : decide ((i : Int) < (A : Int)) = true := by simp; omega
        have hge : decide (A ≤ i) = false := by simp; omega
        have hdl : decide ((i : Int) < (A : Int) + (B : Int)) = true := by simp; omega
        refine under_name fun wa hwa => ?_
        have BW : Hid (Below w8.heap.size w8 wa) := hide (by rw [hwa]; exact B9.out.alloc B9.out.size _)
        have SX : Hid (Smp wa wr.heap.size x y) := hide (by rw [hwa]; exact heap_alloc_new _ _)
        have v0 : wa.cell? ⟨wr.heap.size, 0, none⟩ = some (.int .i64 x) := SX.out.c0
        have v1 : wa.cell? ⟨wr.heap.size, 1, none⟩ = some (.int .i64 y) := SX.out.c1
        have BR : Below wr.heap.size wr wa := by rw [hwa]; exact (Below.refl _ _).alloc (Nat.le_refl _) _
        replace d0 := (BR.cell (p := ⟨g1, i * 2, none⟩) HG1.out).trans d0
        replace d1 := (BR.cell (p := ⟨g1, i * 2 + 1, none⟩) HG1.out).trans d1
        clear hwa BR c0 c1
        generalize wr.heap.size = gx at *
        set_option maxRecDepth 20000 in
        go_quiet (fail)
        set_option maxRecDepth 20000 in
        go_wp2_with fail
        clear d0 d1
        refine under_name fun wb hwb => ?_
        replace BW : Hid (Below w8.heap.size w8 wb) := hide (by rw [hwb]; exact below_drew BW.out _)
        have SB : Hid (Smp wb gx x y) := hide (by rw [hwb]; exact SX.out)
        clear hwb v0 v1 SX
        try simp only [hdl]
        go_loopw [17] (fun v w' => (v = .int .i64 0 ∨ v = .int .i64 1 ∨ v = .int .i64 2) ∧ w' = wb) (fun v _ => 2 - (intOf v).toNat)
        case atStart => exact ⟨.inl rfl, rfl⟩
        case round =>
          obtain ⟨hv, hw⟩ := hrel
          subst hw
          have v0 := SB.out.c0
          have v1 := SB.out.c1
          rcases hv with rfl | rfl | rfl
          · set_option maxRecDepth 20000 in
            go_wp2_with fail
            exact ⟨⟨.inr (.inl rfl), trivial⟩, by simp [intOf]⟩
          · set_option maxRecDepth 20000 in
            go_wp2_with fail
            exact ⟨⟨.inr (.inr rfl), trivial⟩, by simp [intOf]⟩
          · set_option maxRecDepth 20000 in
            go_wp2_with fail
            exact ⟨⟨i + 1, by omega, by go_num, BW.out⟩, by simp [intOf]; omega⟩
      · obtain ⟨j, hj⟩ : ∃ j, i = A + j := ⟨i - A, by omega⟩
        have G2 := G28.out.next B9.out
        have d0 := G2.int (j * 2) (by omega)
        have d1 := G2.int (j * 2 + 1) (by omega)
        have s0 := SA.out j 0 (by decide)
        have s1 := SA.out j 1 (by decide)
        rw [Nat.add_zero, Nat.add_zero, ← hj] at s0
        rw [← hj] at s1
        rw [← s0] at d0
        rw [← s1] at d1
        have HG2 := hide G2.lt
        clear G2 s0 s1
        have en := two_neq (smp f (i * 2)) (smp f (i * 2 + 1))
        generalize smp f (i * 2) = x at *
        generalize smp f (i * 2 + 1) = y at *
        have hjB : j < B := by omega
        have hd2 : ((i : Int) - (A : Int)) = (j : Int) := by omega
        replace hj := hide hj
        set_option maxRecDepth 20000 in
        go_wp2_with fail
        have hd : decide ((i : Int) < (A : Int)) = false := by simp; omega
        have hd3 : decide (i < A) = false := by simp; omega
        have hge : decide (A ≤ i) = true := by simp; omega
        have hdl : decide ((i : Int) < (A : Int) + (B : Int)) = true := by simp; omega
        refine under_name fun wa hwa => ?_
        have BW : Hid (Below w8.heap.size w8 wa) := hide (by rw [hwa]; exact B9.out.alloc B9.out.size _)
        have SX : Hid (Smp wa wr.heap.size x y) := hide (by rw [hwa]; exact heap_alloc_new _ _)
        have v0 : wa.cell? ⟨wr.heap.size, 0, none⟩ = some (.int .i64 x) := SX.out.c0
        have v1 : wa.cell? ⟨wr.heap.size, 1, none⟩ = some (.int .i64 y) := SX.out.c1
        have BR : Below wr.heap.size wr wa := by rw [hwa]; exact (Below.refl _ _).alloc (Nat.le_refl _) _
        replace d0 := (BR.cell (p := ⟨g2, j * 2, none⟩) HG2.out).trans d0
        replace d1 := (BR.cell (p := ⟨g2, j * 2 + 1, none⟩) HG2.out).trans d1
        clear hwa BR c0 c1
        generalize wr.heap.size = gx at *
        set_option maxRecDepth 20000 in
        go_quiet (fail)
        set_option maxRecDepth 20000 in
        go_wp2_with fail
        clear d0 d1
        refine under_name fun wb hwb => ?_
        replace BW : Hid (Below w8.heap.size w8 wb) := hide (by rw [hwb]; exact below_drew BW.out _)
        have SB : Hid (Smp wb gx x y) := hide (by rw [hwb]; exact SX.out)
        clear hwb v0 v1 SX
        try simp only [hdl]
        go_loopw [17] (fun v w' => (v = .int .i64 0 ∨ v = .int .i64 1 ∨ v = .int .i64 2) ∧ w' = wb) (fun v _ => 2 - (intOf v).toNat)
        case atStart => exact ⟨.inl rfl, rfl⟩
        case round =>
          obtain ⟨hv, hw⟩ := hrel
          subst hw
          have v0 := SB.out.c0
          have v1 := SB.out.c1
          rcases hv with rfl | rfl | rfl
          · set_option maxRecDepth 20000 in
            go_wp2_with fail
            exact ⟨⟨.inr (.inl rfl), trivial⟩, by simp [intOf]⟩
          · set_option maxRecDepth 20000 in
            go_wp2_with fail
            exact ⟨⟨.inr (.inr rfl), trivial⟩, by simp [intOf]⟩
          · set_option maxRecDepth 20000 in
            go_wp2_with fail
            exact ⟨⟨i + 1, by omega, by go_num, BW.out⟩, by simp [intOf]; omega⟩
    · obtain rfl : i = A + B := by omega
      set_option maxRecDepth 20000 in
      go_wp2_with fail
      go_ret
      exact ⟨rfl, bnext B8.out B9.out⟩

theorem psgParts_walk (f : Nat → Int) (a b : Int) (w : World) (hf : ∀ j, j < 244 → (Lit.int .i64 (f j)).wf = true) (w1 : (Lit.int .i64 a).wf = true) (w2 : (Lit.int .i64 b).wf = true) (hL : HasLevels w) : Calls Tryd.prog 4 #[.agg (rowF (iv f) 244), .int .i64 a, .int .i64 b] w fun e w' => e = .returned (.bool true) ∧ Below w.heap.size w w' := by
  have h1 : bits .and .i64 a 63 = (((a % 64).toNat + 1 : Nat) : Int) - 1 := by rw [mask_63]; omega
  have h2 : bits .and .i64 b 63 = (((b % 64).toNat + 1 : Nat) : Int) - 1 := by rw [mask_63]; omega
  by_cases ok : okP f
  · exact parts_yes f a b _ _ h1 h2 (by omega) (by omega) (by omega) (by omega) w (hide hL) ok
  · exact parts_no f a b _ _ h1 h2 (by omega) (by omega) (by omega) (by omega) w (hide hL) (vB_no ok)

set_option maxRecDepth 100000 in
theorem psgParts_lifted (os : Os) (started : os.Started) (H : Type) (enc : TypeId × Value → H) :
    ReturnsInHanded {} Tryd.checked os 4 .any (fun w args => (Rows.psgPartsSpec.pre enc Tryd.prog Tryd.f4 [] false w args ∧ laidMetH Tryd.prog laidLev w) ∧ sizedMet enc Tryd.prog Tryd.f4 (OpenSpec.ofChange Rows.psgPartsSpec) false w args)
      (Rows.psgPartsSpec.post enc Tryd.prog Tryd.f4 false true false false) := by
  refine returnsInHanded_of_change_and (C := Tryd.checked) (X := fun w _ => laidMetH Tryd.prog laidLev w) (fun _ _ _ hh h => h.of_heap hh) own started (by kernel_rfl) Tryd.func4
    (ChangeSpec.witness_at (enc := enc) (C := Tryd.checked) (os := os) (X := fun w _ => laidMetH Tryd.prog laidLev w) false (laidWorld os) #[.agg #[.int .i64 0, .int .i64 0, .int .i64 0, .int .i64 0, .int .i64 0, .int .i64 0, .int .i64 0, .int .i64 0, .int .i64 0, .int .i64 0, .int .i64 0, .int .i64 0, .int .i64 0, .int .i64 0, .int .i64 0, .int .i64 0, .int .i64 0, .int .i64 0, .int .i64 0, .int .i64 0, .int .i64 0, .int .i64 0, .int .i64 0, .int .i64 0, .int .i64 0, .int .i64 0, .int .i64 0, .int .i64 0, .int .i64 0, .int .i64 0, .int .i64 0, .int .i64 0, .int .i64 0, .int .i64 0, .int .i64 0, .int .i64 0, .int .i64 0, .int .i64 0, .int .i64 0, .int .i64 0, .int .i64 0, .int .i64 0, .int .i64 0, .int .i64 0, .int .i64 0, .int .i64 0, .int .i64 0, .int .i64 0, .int .i64 0, .int .i64 0, .int .i64 0, .int .i64 0, .int .i64 0, .int .i64 0, .int .i64 0, .int .i64 0, .int .i64 0, .int .i64 0, .int .i64 0, .int .i64 0, .int .i64 0, .int .i64 0, .int .i64 0, .int .i64 0, .int .i64 0, .int .i64 0, .int .i64 0, .int .i64 0, .int .i64 0, .int .i64 0, .int .i64 0, .int .i64 0, .int .i64 0, .int .i64 0, .int .i64 0, .int .i64 0, .int .i64 0, .int .i64 0, .int .i64 0, .int .i64 0, .int .i64 0, .int .i64 0, .int .i64 0, .int .i64 0, .int .i64 0, .int .i64 0, .int .i64 0, .int .i64 0, .int .i64 0, .int .i64 0, .int .i64 0, .int .i64 0, .int .i64 0, .int .i64 0, .int .i64 0, .int .i64 0, .int .i64 0, .int .i64 0, .int .i64 0, .int .i64 0, .int .i64 0, .int .i64 0, .int .i64 0, .int .i64 0, .int .i64 0, .int .i64 0, .int .i64 0, .int .i64 0, .int .i64 0, .int .i64 0, .int .i64 0, .int .i64 0, .int .i64 0, .int .i64 0, .int .i64 0, .int .i64 0, .int .i64 0, .int .i64 0, .int .i64 0, .int .i64 0, .int .i64 0, .int .i64 0, .int .i64 0, .int .i64 0, .int .i64 0, .int .i64 0, .int .i64 0, .int .i64 0, .int .i64 0, .int .i64 0, .int .i64 0, .int .i64 0, .int .i64 0, .int .i64 0, .int .i64 0, .int .i64 0, .int .i64 0, .int .i64 0, .int .i64 0, .int .i64 0, .int .i64 0, .int .i64 0, .int .i64 0, .int .i64 0, .int .i64 0, .int .i64 0, .int .i64 0, .int .i64 0, .int .i64 0, .int .i64 0, .int .i64 0, .int .i64 0, .int .i64 0, .int .i64 0, .int .i64 0, .int .i64 0, .int .i64 0, .int .i64 0, .int .i64 0, .int .i64 0, .int .i64 0, .int .i64 0, .int .i64 0, .int .i64 0, .int .i64 0, .int .i64 0, .int .i64 0, .int .i64 0, .int .i64 0, .int .i64 0, .int .i64 0, .int .i64 0, .int .i64 0, .int .i64 0, .int .i64 0, .int .i64 0, .int .i64 0, .int .i64 0, .int .i64 0, .int .i64 0, .int .i64 0, .int .i64 0, .int .i64 0, .int .i64 0, .int .i64 0, .int .i64 0, .int .i64 0, .int .i64 0, .int .i64 0, .int .i64 0, .int .i64 0, .int .i64 0, .int .i64 0, .int .i64 0, .int .i64 0, .int .i64 0, .int .i64 0, .int .i64 0, .int .i64 0, .int .i64 0, .int .i64 0, .int .i64 0, .int .i64 0, .int .i64 0, .int .i64 0, .int .i64 0, .int .i64 0, .int .i64 0, .int .i64 0, .int .i64 0, .int .i64 0, .int .i64 0, .int .i64 0, .int .i64 0, .int .i64 0, .int .i64 0, .int .i64 0, .int .i64 0, .int .i64 0, .int .i64 0, .int .i64 0, .int .i64 0, .int .i64 0, .int .i64 0, .int .i64 0, .int .i64 0, .int .i64 0, .int .i64 0, .int .i64 0, .int .i64 0, .int .i64 0, .int .i64 0, .int .i64 0, .int .i64 0, .int .i64 0, .int .i64 0, .int .i64 0, .int .i64 0, .int .i64 0, .int .i64 0, .int .i64 0, .int .i64 0, .int .i64 0, .int .i64 0], .int .i64 0, .int .i64 0] 8 rfl (by kernel_rfl) (by kernel_rfl) (by kernel_rfl) (by kernel_rfl) (by kernel_rfl) (laidWorld_lev os _)) ?_
  intro W base args ds gs before hval0 hW _ _ hL _
  have hval : ∀ (j : Nat) t v, Tryd.f4.params[j]? = some t → args[j]? = some v → Value.okWide Tryd.prog W .any base t v := hval0
  have hW' := hW
  obtain ⟨p, q, hA0, hV, rfl, hfz, hnd⟩ := hW
  have hA : DataW.TrodAll enc Tryd.prog W 0 (fun _ => true) true Tryd.f4.params.toList args.toList ds p := hA0
  rw [Tryd.params4] at hA hval
  obtain ⟨v0, vs0, d0, ds0, p0, q0, hargs, rfl, rfl, h0, r0⟩ := trodAll_cons hA
  obtain ⟨v1, vs1, d1, ds1, p1, q1, rfl, rfl, rfl, h1, r1⟩ := trodAll_cons r0
  obtain ⟨v2, vs2, d2, ds2, p2, q2, rfl, rfl, rfl, h2, r2⟩ := trodAll_cons r1
  obtain ⟨rfl, rfl, rfl⟩ := trodAll_nil r2
  obtain rfl : args = #[v0, v1, v2] := by cases args; simp_all
  obtain ⟨rfl, rfl⟩ := trodVars_none hV
  have k0 := h0
  have lt0 : ∀ x ∈ p0, x.block < W.heap.size := by obtain ⟨m, hm⟩ := k0; exact DataW.trod_lt m _ _ _ hm
  obtain ⟨f0, rfl, g0⟩ := open_flat Tryd.underlying27 (by kernel_rfl) psg_ints (hval 0 27 v0 rfl rfl) h0
  obtain ⟨a1, rfl, rfl, rfl, w1⟩ := open_int Tryd.underlying3 (hval 1 3 v1 rfl rfl) h1
  obtain ⟨a2, rfl, rfl, rfl, w2⟩ := open_int Tryd.underlying3 (hval 2 3 v2 rfl rfl) h2
  clear hA0 hval0
  refine (psgParts_walk f0 a1 a2 W g0 w1 w2 (laid_lev hL)).mono fun e W' ⟨he, bel⟩ => ?_
  subst he
  exact ⟨_, rfl, _, _, _, [], _, [], hW', trodAll_mk1 (shut_bool Tryd.underlying4 _), (trodAll_cons_mk (Below.trod laidOut (by kernel_rfl) (of_decide_eq_true (by kernel_rfl)) k0 bel lt0) (trodAll_cons_mk (shut_int Tryd.underlying3 w1) (trodAll_cons_mk (shut_int Tryd.underlying3 w2) trodAll_mk0))), rfl, bel.frame _, fun h => by cases h⟩

theorem psgParts_over : Rows.psgPartsRow.holds Tryd.pinned (OpenSpec.ofChange Rows.psgPartsSpec) :=
  OpenClaim.holds_of_wide 4 Tryd.f4 rfl rfl rfl rfl rfl rfl rfl ⟨rfl, rfl, rfl, rfl, rfl⟩ rfl rfl rfl rfl rfl (by kernel_rfl) Tryd.func4 (by kernel_rfl)
    (of_decide_eq_true (by kernel_rfl)) (by unfold Func.isWrapper; first | (rw [if_pos (by decide +kernel)]; kernel_rfl) | (rw [if_neg (by decide +kernel)]; exact ⟨rfl, rfl⟩))
    (fun os started H enc _ => psgParts_lifted os started H enc)

theorem psgParts_row : Rows.PsgPartsSaid := psgParts_over

theorem psgParts_holds : Rows.PsgPartsCardSaid :=
  Claim7.holds_tied_plain_at .later [] [.data] true (true, "44e93f02091fb777b829c2094e8ff427b31d8bf2f2d5906b7fee23afb9181329") false
    psgParts_row (fun _ h => by cases h) (by kernel_rfl) (fun _ h => by cases h) psgParts_row_tie rfl ⟨rfl, rfl⟩ (by kernel_rfl) rfl
    (fun f fn hf hfn => by
      obtain rfl : f = 4 := Option.some.inj ((show Tryd.prog.funcNamed "phosphor/phosphorlaw22.PsgParts" = some 4 by kernel_rfl).symm.trans hf) |>.symm
      obtain rfl : fn = Tryd.f4 := (Option.some.inj (Tryd.func4.symm.trans hfn)).symm
      exact ⟨by kernel_rfl, fun j t ht => by
        rw [Tryd.params4] at ht
        rcases j with _ | _ | _ | j
        · obtain rfl : t = 27 := by simpa using ht.symm
          exact (show Tryd.prog.wantsStandIn 27 = false by kernel_rfl)
        · obtain rfl : t = 3 := by simpa using ht.symm
          exact (show Tryd.prog.wantsStandIn 3 = false by kernel_rfl)
        · obtain rfl : t = 3 := by simpa using ht.symm
          exact (show Tryd.prog.wantsStandIn 3 = false by kernel_rfl)
        · simp at ht⟩)
    (by kernel_rfl)
#print axioms psgParts_holds
end Go.Proofs.YtcpilhbinkamiaaDoor
