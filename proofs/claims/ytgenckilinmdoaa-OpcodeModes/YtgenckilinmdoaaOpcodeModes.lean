/- Instructions of one mode have one length; a number beyond a byte is its byte. -/
import Derived.Test.YtgenckilinmdoaaOpOf
import Derived.Laws.StructEq
import Derived.OpenShut
import Derived.ShutString
import Derived.ChangeOld
import Derived.Below
namespace Go.Proofs.Ytgenckilinmdoaa
open Go.ChangeShapes Go.WideShapes Go.ChangeAt Go.RowKit
open Go.ChangeMaps (open_string shut_string)
set_option linter.unusedVariables false
set_option maxRecDepth 20000
theorem own : ownKnob Try.prog.godebug = none := by kernel_rfl

theorem info_mode (x y z u : Value) (w : World) : (Instr.field 27 (.agg #[x, y, z, u]) 1).run Try.prog w = .ok y w := by kernel_rfl

theorem modes_at (a0 a1 z m l c m1 l1 c1 : Int) (s s1 : ByteArray) (w : World) (ez : bits .and .i64 a0 255 = z) (h0 : 0 ≤ m) (h1 : m ≤ 20) (hl : m = m1 → l = l1)
    (k1 : ∀ w, Calls Try.prog 10 #[.int .i64 a0] w fun e w' => e = .returned (.agg #[.string s, .int .i64 m, .int .i64 l, .int .i64 c]) ∧ Below w.heap.size w w')
    (k2 : ∀ w, Calls Try.prog 10 #[.int .i64 a1] w fun e w' => e = .returned (.agg #[.string s1, .int .i64 m1, .int .i64 l1, .int .i64 c1]) ∧ Below w.heap.size w w')
    (k3 : ∀ w, Calls Try.prog 10 #[.int .i64 z] w fun e w' => e = .returned (.agg #[.string s, .int .i64 m, .int .i64 l, .int .i64 c]) ∧ Below w.heap.size w w')
    (k4 : ∀ w, Calls Try.prog 10 #[.int .i64 76] w fun e w' => e = .returned (.agg #[.string ⟨#[74, 77, 80]⟩, .int .i64 9, .int .i64 3, .int .i64 4]) ∧ Below w.heap.size w w') : Calls Try.prog 6 #[.int .i64 a0, .int .i64 a1] w fun e w' => e = .returned (.bool true) ∧ Below w.heap.size w w' := by
  have c1' := hide k1
  have c2 := hide k2
  have c3 := hide k3
  have c4 := hide k4
  clear k1 k2 k3 k4
  have q2 := info_mode
  by_cases hm : m = m1
  · have hll := hl hm
    subst hm hll
    clear hl
    go_enter Try.func6, Try.ntmps6
    go_wp2_with fail
    refine (c1'.out _).mono ?_
    rintro e w1 ⟨rfl, b1⟩
    go_wp2_with fail
    refine (c2.out _).mono ?_
    rintro e w2 ⟨rfl, b2⟩
    have B2 := hide (bnext b1 b2)
    have B3 := hide ((B2.out.alloc B2.out.size (.cells #[.string s, .int .i64 m, .int .i64 l, .int .i64 c] 27)).alloc (by have := B2.out.size; simp; omega) (.cells #[.string s1, .int .i64 m, .int .i64 l, .int .i64 c1] 27))
    obtain ⟨wx, hwx⟩ : ∃ wx, wx = (w2.alloc (.cells #[.string s, .int .i64 m, .int .i64 l, .int .i64 c] 27)).alloc (.cells #[.string s1, .int .i64 m, .int .i64 l, .int .i64 c1] 27) := ⟨_, rfl⟩
    have p0 : wx.heap[w2.heap.size]? = some (.cells #[.string s, .int .i64 m, .int .i64 l, .int .i64 c] 27 (0, 0)) := by rw [hwx]; exact heap_alloc2_old _ _ _
    have p1 : wx.heap[w2.heap.size + 1]? = some (.cells #[.string s1, .int .i64 m, .int .i64 l, .int .i64 c1] 27 (0, 0)) := by rw [hwx]; exact heap_alloc2_new _ _ _
    go_wp2_with fail
    rw [← hwx] at B3 ⊢
    clear hwx
    refine (c3.out _).mono ?_
    rintro e w3 ⟨rfl, b3⟩
    obtain ⟨wz, hwz⟩ : ∃ wz, wz = w3.alloc (.cells #[.string s, .int .i64 m, .int .i64 l, .int .i64 c] 27) := ⟨_, rfl⟩
    have bz : Below w3.heap.size w3 wz := by rw [hwz]; exact (Below.refl _ w3).alloc (Nat.le_refl _) _
    have q0 := (b3.block w2.heap.size (lt_of_block p0)).trans p0
    have q1 := (b3.block (w2.heap.size + 1) (lt_of_block p1)).trans p1
    have r0 := (bz.block w2.heap.size (lt_of_block q0)).trans q0
    have r1 := (bz.block (w2.heap.size + 1) (lt_of_block q1)).trans q1
    have r3 : wz.heap[w3.heap.size]? = some (.cells #[.string s, .int .i64 m, .int .i64 l, .int .i64 c] 27 (0, 0)) := by rw [hwz]; exact heap_alloc_new w3 _
    have x0 : w3.cell? ⟨w2.heap.size, 1, none⟩ = some (.int .i64 m) := by simp [World.cell?, q0]
    have x1 : w3.cell? ⟨w2.heap.size, 2, none⟩ = some (.int .i64 l) := by simp [World.cell?, q0]
    have x2 : w3.cell? ⟨w2.heap.size + 1, 1, none⟩ = some (.int .i64 m) := by simp [World.cell?, q1]
    have x3 : w3.cell? ⟨w2.heap.size + 1, 2, none⟩ = some (.int .i64 l) := by simp [World.cell?, q1]
    have x4 : w3.cell? ⟨w2.heap.size, 0, none⟩ = some (.string s) := by simp [World.cell?, q0]
    have x5 : w3.cell? ⟨w2.heap.size, 3, none⟩ = some (.int .i64 c) := by simp [World.cell?, q0]
    have lt0 := lt_of_block q0
    have lt1 := lt_of_block q1
    have BZ := hide (bnext (bnext B3.out b3) bz)
    clear p0 p1 q0 q1 r0 r1 r3 bz b3 B3 b1 b2 B2
    subst hwz
    go_wp2_with fail
    refine (c4.out _).mono ?_
    rintro e w4 ⟨rfl, b4⟩
    have B4 := hide (bnext BZ.out b4)
    clear b4
    go_wp2
    go_ret
    exact ⟨rfl, B4.out⟩
  · have hn : (m == m1) = false := by simp [hm]
    clear hl
    go_enter Try.func6, Try.ntmps6
    go_wp2_with fail
    refine (c1'.out _).mono ?_
    rintro e w1 ⟨rfl, b1⟩
    go_wp2_with fail
    refine (c2.out _).mono ?_
    rintro e w2 ⟨rfl, b2⟩
    have B2 := hide (bnext b1 b2)
    have B3 := hide ((B2.out.alloc B2.out.size (.cells #[.string s, .int .i64 m, .int .i64 l, .int .i64 c] 27)).alloc (by have := B2.out.size; simp; omega) (.cells #[.string s1, .int .i64 m1, .int .i64 l1, .int .i64 c1] 27))
    obtain ⟨wx, hwx⟩ : ∃ wx, wx = (w2.alloc (.cells #[.string s, .int .i64 m, .int .i64 l, .int .i64 c] 27)).alloc (.cells #[.string s1, .int .i64 m1, .int .i64 l1, .int .i64 c1] 27) := ⟨_, rfl⟩
    have p0 : wx.heap[w2.heap.size]? = some (.cells #[.string s, .int .i64 m, .int .i64 l, .int .i64 c] 27 (0, 0)) := by rw [hwx]; exact heap_alloc2_old _ _ _
    have p1 : wx.heap[w2.heap.size + 1]? = some (.cells #[.string s1, .int .i64 m1, .int .i64 l1, .int .i64 c1] 27 (0, 0)) := by rw [hwx]; exact heap_alloc2_new _ _ _
    go_wp2_with fail
    rw [← hwx] at B3 ⊢
    clear hwx
    refine (c3.out _).mono ?_
    rintro e w3 ⟨rfl, b3⟩
    obtain ⟨wz, hwz⟩ : ∃ wz, wz = w3.alloc (.cells #[.string s, .int .i64 m, .int .i64 l, .int .i64 c] 27) := ⟨_, rfl⟩
    have bz : Below w3.heap.size w3 wz := by rw [hwz]; exact (Below.refl _ w3).alloc (Nat.le_refl _) _
    have q0 := (b3.block w2.heap.size (lt_of_block p0)).trans p0
    have q1 := (b3.block (w2.heap.size + 1) (lt_of_block p1)).trans p1
    have r0 := (bz.block w2.heap.size (lt_of_block q0)).trans q0
    have r1 := (bz.block (w2.heap.size + 1) (lt_of_block q1)).trans q1
    have r3 : wz.heap[w3.heap.size]? = some (.cells #[.string s, .int .i64 m, .int .i64 l, .int .i64 c] 27 (0, 0)) := by rw [hwz]; exact heap_alloc_new w3 _
    have x0 : w3.cell? ⟨w2.heap.size, 1, none⟩ = some (.int .i64 m) := by simp [World.cell?, q0]
    have x1 : w3.cell? ⟨w2.heap.size, 2, none⟩ = some (.int .i64 l) := by simp [World.cell?, q0]
    have x2 : w3.cell? ⟨w2.heap.size + 1, 1, none⟩ = some (.int .i64 m1) := by simp [World.cell?, q1]
    have x3 : w3.cell? ⟨w2.heap.size + 1, 2, none⟩ = some (.int .i64 l1) := by simp [World.cell?, q1]
    have x4 : w3.cell? ⟨w2.heap.size, 0, none⟩ = some (.string s) := by simp [World.cell?, q0]
    have x5 : w3.cell? ⟨w2.heap.size, 3, none⟩ = some (.int .i64 c) := by simp [World.cell?, q0]
    have lt0 := lt_of_block q0
    have lt1 := lt_of_block q1
    have BZ := hide (bnext (bnext B3.out b3) bz)
    clear p0 p1 q0 q1 r0 r1 r3 bz b3 B3 b1 b2 B2
    subst hwz
    go_wp2_with fail
    refine (c4.out _).mono ?_
    rintro e w4 ⟨rfl, b4⟩
    have B4 := hide (bnext BZ.out b4)
    clear b4
    go_wp2
    go_ret
    exact ⟨rfl, B4.out⟩

theorem opcodeModes_walk (a0 a1 : Int) (w0 : (Lit.int .i64 a0).wf = true) (w1 : (Lit.int .i64 a1).wf = true) (w : World) : Calls Try.prog 6 #[.int .i64 a0, .int .i64 a1] w fun e w' => e = .returned (.bool true) ∧ Below w.heap.size w w' := by
  have h1 := mode_in (a0 % 256).toNat (by omega)
  refine modes_at a0 a1 (a0 % 256) (modeOf (a0 % 256).toNat) (lenOf (a0 % 256).toNat) (cycOf (a0 % 256).toNat) (modeOf (a1 % 256).toNat) (lenOf (a1 % 256).toNat) (cycOf (a1 % 256).toNat) (nameOf (a0 % 256).toNat) (nameOf (a1 % 256).toNat) w (and_255 a0) h1.1 h1.2 ?_ (of_any a0) (of_any a1) ?_ ?_
  · intro e
    unfold lenOf
    rw [e]
  · intro w
    have k := of_any (a0 % 256) w
    rw [show (a0 % 256) % 256 = a0 % 256 by omega] at k
    exact k
  · exact fun w => of_byte 76 (by omega) w

set_option maxRecDepth 100000 in
theorem opcodeModes_lifted (os : Os) (started : os.Started) (H : Type) (enc : TypeId × Value → H) :
    ReturnsInHanded {} Try.checked os 6 .any (Rows.opcodeModesSpec.pre6 enc Try.prog Try.f6 Rows.opcodeModesRow.domain false) (Rows.opcodeModesSpec.post enc Try.prog Try.f6 false true false false) := by
  refine returnsInHanded_of_change (C := Try.checked) own started (by kernel_rfl) Try.func6
    (ChangeSpec.witness6 (enc := enc) (C := Try.checked) false ⟨#[], #[.int .i64 0, .int .i64 0], []⟩ 8 (by kernel_rfl) (by kernel_rfl) (by kernel_rfl) (by kernel_rfl)) ?_
  intro W base args ds gs before hval0 hW hcnd _
  have hval : ∀ (j : Nat) t v, Try.f6.params[j]? = some t → args[j]? = some v → Value.okWide Try.prog W .any base t v := hval0
  have hW' := hW
  obtain ⟨p, q, hA0, hV, rfl, hfz, hnd⟩ := hW
  have hA : DataW.TrodAll enc Try.prog W 0 (fun _ => true) true Try.f6.params.toList args.toList ds p := hA0
  rw [Try.params6] at hA hval
  obtain ⟨v0, vs0, d0, ds0, p0, q0, hargs, rfl, rfl, h0, r0⟩ := trodAll_cons hA
  obtain ⟨v1, vs1, d1, ds1, p1, q1, rfl, rfl, rfl, h1, r1⟩ := trodAll_cons r0
  obtain ⟨rfl, rfl, rfl⟩ := trodAll_nil r1
  obtain rfl : args = #[v0, v1] := by cases args; simp_all
  obtain ⟨rfl, rfl⟩ := trodVars_none hV
  obtain ⟨a0, rfl, rfl, rfl, w0⟩ := open_int Try.underlying3 (hval 0 3 v0 rfl rfl) h0
  obtain ⟨a1, rfl, rfl, rfl, w1⟩ := open_int Try.underlying3 (hval 1 3 v1 rfl rfl) h1
  clear hA0 hval0
  refine (opcodeModes_walk a0 a1 w0 w1 W).mono fun e W' ⟨he, bel⟩ => ?_
  subst he
  exact ⟨_, rfl, _, _, _, [], _, [], hW', trodAll_mk1 (shut_bool Try.underlying4 _), (trodAll_cons_mk (shut_int Try.underlying3 w0) (trodAll_cons_mk (shut_int Try.underlying3 w1) trodAll_mk0)), rfl, bel.frame _, fun h => by cases h⟩

theorem opcodeModes_over : Rows.opcodeModesRow.holds Try.pinned (OpenSpec.ofChange Rows.opcodeModesSpec) :=
  OpenClaim.holds_of_wide 6 Try.f6 rfl rfl rfl rfl rfl rfl rfl ⟨rfl, rfl, rfl, rfl, rfl⟩ rfl rfl rfl rfl rfl (by kernel_rfl) Try.func6 (by kernel_rfl)
    (of_decide_eq_true (by kernel_rfl)) (by unfold Func.isWrapper; first | (rw [if_pos (by decide +kernel)]; kernel_rfl) | (rw [if_neg (by decide +kernel)]; exact ⟨rfl, rfl⟩))
    (fun os started H enc _ => opcodeModes_lifted os started H enc)

theorem opcodeModes_holds : Rows.OpcodeModesSaid := opcodeModes_over
#print axioms opcodeModes_holds
end Go.Proofs.Ytgenckilinmdoaa
