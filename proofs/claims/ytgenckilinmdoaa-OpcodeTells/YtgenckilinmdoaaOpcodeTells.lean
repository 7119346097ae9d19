/- Any byte is the document's instruction; any bytes have its words. -/
import Derived.Test.YtgenckilinmdoaaOpRtext
import Derived.Test.YtgenckilinmdoaaArrays
import Derived.Laws.StructEq
import Derived.OpenShut
import Derived.ShutString
import Derived.ChangeOld
import Derived.Below
namespace Go.Proofs.Ytgenckilinmdoaa
open Go.ChangeShapes Go.WideShapes Go.ChangeAt Go.RowKit
open Go.ChangeMaps (open_string shut_string)
set_option linter.unusedVariables false
set_option maxRecDepth 20000
theorem own : ownKnob Try.prog.godebug = none := by kernel_rfl

theorem rtext_any (a : Option Addr) (len cap : Nat) (f : Nat → Int) (w : World) (h : RowB w a len cap f) :
    Calls Try.prog 9 #[.slice a len cap] w fun e w' => e = .returned (.tuple #[.string (txtS len f), .int .i64 (txtN len f)]) ∧ Below w.heap.size w w' := by
  rcases h with ⟨rfl, _⟩ | ⟨bb, off, h0, rfl, hb, h1, h2, hc⟩
  · exact rtext_none a cap w
  · obtain ⟨c0, r0, r1⟩ := hc 0 h0
    obtain ⟨b, hbb⟩ : ∃ b : Nat, b = (f 0).toNat := ⟨_, rfl⟩
    have lt : b < 256 := by omega
    have ef : f 0 = (b : Int) := by omega
    obtain ⟨l1, l7⟩ := len_in b lt
    obtain ⟨n3, n4⟩ := name_in b lt
    obtain ⟨l, hl⟩ : ∃ l : Nat, l = (lenOf b).toNat := ⟨_, rfl⟩
    have el : lenOf b = (l : Int) := by omega
    have k : ∀ w, Calls Try.prog 11 #[.int .i64 (f 0)] w fun e w' => e = .returned (.agg #[.string (nameOf b), .int .i64 (modeOf b), .int .i64 (l : Int), .int .i64 (cycOf b)]) ∧ Below w.heap.size w w' := by
      intro w
      have k := rof_any (b : Int) w
      rw [show ((b : Int) % 256).toNat = b by omega] at k
      rw [ef, ← el]
      exact k
    unfold txtS txtN
    rw [← hbb, el, Int.toNat_natCast]
    by_cases hs : len < l
    · rw [if_pos (by omega), if_pos (by omega)]
      exact rtext_short bb off len cap l f (nameOf b) (modeOf b) (cycOf b) w h0 (by omega) hs r0 r1 (by simpa using c0) k
    · rw [if_neg (by omega), if_neg (by omega)]
      exact rtext_full bb off len cap l f (nameOf b) (modeOf b) (cycOf b) w n4 hb (by omega) (by omega) (by omega) (Nat.le_trans h1 h2) hc k

theorem info_name (x y z u : Value) (w : World) : (Instr.field 27 (.agg #[x, y, z, u]) 0).run Try.prog w = .ok x w := by kernel_rfl

theorem tells_short (n : Int) (ma : Option Addr) (ml mc : Nat) (f : Nat → Int) (s : ByteArray) (m l c : Int) (w : World) (hml : ml ≤ 20) (hrow : RowB w ma ml mc f) (ts : ByteArray) (tn : Int) (ko : ∀ w, Calls Try.prog 10 #[.int .i64 n] w fun e w' => e = .returned (.agg #[.string s, .int .i64 m, .int .i64 l, .int .i64 c]) ∧ Below w.heap.size w w') (kr : ∀ w, Calls Try.prog 11 #[.int .i64 n] w fun e w' => e = .returned (.agg #[.string s, .int .i64 m, .int .i64 l, .int .i64 c]) ∧ Below w.heap.size w w') (kt : ∀ w, RowB w ma ml mc f → Calls Try.prog 8 #[.slice ma ml mc] w fun e w' => e = .returned (.tuple #[.string ts, .int .i64 tn]) ∧ Below w.heap.size w w') (ku : ∀ w, RowB w ma ml mc f → Calls Try.prog 9 #[.slice ma ml mc] w fun e w' => e = .returned (.tuple #[.string ts, .int .i64 tn]) ∧ Below w.heap.size w w') :
    Calls Try.prog 3 #[.int .i64 n, .slice ma ml mc] w fun e w' => e = .returned (.bool true) ∧ Below w.heap.size w w' := by
  have HR := hide hrow
  have KO := hide ko
  have KR := hide kr
  have KT := hide kt
  have KU := hide ku
  have KE := hide (fun w => (show Calls Try.prog 10 #[.int .i64 169] w fun e w' => e = .returned (.agg #[.string ⟨#[76, 68, 65]⟩, .int .i64 2, .int .i64 2, .int .i64 2]) ∧ Below w.heap.size w w' from of_byte 169 (by omega) w))
  have q2 := info_name
  clear hrow ko kr kt ku
  go_enter Try.func3, Try.ntmps3
  go_wp2_with fail
  skip
  refine (KT.out _ HR.out).mono ?_
  rintro e w1 ⟨rfl, b1⟩
  have B1 := hide b1
  clear b1
  go_wp2_with fail
  skip
  refine (KU.out _ (HR.out.next B1.out)).mono ?_
  rintro e w2 ⟨rfl, b2⟩
  have B2 := hide (bnext B1.out b2)
  clear b2 B1
  go_wp2_with fail
  refine (KO.out _).mono ?_
  rintro e w3 ⟨rfl, b3⟩
  have B3 := hide (bnext B2.out b3)
  clear b3 B2
  go_wp2_with fail
  refine (KR.out _).mono ?_
  rintro e w4 ⟨rfl, b4⟩
  have B4 := hide (bnext B3.out b4)
  clear b4 B3
  go_wp2_with fail
  refine (KE.out _).mono ?_
  rintro e w5 ⟨rfl, b5⟩
  have B5 := hide (bnext B4.out b5)
  clear b5 B4
  go_wp2
  go_ret
  exact ⟨rfl, B5.out⟩
theorem tells_long (n : Int) (ma : Option Addr) (len ml mc bb off : Nat) (f : Nat → Int) (s : ByteArray) (m l c : Int) (w : World) (hn : 20 < len) (hnc : len ≤ mc) (hmx : mc ≤ 9223372036854775807) (hmm : ml = 20) (ema : ma = some ⟨bb, off, none⟩) (hrow : RowB w ma ml mc f) (ts : ByteArray) (tn : Int) (ko : ∀ w, Calls Try.prog 10 #[.int .i64 n] w fun e w' => e = .returned (.agg #[.string s, .int .i64 m, .int .i64 l, .int .i64 c]) ∧ Below w.heap.size w w') (kr : ∀ w, Calls Try.prog 11 #[.int .i64 n] w fun e w' => e = .returned (.agg #[.string s, .int .i64 m, .int .i64 l, .int .i64 c]) ∧ Below w.heap.size w w') (kt : ∀ w, RowB w ma ml mc f → Calls Try.prog 8 #[.slice ma ml mc] w fun e w' => e = .returned (.tuple #[.string ts, .int .i64 tn]) ∧ Below w.heap.size w w') (ku : ∀ w, RowB w ma ml mc f → Calls Try.prog 9 #[.slice ma ml mc] w fun e w' => e = .returned (.tuple #[.string ts, .int .i64 tn]) ∧ Below w.heap.size w w') :
    Calls Try.prog 3 #[.int .i64 n, .slice ma len mc] w fun e w' => e = .returned (.bool true) ∧ Below w.heap.size w w' := by
  subst ema hmm
  have HR := hide hrow
  have KO := hide ko
  have KR := hide kr
  have KT := hide kt
  have KU := hide ku
  have KE := hide (fun w => (show Calls Try.prog 10 #[.int .i64 169] w fun e w' => e = .returned (.agg #[.string ⟨#[76, 68, 65]⟩, .int .i64 2, .int .i64 2, .int .i64 2]) ∧ Below w.heap.size w w' from of_byte 169 (by omega) w))
  have q2 := info_name
  clear hrow ko kr kt ku
  go_enter Try.func3, Try.ntmps3
  go_wp2_with fail
  skip
  refine (KT.out _ HR.out).mono ?_
  rintro e w1 ⟨rfl, b1⟩
  have B1 := hide b1
  clear b1
  go_wp2_with fail
  skip
  refine (KU.out _ (HR.out.next B1.out)).mono ?_
  rintro e w2 ⟨rfl, b2⟩
  have B2 := hide (bnext B1.out b2)
  clear b2 B1
  go_wp2_with fail
  refine (KO.out _).mono ?_
  rintro e w3 ⟨rfl, b3⟩
  have B3 := hide (bnext B2.out b3)
  clear b3 B2
  go_wp2_with fail
  refine (KR.out _).mono ?_
  rintro e w4 ⟨rfl, b4⟩
  have B4 := hide (bnext B3.out b4)
  clear b4 B3
  go_wp2_with fail
  refine (KE.out _).mono ?_
  rintro e w5 ⟨rfl, b5⟩
  have B5 := hide (bnext B4.out b5)
  clear b5 B4
  go_wp2
  go_ret
  exact ⟨rfl, B5.out⟩

theorem opcodeTells_walk (a0 : Int) (a1 : Option Addr) (len1 cap1 : Nat) (z1 : List Int) (w : World) (w0 : (Lit.int .i64 a0).wf = true) (w1 : IsRow .u8 w a1 len1 cap1 z1) :
    Calls Try.prog 3 #[.int .i64 a0, .slice a1 len1 cap1] w fun e w' => e = .returned (.bool true) ∧ Below w.heap.size w w' := by
  have ko := of_any a0
  have kr := rof_any a0
  by_cases h : len1 ≤ 20
  · exact tells_short a0 a1 len1 cap1 (fun i => z1.getD i 0) _ _ _ _ w h w1.rowB (txtS len1 (fun i => z1.getD i 0)) (txtN len1 (fun i => z1.getD i 0)) ko kr (fun w h => text_any _ _ _ _ w h) (fun w h => rtext_any _ _ _ _ w h)
  · obtain ⟨bb, off, ha, _, h1, h2, _⟩ := w1.cells (by omega)
    exact tells_long a0 a1 len1 20 cap1 bb off (fun i => z1.getD i 0) _ _ _ _ w (by omega) h1 (by simpa [maxLen] using h2) rfl ha (w1.cut (by omega)).rowB (txtS 20 (fun i => z1.getD i 0)) (txtN 20 (fun i => z1.getD i 0)) ko kr (fun w h => text_any _ _ _ _ w h) (fun w h => rtext_any _ _ _ _ w h)

set_option maxRecDepth 100000 in
theorem opcodeTells_lifted (os : Os) (started : os.Started) (H : Type) (enc : TypeId × Value → H) :
    ReturnsInHanded {} Try.checked os 3 .any (Rows.opcodeTellsSpec.pre6 enc Try.prog Try.f3 Rows.opcodeTellsRow.domain false) (Rows.opcodeTellsSpec.post enc Try.prog Try.f3 false true false false) := by
  refine returnsInHanded_of_change (C := Try.checked) own started (by kernel_rfl) Try.func3
    (ChangeSpec.witness6 (enc := enc) (C := Try.checked) false ⟨#[], #[.int .i64 0, .slice none 0 0], []⟩ 8 (by kernel_rfl) (by kernel_rfl) (by kernel_rfl) (by kernel_rfl)) ?_
  intro W base args ds gs before hval0 hW hcnd _
  have hval : ∀ (j : Nat) t v, Try.f3.params[j]? = some t → args[j]? = some v → Value.okWide Try.prog W .any base t v := hval0
  have hW' := hW
  obtain ⟨p, q, hA0, hV, rfl, hfz, hnd⟩ := hW
  have hA : DataW.TrodAll enc Try.prog W 0 (fun _ => true) true Try.f3.params.toList args.toList ds p := hA0
  rw [Try.params3] at hA hval
  obtain ⟨v0, vs0, d0, ds0, p0, q0, hargs, rfl, rfl, h0, r0⟩ := trodAll_cons hA
  obtain ⟨v1, vs1, d1, ds1, p1, q1, rfl, rfl, rfl, h1, r1⟩ := trodAll_cons r0
  obtain ⟨rfl, rfl, rfl⟩ := trodAll_nil r1
  obtain rfl : args = #[v0, v1] := by cases args; simp_all
  obtain ⟨rfl, rfl⟩ := trodVars_none hV
  obtain ⟨a0, rfl, rfl, rfl, w0⟩ := open_int Try.underlying3 (hval 0 3 v0 rfl rfl) h0
  obtain ⟨a1, len1, cap1, rfl⟩ := okWide_slice Try.underlying22 (hval 1 22 v1 rfl rfl)
  have k1 := h1
  have lt1 : ∀ x ∈ p1, x.block < W.heap.size := by obtain ⟨m, hm⟩ := k1; exact DataW.trod_lt m _ _ _ hm
  obtain ⟨z1, w1⟩ : ∃ zs, IsRow .u8 W a1 len1 cap1 zs := by
    obtain ⟨fuel, hf⟩ := h1
    rcases open_ints Try.underlying22 Try.underlying5 (by kernel_rfl) hf with ⟨hcs, _⟩ | ⟨x, l, c, zs, hcs, _, hl, hm, hz, _, hcell, hwz⟩
    · simp [Value.cells] at hcs
      obtain ⟨rfl, rfl, rfl⟩ := hcs
      exact ⟨[], .inl ⟨rfl, rfl, rfl, rfl⟩⟩
    · simp [Value.cells] at hcs
      obtain ⟨rfl, rfl, rfl⟩ := hcs
      exact ⟨zs, .inr ⟨_, rfl, hl, hm, by simpa using hz, hcell, hwz⟩⟩
  clear hA0 hval0
  refine (opcodeTells_walk a0 a1 len1 cap1 z1 W w0 w1).mono fun e W' ⟨he, bel⟩ => ?_
  subst he
  exact ⟨_, rfl, _, _, _, [], _, [], hW', trodAll_mk1 (shut_bool Try.underlying4 _), (trodAll_cons_mk (shut_int Try.underlying3 w0) (trodAll_cons_mk (Below.trod laidOut (by kernel_rfl) (of_decide_eq_true (by kernel_rfl)) k1 bel lt1) trodAll_mk0)), rfl, bel.frame _, fun h => by cases h⟩

theorem opcodeTells_over : Rows.opcodeTellsRow.holds Try.pinned (OpenSpec.ofChange Rows.opcodeTellsSpec) :=
  OpenClaim.holds_of_wide 3 Try.f3 rfl rfl rfl rfl rfl rfl rfl ⟨rfl, rfl, rfl, rfl, rfl⟩ rfl rfl rfl rfl rfl (by kernel_rfl) Try.func3 (by kernel_rfl)
    (of_decide_eq_true (by kernel_rfl)) (by unfold Func.isWrapper; first | (rw [if_pos (by decide +kernel)]; kernel_rfl) | (rw [if_neg (by decide +kernel)]; exact ⟨rfl, rfl⟩))
    (fun os started H enc _ => opcodeTells_lifted os started H enc)

theorem opcodeTells_holds : Rows.OpcodeTellsSaid := opcodeTells_over
#print axioms opcodeTells_holds
end Go.Proofs.Ytgenckilinmdoaa
