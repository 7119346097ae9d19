/- Texts put together. -/
import Derived.Test.YtnoggfnidaifkaaGreatDoorRows
import Derived.Test.YtnoggfnidaifkaaGreatDoorConsoleNobodyJ01
import Derived.Test.YtnoggfnidaifkaaGreatDoorConsoleNobodyJ28
import Derived.Maps.Own
import Derived.Maps.OwnOps
import Derived.WalkKit
import Derived.Below
import Derived.Test.YtnoggfnidaifkaaGreatDoorConsoleNobodyJ03
import Derived.Test.YtnoggfnidaifkaaGreatDoorConsoleNobodyJ30
import Derived.Laws.Rows
import Derived.Laws.ResultCell
import Derived.Laws.CopyOwn
import Derived.Deep.RegionWith
import Derived.WalkMore
import Derived.OneCell
import Derived.Handy
import Derived.Test.YtnoggfnidaifkaaGreatDoorConsoleNobodyJ29
import Derived.OpenShut
import Derived.ShutString
import Derived.ChangeOld
import Derived.ChangeKeysEq
import Derived.Deep.CutBlock
import Derived.Test.YtnoggfnidaifkaaGreatDoorConsoleNobodyJ27
namespace Go.Proofs.YtnoggfnidaifkaaGreatDoor.O7
set_option maxRecDepth 20000
open Go.RowKit Go.Maps
set_option linter.unusedVariables false
set_option maxRecDepth 20000
theorem keyI : Keyed Tryz.prog 3 := int_keyed Tryz.underlying3
theorem zeroI (w : World) : (zeroValue 3).run Tryz.prog w = .ok (.int .i64 0) w := by kernel_rfl
theorem put_in {w0 w : World} {b n : Nat} {D : DataW Unit} (h : w.ownsMap Tryz.prog 3 (plainElem Tryz.prog 3) b n D) (hw : Below b w0 w) (hn : n < 100) (k v : Int) (hk : (Lit.int .i64 k).wf = true) (hv : (Lit.int .i64 v).wf = true) :
    ∃ w', (∀ t, t = 339 → (Instr.mapUpdate t (.map (some b)) (.int .i64 k) (.int .i64 v)).run Tryz.prog w = .ok () w') ∧ w'.ownsMap Tryz.prog 3 (plainElem Tryz.prog 3) b (n + 1) (D.put (.int .i64 k) (.lit (.int .i64 v))) ∧ Below b w0 w' := by
  obtain ⟨w', hrun, r1, r2⟩ := h.update keyI Tryz.underlying339 (by unfold maxLen; omega) (keyOf_int_mk Tryz.underlying3 hk) (plainElem_int Tryz.underlying3 hv)
  exact ⟨w', fun t e => by rw [e]; exact hrun, r1, hw.grown r2 (Nat.le_of_lt h.lt) (fun j hj => by cases hj; exact Nat.le_refl _)⟩
theorem len_a (m : Int) (w : World) (h0 : 0 ≤ m) (h1 : m < 8) : Calls Tryz.prog 232 #[.int .i64 m] w fun e w' => e = .returned (.int .i64 (lenM m)) ∧ Below w.heap.size w w' := by
  have hwf : (Lit.int .i64 m).wf = true := WalkArith.wf_i64 (by omega)
  have hmm := @run_makeMap Tryz.prog
  have o0 := World.ownsMap_made w Tryz.prog 3 (plainElem (H := Unit) Tryz.prog 3)
  have b0 := (Below.refl w.heap.size w).alloc (Nat.le_refl _) (.map #[] 0)
  obtain ⟨w1, r1, o1, b1⟩ := put_in o0 b0 (by omega) 0 1 (by decide) (by decide)
  replace r1 := r1 339 rfl
  obtain ⟨w2, r2, o2, b2⟩ := put_in o1 b1 (by omega) 1 1 (by decide) (by decide)
  replace r2 := r2 339 rfl
  obtain ⟨w3, r3, o3, b3⟩ := put_in o2 b2 (by omega) 2 2 (by decide) (by decide)
  replace r3 := r3 339 rfl
  obtain ⟨w4, r4, o4, b4⟩ := put_in o3 b3 (by omega) 3 2 (by decide) (by decide)
  replace r4 := r4 339 rfl
  obtain ⟨w5, r5, o5, b5⟩ := put_in o4 b4 (by omega) 4 2 (by decide) (by decide)
  replace r5 := r5 339 rfl
  obtain ⟨w6, r6, o6, b6⟩ := put_in o5 b5 (by omega) 5 2 (by decide) (by decide)
  replace r6 := r6 339 rfl
  obtain ⟨w7, r7, o7, b7⟩ := put_in o6 b6 (by omega) 6 2 (by decide) (by decide)
  replace r7 := r7 339 rfl
  obtain ⟨w8, r8, o8, b8⟩ := put_in o7 b7 (by omega) 7 2 (by decide) (by decide)
  replace r8 := r8 339 rfl
  obtain ⟨c, hrun, hat, hwc⟩ := o8.lookup_int keyI Tryz.underlying339 Tryz.underlying3 (zeroI _) (keyOf_int_mk Tryz.underlying3 hwf)
  have HA := hide hat
  have BB := hide b8
  clear hat hwc
  clear o0 o1 o2 o3 o4 o5 o6 o7 o8 b0 b1 b2 b3 b4 b5 b6 b7 b8
  go_enter Tryz.func232, Tryz.ntmps232
  go_wp2
  go_ret
  refine ⟨ret_int ?_, BB.out⟩
  have hat := HA.out
  have hm : m = 0 ∨ m = 1 ∨ m = 2 ∨ m = 3 ∨ m = 4 ∨ m = 5 ∨ m = 6 ∨ m = 7 := by omega
  rcases hm with rfl | rfl | rfl | rfl | rfl | rfl | rfl | rfl
  all_goals
    simp [DataW.put, DataW.insert, DataW.atKey, Lit.sameKey, Lit.before] at hat
    rw [← hat]
    rfl
theorem len_b (m : Int) (w : World) (h0 : 8 ≤ m) (h1 : m < 16) : Calls Tryz.prog 232 #[.int .i64 m] w fun e w' => e = .returned (.int .i64 (lenM m)) ∧ Below w.heap.size w w' := by
  have hwf : (Lit.int .i64 m).wf = true := WalkArith.wf_i64 (by omega)
  have hd : m / 8 = 1 := by omega
  have hmm := @run_makeMap Tryz.prog
  have o0 := World.ownsMap_made w Tryz.prog 3 (plainElem (H := Unit) Tryz.prog 3)
  have b0 := (Below.refl w.heap.size w).alloc (Nat.le_refl _) (.map #[] 0)
  obtain ⟨w1, r1, o1, b1⟩ := put_in o0 b0 (by omega) 8 2 (by decide) (by decide)
  replace r1 := r1 339 rfl
  obtain ⟨w2, r2, o2, b2⟩ := put_in o1 b1 (by omega) 9 3 (by decide) (by decide)
  replace r2 := r2 339 rfl
  obtain ⟨w3, r3, o3, b3⟩ := put_in o2 b2 (by omega) 10 3 (by decide) (by decide)
  replace r3 := r3 339 rfl
  obtain ⟨w4, r4, o4, b4⟩ := put_in o3 b3 (by omega) 11 3 (by decide) (by decide)
  replace r4 := r4 339 rfl
  obtain ⟨w5, r5, o5, b5⟩ := put_in o4 b4 (by omega) 12 3 (by decide) (by decide)
  replace r5 := r5 339 rfl
  obtain ⟨w6, r6, o6, b6⟩ := put_in o5 b5 (by omega) 13 3 (by decide) (by decide)
  replace r6 := r6 339 rfl
  obtain ⟨w7, r7, o7, b7⟩ := put_in o6 b6 (by omega) 14 2 (by decide) (by decide)
  replace r7 := r7 339 rfl
  obtain ⟨w8, r8, o8, b8⟩ := put_in o7 b7 (by omega) 15 3 (by decide) (by decide)
  replace r8 := r8 339 rfl
  obtain ⟨c, hrun, hat, hwc⟩ := o8.lookup_int keyI Tryz.underlying339 Tryz.underlying3 (zeroI _) (keyOf_int_mk Tryz.underlying3 hwf)
  have HA := hide hat
  have BB := hide b8
  clear hat hwc
  clear o0 o1 o2 o3 o4 o5 o6 o7 o8 b0 b1 b2 b3 b4 b5 b6 b7 b8
  go_enter Tryz.func232, Tryz.ntmps232
  go_wp2
  go_ret
  refine ⟨ret_int ?_, BB.out⟩
  have hat := HA.out
  have hm : m = 8 ∨ m = 9 ∨ m = 10 ∨ m = 11 ∨ m = 12 ∨ m = 13 ∨ m = 14 ∨ m = 15 := by omega
  clear hd
  rcases hm with rfl | rfl | rfl | rfl | rfl | rfl | rfl | rfl
  all_goals
    simp [DataW.put, DataW.insert, DataW.atKey, Lit.sameKey, Lit.before] at hat
    rw [← hat]
    rfl
theorem len_c (m : Int) (w : World) (h0 : 16 ≤ m) (h1 : m < 21) : Calls Tryz.prog 232 #[.int .i64 m] w fun e w' => e = .returned (.int .i64 (lenM m)) ∧ Below w.heap.size w w' := by
  have hwf : (Lit.int .i64 m).wf = true := WalkArith.wf_i64 (by omega)
  have hd : m / 8 = 2 := by omega
  have hmm := @run_makeMap Tryz.prog
  have o0 := World.ownsMap_made w Tryz.prog 3 (plainElem (H := Unit) Tryz.prog 3)
  have b0 := (Below.refl w.heap.size w).alloc (Nat.le_refl _) (.map #[] 0)
  obtain ⟨w1, r1, o1, b1⟩ := put_in o0 b0 (by omega) 16 7 (by decide) (by decide)
  replace r1 := r1 339 rfl
  obtain ⟨w2, r2, o2, b2⟩ := put_in o1 b1 (by omega) 17 3 (by decide) (by decide)
  replace r2 := r2 339 rfl
  obtain ⟨w3, r3, o3, b3⟩ := put_in o2 b2 (by omega) 18 3 (by decide) (by decide)
  replace r3 := r3 339 rfl
  obtain ⟨w4, r4, o4, b4⟩ := put_in o3 b3 (by omega) 19 4 (by decide) (by decide)
  replace r4 := r4 339 rfl
  obtain ⟨w5, r5, o5, b5⟩ := put_in o4 b4 (by omega) 20 4 (by decide) (by decide)
  replace r5 := r5 339 rfl
  obtain ⟨c, hrun, hat, hwc⟩ := o5.lookup_int keyI Tryz.underlying339 Tryz.underlying3 (zeroI _) (keyOf_int_mk Tryz.underlying3 hwf)
  have HA := hide hat
  have BB := hide b5
  clear hat hwc
  clear o0 o1 o2 o3 o4 o5 b0 b1 b2 b3 b4 b5
  go_enter Tryz.func232, Tryz.ntmps232
  go_wp2
  go_ret
  refine ⟨ret_int ?_, BB.out⟩
  have hat := HA.out
  have hm : m = 16 ∨ m = 17 ∨ m = 18 ∨ m = 19 ∨ m = 20 := by omega
  clear hd
  rcases hm with rfl | rfl | rfl | rfl | rfl
  all_goals
    simp [DataW.put, DataW.insert, DataW.atKey, Lit.sameKey, Lit.before] at hat
    rw [← hat]
    rfl
theorem len_any (m : Int) (w : World) (h0 : 0 ≤ m) (h1 : m ≤ 20) : Calls Tryz.prog 232 #[.int .i64 m] w fun e w' => e = .returned (.int .i64 (lenM m)) ∧ Below w.heap.size w w' := by
  by_cases k : m < 8
  · exact len_a m w h0 k
  · by_cases k1 : m < 16
    · exact len_b m w (by omega) k1
    · exact len_c m w (by omega) (by omega)
end Go.Proofs.YtnoggfnidaifkaaGreatDoor.O7
namespace Go.Proofs.YtnoggfnidaifkaaGreatDoor.O7
set_option maxRecDepth 20000
open Go.RowKit
set_option linter.unusedVariables false
set_option maxRecDepth 20000
def infoC (b : Nat) : Array Value := #[.string (nameOf b), .int .i64 (modeOf b), .int .i64 (lenOf b), .int .i64 (cycOf b)]
theorem of_walk (n : Int) (b : Nat) (s : ByteArray) (m l c : Int) (w : World)
    (cb : ∀ w, Calls Tryz.prog 60 #[.int .i64 n] w fun e w' => e = .returned (.int .i64 (b : Int)) ∧ w' = w)
    (cr : ∀ w, Calls Tryz.prog 231 #[.int .i64 (b : Int)] w fun e w' => e = .returned (.agg #[.string s, .int .i64 m, .int .i64 c]) ∧ Below w.heap.size w w')
    (cl : ∀ w, Calls Tryz.prog 232 #[.int .i64 m] w fun e w' => e = .returned (.int .i64 l) ∧ Below w.heap.size w w') :
    Calls Tryz.prog 171 #[.int .i64 n] w fun e w' => e = .returned (.agg #[.string s, .int .i64 m, .int .i64 l, .int .i64 c]) ∧ Below w.heap.size w w' := by
  have CB := hide cb
  have CR := hide cr
  have CL := hide cl
  clear cb cr cl
  go_enter Tryz.func171, Tryz.ntmps171
  go_wp2_with fail
  refine (CB.out _).mono ?_
  rintro e w1 ⟨rfl, hw⟩
  subst w1
  go_wp2_with fail
  refine (CR.out _).mono ?_
  rintro e w1 ⟨rfl, b1⟩
  obtain ⟨wr, hwr⟩ : ∃ wr, wr = w1.alloc (.cells #[.string s, .int .i64 m, .int .i64 c] 322) := ⟨_, rfl⟩
  have s1 := b1.size
  have r2 := (b1.block w.heap.size (by simp)).trans (heap_alloc_new w _)
  have R2 := hide (show wr.heap[w.heap.size]? = some (.cells #[.string ⟨#[]⟩, .int .i64 0, .int .i64 0, .int .i64 0] 109 (0, 0)) by
    rw [hwr]; exact (((Below.refl w1.heap.size w1).alloc (Nat.le_refl _) _).block w.heap.size (lt_of_block r2)).trans r2)
  have hg : wr.heap[w1.heap.size]? = some (.cells #[.string s, .int .i64 m, .int .i64 c] 322 (0, 0)) := by rw [hwr]; exact heap_alloc_new w1 _
  have BW := hide (show Below w.heap.size w wr by rw [hwr]; exact (((Below.refl w.heap.size w).alloc (Nat.le_refl _) _).trans (b1.mono (by simp))).alloc (by simp at s1; omega) _)
  have LT := hide (lt_of_block hg)
  have c0 : wr.cell? ⟨w1.heap.size, 0, none⟩ = some (.string s) := by simp [World.cell?, hg]
  have c1 : wr.cell? ⟨w1.heap.size, 1, none⟩ = some (.int .i64 m) := by simp [World.cell?, hg]
  have c2 : wr.cell? ⟨w1.heap.size, 2, none⟩ = some (.int .i64 c) := by simp [World.cell?, hg]
  have k0 := kept_cell c0 LT.out
  have k1 := kept_cell c1 LT.out
  have k2 := kept_cell c2 LT.out
  clear r2 hg c0 c1 c2
  go_wp2_with fail
  rw [← hwr]
  clear hwr
  haveI := kept_some wr
  refine wp_region_kept_last _ _ (show _ = [_, _, _, _, _, _, _, _, _, _] ++ [_] from rfl) (by kernel_rfl) (by kernel_rfl) (by kernel_rfl) ?_
  repeat (go_big_quiet_step ((first
    | (go_at_call 232; exact kept_call (CL.out _)))))
  refine wpQuiet_nil ?_
  rintro _ ⟨wk, rfl⟩
  have R3 := hide ((wk.block w.heap.size (lt_of_block R2.out)).trans R2.out)
  have B3 := hide (bnext BW.out wk.below)
  clear CB CR CL k0 k1 k2 R2 BW LT
  go_wp2_with (first
    | (refine wpList_store_row rfl 109 (.tmp 2) (.tmp 16) rfl w.heap.size _ rfl rfl 109 _ R3.out (by kernel_rfl) rfl (by kernel_rfl) ?_))
  (try simp only [Exit.inBlock, Exit.then])
  refine bodyPost_ret (results_cell_row rfl _ _ w.heap.size 109 _ (0, 0) _ rfl (setRow_heap _ _ _ _ _ _ R3.out) Tryz.underlying109 rfl (by kernel_rfl)) rfl ?_
  exact ⟨rfl, below_setRow B3.out (Nat.le_refl _) _⟩
theorem of_any (n : Int) (w : World) : Calls Tryz.prog 171 #[.int .i64 n] w fun e w' => e = .returned (.agg (infoC (n % 256).toNat)) ∧ Below w.heap.size w w' := by
  obtain ⟨b, hb⟩ : ∃ b : Nat, b = (n % 256).toNat := ⟨_, rfl⟩
  have e : (b : Int) = n % 256 := by omega
  have lt : b < 256 := by omega
  rw [← hb]
  have hm := mode_in b lt
  exact of_walk n b (nameOf b) (modeOf b) (lenOf b) (cycOf b) w (fun w => by rw [e]; exact byte_any n w) (fun w => row_any b lt w) (fun w => len_any (modeOf b) w hm.1 hm.2)
end Go.Proofs.YtnoggfnidaifkaaGreatDoor.O7
namespace Go.Proofs.YtnoggfnidaifkaaGreatDoor.L25
set_option maxRecDepth 20000
open B4 C3 G6 I11 J23 K9 L24 M5 N8 O7 P22 R15 T10 V12 W13
open Go.RowKit
set_option linter.unusedVariables false
theorem HasQ.ext {w : World} {s b v c d : Nat} {bs : List Int} {nm : ByteArray} {I B : Nat → Int} {t : Bool} {Z : Nat → Nat → Int} (h : HasQ w s b v c d bs nm I B t Z) {I' B' : Nat → Int} (hI : ∀ j, j < 7 → I j = I' j) (hB : ∀ j, j < 6 → B j = B' j) : HasQ w s b v c d bs nm I' B' t Z := by
  refine ⟨h.1.ext fun j hj => ?_, h.2⟩
  unfold SP
  simp only [segs_cons]
  by_cases j0 : j < 6
  · rw [if_pos j0, if_pos j0]
  rw [if_neg j0, if_neg j0]
  by_cases j1 : j - 6 < 1
  · rw [if_pos j1, if_pos j1]
  rw [if_neg j1, if_neg j1]
  by_cases j2 : j - 6 - 1 < 1
  · rw [if_pos j2, if_pos j2]
  rw [if_neg j2, if_neg j2]
  by_cases j3 : j - 6 - 1 - 1 < 1
  · rw [if_pos j3, if_pos j3]
  rw [if_neg j3, if_neg j3]
  by_cases j4 : j - 6 - 1 - 1 - 1 < 1
  · rw [if_pos j4, if_pos j4]
  rw [if_neg j4, if_neg j4]
  by_cases j5 : j - 6 - 1 - 1 - 1 - 1 < 4
  · rw [if_pos j5, if_pos j5, hI 0 (by decide), hI 1 (by decide), hI 2 (by decide)]
  rw [if_neg j5, if_neg j5]
  by_cases j6 : j - 6 - 1 - 1 - 1 - 1 - 4 < 6
  · rw [if_pos j6, if_pos j6]
    unfold iv
    rw [hB _ j6]
  rw [if_neg j6, if_neg j6]
  by_cases j7 : j - 6 - 1 - 1 - 1 - 1 - 4 - 6 < 4
  · rw [if_pos j7, if_pos j7]
    exact congrArg (Value.int .i64) (hI _ (by omega))
  rw [if_neg j7, if_neg j7]
end Go.Proofs.YtnoggfnidaifkaaGreatDoor.L25
namespace Go.Proofs.YtnoggfnidaifkaaGreatDoor.A2
set_option maxRecDepth 20000
open Go.RowKit
theorem b0 : IsByte 0 := ⟨by decide, by decide⟩
end Go.Proofs.YtnoggfnidaifkaaGreatDoor.A2
namespace Go.Proofs.YtnoggfnidaifkaaGreatDoor
set_option maxRecDepth 20000
open Go.RowKit
set_option linter.unusedVariables false
def AlikeF (ks : List Nat) (a b : Act) : Prop := b.tmps.size = a.tmps.size ∧ b.defers = a.defers ∧ ∀ k, k ∈ ks → b.tmps[k]? = a.tmps[k]?
theorem AlikeF.refl (ks : List Nat) (a : Act) : AlikeF ks a a := ⟨rfl, rfl, fun _ _ => rfl⟩
theorem AlikeF.trans {ks : List Nat} {a b c : Act} (h : AlikeF ks a b) (k : AlikeF ks b c) : AlikeF ks a c := ⟨k.1.trans h.1, k.2.1.trans h.2.1, fun i hi => (k.2.2 i hi).trans (h.2.2 i hi)⟩
theorem AlikeF.put {ks : List Nat} (a : Act) (e : Nat) (v : Value) (h : ¬ e ∈ ks) : AlikeF ks a (a.put (some e) v) := by
  refine ⟨by simp [Act.put], rfl, fun k hk => ?_⟩
  simp only [Act.put]
  rw [Array.getElem?_setIfInBounds_ne]
  intro e1
  subst e1
  exact h hk
end Go.Proofs.YtnoggfnidaifkaaGreatDoor
namespace Go.Proofs.YtnoggfnidaifkaaGreatDoor.L25
set_option maxRecDepth 20000
open A2 B4 C3 G6 I11 J23 K9 L24 M5 N8 O7 P22 R15 T10 V12 W13
open Go.RowKit
set_option linter.unusedVariables false
def rkV (op a m p : Int) : Int := (doOf op (a % 256) (m % 256) (p % 256)).1
def rkP (op a m p : Int) : Int := (doOf op (a % 256) (m % 256) (p % 256)).2
def rkS (Z : Nat → Nat → Int) (op a m : Int) : Nat → Nat → Int := setR Z 4 (rkP op a m (Z 20 4))
end Go.Proofs.YtnoggfnidaifkaaGreatDoor.L25
namespace Go.Proofs.YtnoggfnidaifkaaGreatDoor.K9
set_option maxRecDepth 20000
open Go.RowKit
set_option linter.unusedVariables false
theorem under_name {P : Program} {c : Code} {Q : Exit → Act → World → Prop} {a : Act} {w : World} (h : ∀ wa, wa = w → Code.wp P c Q a wa) : Code.wp P c Q a w := h w rfl
end Go.Proofs.YtnoggfnidaifkaaGreatDoor.K9
