/- Package sprites: the contract of Line at video memory that a call made. -/
import Derived.Test.YtnhjhmfiapjenaaDoorRow18
import Derived.Test.YtnhjhmfiapjenaaDoorLay18
import Derived.Test.YtnhjhmfiapjenaaDoorWordsW13
import Derived.Test.YtnhjhmfiapjenaaDoorGenA
import Derived.Deep.CutRange
namespace Go.Proofs.YtnhjhmfiapjenaaDoor
open Go.RowKit
set_option linter.unusedVariables false

theorem load_bool {w : World} {k : Nat} {v : Bool} (h : w.cell? ⟨k, 0, none⟩ = some (.bool v)) : (loadVar 4 ⟨k, 0, none⟩).run Tryd.prog w = .ok (.bool v) w := by
  have e : (isAgg 4).run Tryd.prog w = .ok false w := by kernel_rfl
  unfold loadVar
  simp [Sem.run_bind, e, h]
theorem results_line {P : Program} {fn : Func} {p u q : Tmp} {ty tb : TypeId} (h : fn.results = #[.cell p ty, .tmp u, .cell q tb]) (tmps : Array Value) (w : World) (g k : Nat) (t : TypeId) (cs : Array Value) (fr : Nat × Nat) (d : TypeDesc) (v : Bool)
    (hp : tmps.getD p undef = .pointer (some ⟨g, 0, none⟩)) (hq : tmps.getD q undef = .pointer (some ⟨k, 0, none⟩)) (hg : w.heap[g]? = some (.cells cs t fr)) (hk : (loadVar tb ⟨k, 0, none⟩).run P w = .ok (.bool v) w)
    (hu : P.underlying ty = some d) (hd : (match d with | .struct _ | .array _ _ => true | _ => false) = true) (hi : (P.info? ty).map (·.size) = some cs.size) :
    (results fn tmps).run P w = .ok (.tuple #[.agg cs, tmps.getD u undef, .bool v]) w := by
  have hp' : tmps[p]?.getD undef = .pointer (some ⟨g, 0, none⟩) := by simpa using hp
  have hq' : tmps[q]?.getD undef = .pointer (some ⟨k, 0, none⟩) := by simpa using hq
  simp [results, h, hp', hq', asAddr, run_loadVar_row w g t ty cs fr d hg hu hd hi, hk]
/-- The world behind the first two rows that Line makes. -/
theorem pic_made {w1 wx : World} {z2 : Nat} {A B : Value} {o0 o1 : Obj} (h : wx = ((((w1.setCell ⟨z2, 0, none⟩ A).setCell ⟨z2, 1, none⟩ B).alloc o0).alloc o1).drew) (hz : w1.heap[z2]? = some (.cells #[.slice none 0 0, .slice none 0 0] 58 (0, 0))) :
    wx.heap[z2]? = some (.cells #[A, B] 58 (0, 0)) ∧ wx.heap[w1.heap.size]? = some o0 ∧ wx.heap[w1.heap.size + 1]? = some o1 ∧ OnlyE (fun k => k = z2) w1 wx := by
  have s1 := heap_setCell_same w1 z2 0 _ _ A hz
  have s2 := heap_setCell_same (w1.setCell ⟨z2, 0, none⟩ A) z2 1 _ _ B s1
  have e : ((w1.setCell ⟨z2, 0, none⟩ A).setCell ⟨z2, 1, none⟩ B).heap.size = w1.heap.size := by simp [World.setCell]
  obtain ⟨a0, a1, a2, a3⟩ := two_named (w := (w1.setCell ⟨z2, 0, none⟩ A).setCell ⟨z2, 1, none⟩ B) (o0 := o0) (o1 := o1) rfl
  rw [e] at a0 a1
  subst h
  exact ⟨(a3.block z2 (lt_of_block s2)).trans s2, a0, a1, ((((OnlyE.of (E := fun k => k = z2) (Below.refl _ w1)).set z2 0 A rfl).set z2 1 B rfl).trans (OnlyE.of a3)).drew⟩
theorem valsOf_falses (N : Nat) : Array.replicate N (Value.bool false) = (valsOf (fun _ => .bool false) N).toArray := by
  rw [← valsOf_false]
  simp
theorem snone_made (b : Nat) (m : Nat → Int) (wr rd st lo bu : Int) (w : World) (h : HasM w b true m wr rd st lo bu) : Calls Tryd.prog 34 #[.pointer (some ⟨b, 0, none⟩)] w fun e w' => e = .returned (.bool false) ∧ Below w.heap.size w w' := by
  have KW := hide (words_is b m wr rd st lo bu w h 0 1 0 rfl (by omega) (by omega))
  clear h
  go_enter Tryd.func34, Tryd.ntmps34
  go_wp2_with fail
  refine KW.out.mono ?_
  rintro e w1 ⟨rfl, _, b1⟩
  have B1 := hide b1
  clear b1
  go_wp2
  go_ret
  exact ⟨rfl, B1.out⟩
/-- The colours of a line, and whether they are in front. -/
def Shown (w : World) (c f N : Nat) (S : Nat → Pos) : Prop := w.heap[c]? = some (.cells (valsOf (fun j => .int .i64 (S j).1) N).toArray 3 (0, 0)) ∧ w.heap[f]? = some (.cells (valsOf (fun j => .bool (S j).2.1) N).toArray 4 (0, 0))
theorem Shown.next {w : World} {c f N : Nat} {S : Nat → Pos} (h : Shown w c f N S) {w' : World} (k : Below w.heap.size w w') : Shown w' c f N S := ⟨(k.block _ (lt_of_block h.1)).trans h.1, (k.block _ (lt_of_block h.2)).trans h.2⟩
theorem Shown.cj {w : World} {c f N : Nat} {S : Nat → Pos} (h : Shown w c f N S) (j : Nat) (hj : j < N) : w.cell? ⟨c, j, none⟩ = some (.int .i64 (S j).1) := by rw [cell_of_row w c j _ _ _ h.1, List.getElem?_toArray, valsOf_at _ _ _ hj]
theorem Shown.fj {w : World} {c f N : Nat} {S : Nat → Pos} (h : Shown w c f N S) (j : Nat) (hj : j < N) : w.cell? ⟨f, j, none⟩ = some (.bool (S j).2.1) := by rw [cell_of_row w f j _ _ _ h.2, List.getElem?_toArray, valsOf_at _ _ _ hj]
theorem Shown.lc {w : World} {c f N : Nat} {S : Nat → Pos} (h : Shown w c f N S) : c < w.heap.size := lt_of_block h.1
theorem Shown.lf {w : World} {c f N : Nat} {S : Nat → Pos} (h : Shown w c f N S) : f < w.heap.size := lt_of_block h.2
theorem end_made {w : World} {bw bp bh bo c f o N : Nat} {S : Nat → Pos} {v : Bool} (h : Pic w bw bp bh bo c f o N S) (ap : Apart bw bp bh bo c f o) (hv : anyHit N S = v) {u : World}
    (hu : u = (((w.setCell ⟨bp, 0, none⟩ (.slice (some ⟨c, 0, none⟩) N N)).setCell ⟨bp, 1, none⟩ (.slice (some ⟨f, 0, none⟩) N N)).setCell ⟨bh, 0, none⟩ (.bool v)).drew) :
    u.heap[bp]? = some (.cells #[.slice (some ⟨c, 0, none⟩) N N, .slice (some ⟨f, 0, none⟩) N N] 58 (0, 0)) ∧ u.cell? ⟨bh, 0, none⟩ = some (.bool v) ∧ Shown u c f N S ∧ ∀ B, B ≤ bp → B ≤ bh → Below B w u := by
  obtain ⟨h1, h2, h3, h4, h5, h6, h7⟩ := h
  obtain ⟨⟨a1, a2, a3, a4⟩, ⟨b1, b2, b3, b4⟩, ⟨d1, d2, d3, d4⟩, ⟨e1, e2, e3⟩, g1, g2, g3⟩ := ap
  have s1 := heap_setCell_same w bp 0 _ _ (.slice (some ⟨c, 0, none⟩) N N) h2
  have s2 := heap_setCell_same _ bp 1 _ _ (.slice (some ⟨f, 0, none⟩) N N) s1
  have s3 := set_far (b := bh) (x := 0) (v := .bool v) s2 b4
  have k1 := set_far (b := bp) (x := 1) (v := .slice (some ⟨f, 0, none⟩) N N) (set_far (b := bp) (x := 0) (v := .slice (some ⟨c, 0, none⟩) N N) h4 b4.symm) b4.symm
  have k2 := heap_setCell_same _ bh 0 _ _ (.bool v) k1
  subst hu
  refine ⟨s3, (cell_of_row _ bh 0 _ _ _ k2).trans rfl, ⟨?_, ?_⟩, fun B hp hh => (((Below.refl B w).setCell (p := ⟨bp, 0, none⟩) hp _).setCell (p := ⟨bp, 1, none⟩) hp _).setCell (p := ⟨bh, 0, none⟩) hh _ |>.drew⟩
  · exact set_far (set_far (set_far h5 b1.symm) b1.symm) e1.symm
  · exact set_far (set_far (set_far h6 b2.symm) b2.symm) e2.symm
theorem sline_no (b : Nat) (m : Nat → Int) (wr rd st lo bu : Int) (w : World) (h : HasM w b true m wr rd st lo bu) (T : Nat → Int) (y n : Int) (hn : n < 1 ∨ 512 < n) : Calls Tryd.prog 14 #[.pointer (some ⟨b, 0, none⟩), .agg (tabL T).toArray, .int .i64 y, .int .i64 n] w fun e w' => e = .returned (.tuple #[.agg #[.slice none 0 0, .slice none 0 0], .bool false, .bool false]) ∧ Below w.heap.size w w' := by
  have HM := hide h
  clear h
  have KN := hide (snone_made b m wr rd st lo bu)
  go_enter Tryd.func14, Tryd.ntmps14
  go_wp2_with fail
  go_step3
  go_wp2_with fail
  refine under_calls fun wa hwa => ?_
  obtain ⟨b0, b1, b2, b3, hs, BB⟩ := four_named hwa
  have T0 := hide b0
  have W0 := hide b1
  have P0 := hide b2
  have H0 := hide b3
  have B0 := hide BB
  clear hwa b0 b1 b2 b3 BB hs
  obtain ⟨z0, hz0⟩ : ∃ z, w.heap.size = z := ⟨_, rfl⟩
  obtain ⟨z1, hz1⟩ : ∃ z, w.heap.size + 1 = z := ⟨_, rfl⟩
  obtain ⟨z2, hz2⟩ : ∃ z, w.heap.size + 2 = z := ⟨_, rfl⟩
  obtain ⟨z3, hz3⟩ : ∃ z, w.heap.size + 3 = z := ⟨_, rfl⟩
  have HZ := hide (show w.heap.size ≤ z0 ∧ z0 < z1 ∧ z1 < z2 ∧ z2 < z3 by omega)
  try simp only [World.alloc_size, Nat.add_assoc]
  rw [hz1] at W0
  rw [hz2] at P0
  rw [hz3] at H0
  rw [hz0] at T0
  rw [hz3, hz2, hz1, hz0]
  clear hz0 hz1 hz2 hz3
  refine (KN.out wa (HM.out.next B0.out)).mono ?_
  rintro e w1 ⟨rfl, b1⟩
  have T1 := hide ((b1.block _ (lt_of_block T0.out)).trans T0.out)
  have W1 := hide ((b1.block _ (lt_of_block W0.out)).trans W0.out)
  have P1 := hide ((b1.block _ (lt_of_block P0.out)).trans P0.out)
  have H1 := hide ((b1.block _ (lt_of_block H0.out)).trans H0.out)
  have B1 := hide (bnext B0.out b1)
  clear b1 T0 W0 P0 H0 B0 KN
  have c0 := (cell_of_row w1 z1 0 _ _ _ W1.out).trans rfl
  have p0 := (cell_of_row w1 z2 0 _ _ _ P1.out).trans rfl
  have p1 := (cell_of_row w1 z2 1 _ _ _ P1.out).trans rfl
  have y0 := frozen_of_row w1 z2 0 _ _ P1.out
  have y1 := frozen_of_row w1 z2 1 _ _ P1.out
  have q0 := (cell_of_row w1 z3 0 _ _ _ H1.out).trans rfl
  have x0 := frozen_of_row w1 z3 0 _ _ H1.out
  have hne : z2 ≠ z3 := by have := HZ.out; omega
  have HL := hide (show w.heap.size ≤ z2 ∧ w.heap.size ≤ z3 by have := HZ.out; omega)
  rcases hn with hn | hn
  · have hd : decide (n < 1) = true := decide_eq_true hn
    go_wp2_with fail
    rw [Exit.noGoto_ret]
    refine bodyPost_ret (results_line rfl _ _ z2 z3 58 #[.slice none 0 0, .slice none 0 0] (0, 0) _ false rfl rfl ?_ (load_bool ?_) Tryd.underlying58 rfl (by kernel_rfl)) rfl ⟨rfl, ((B1.out.setCell (p := ⟨z2, 0, none⟩) HL.out.1 _).setCell (p := ⟨z2, 1, none⟩) HL.out.1 _).setCell (p := ⟨z3, 0, none⟩) HL.out.2 _⟩
    · exact set_far (heap_setCell_same _ z2 1 _ _ _ (heap_setCell_same w1 z2 0 _ _ _ P1.out)) hne
    · exact (cell_of_row _ z3 0 _ _ _ (heap_setCell_same _ z3 0 _ _ _ (set_far (set_far H1.out hne.symm) hne.symm))).trans rfl
  · have hd : decide (n < 1) = false := decide_eq_false (by omega)
    have he : decide (512 < n) = true := decide_eq_true hn
    go_wp2_with fail
    rw [Exit.noGoto_ret]
    refine bodyPost_ret (results_line rfl _ _ z2 z3 58 #[.slice none 0 0, .slice none 0 0] (0, 0) _ false rfl rfl ?_ (load_bool ?_) Tryd.underlying58 rfl (by kernel_rfl)) rfl ⟨rfl, ((B1.out.setCell (p := ⟨z2, 0, none⟩) HL.out.1 _).setCell (p := ⟨z2, 1, none⟩) HL.out.1 _).setCell (p := ⟨z3, 0, none⟩) HL.out.2 _⟩
    · exact set_far (heap_setCell_same _ z2 1 _ _ _ (heap_setCell_same w1 z2 0 _ _ _ P1.out)) hne
    · exact (cell_of_row _ z3 0 _ _ _ (heap_setCell_same _ z3 0 _ _ _ (set_far (set_far H1.out hne.symm) hne.symm))).trans rfl
theorem under_ret {P : Act → World → Prop} {a : Act} {w : World} (h : ∀ wa, wa = w → P a wa) : P a w := h w rfl
set_option maxHeartbeats 4000000 in
theorem sline_is (b : Nat) (m : Nat → Int) (wr rd st lo bu : Int) (w : World) (h : HasM w b true m wr rd st lo bu) (HH : Hid (HasHigh w)) (hw : Hid (Words (wordAt m))) (T : Nat → Int) (y n : Int) (N : Nat) (hn : n = (N : Int)) (hN0 : 1 ≤ N) (hN1 : N ≤ 512) : Calls Tryd.prog 14 #[.pointer (some ⟨b, 0, none⟩), .agg (tabL T).toArray, .int .i64 y, .int .i64 n] w fun e w' => ∃ c f : Nat, (w.heap.size ≤ c ∧ w.heap.size ≤ f) ∧
    e = .returned (.tuple #[.agg #[.slice (some ⟨c, 0, none⟩) N N, .slice (some ⟨f, 0, none⟩) N N], .bool (runT (wordAt m) T y 64).2.2, .bool (anyHit N (runT (wordAt m) T y 64).1)]) ∧ Shown w' c f N (runT (wordAt m) T y 64).1 ∧ Below w.heap.size w w' := by
  subst hn
  have HM := hide h
  clear h
  have KN := hide (snone_made b m wr rd st lo bu)
  go_enter Tryd.func14, Tryd.ntmps14
  go_wp2_with fail
  go_step3
  go_wp2_with fail
  refine under_calls fun wa hwa => ?_
  obtain ⟨b0, b1, b2, b3, hs, BB⟩ := four_named hwa
  have T0 := hide b0
  have W0 := hide b1
  have P0 := hide b2
  have H0 := hide b3
  have B0 := hide BB
  clear hwa b0 b1 b2 b3 BB hs
  obtain ⟨z0, hz0⟩ : ∃ z, w.heap.size = z := ⟨_, rfl⟩
  obtain ⟨z1, hz1⟩ : ∃ z, w.heap.size + 1 = z := ⟨_, rfl⟩
  obtain ⟨z2, hz2⟩ : ∃ z, w.heap.size + 2 = z := ⟨_, rfl⟩
  obtain ⟨z3, hz3⟩ : ∃ z, w.heap.size + 3 = z := ⟨_, rfl⟩
  have HZ := hide (show w.heap.size ≤ z0 ∧ z0 < z1 ∧ z1 < z2 ∧ z2 < z3 by omega)
  try simp only [World.alloc_size, Nat.add_assoc]
  rw [hz1] at W0
  rw [hz2] at P0
  rw [hz3] at H0
  rw [hz0] at T0
  rw [hz3, hz2, hz1, hz0]
  clear hz0 hz1 hz2 hz3
  refine (KN.out wa (HM.out.next B0.out)).mono ?_
  rintro e w1 ⟨rfl, b1⟩
  have T1 := hide ((b1.block _ (lt_of_block T0.out)).trans T0.out)
  have W1 := hide ((b1.block _ (lt_of_block W0.out)).trans W0.out)
  have P1 := hide ((b1.block _ (lt_of_block P0.out)).trans P0.out)
  have H1 := hide ((b1.block _ (lt_of_block H0.out)).trans H0.out)
  have B1 := hide (bnext B0.out b1)
  clear b1 T0 W0 P0 H0 B0 KN
  have c0 := (cell_of_row w1 z1 0 _ _ _ W1.out).trans rfl
  have p0 := (cell_of_row w1 z2 0 _ _ _ P1.out).trans rfl
  have p1 := (cell_of_row w1 z2 1 _ _ _ P1.out).trans rfl
  have y0 := frozen_of_row w1 z2 0 _ _ P1.out
  have y1 := frozen_of_row w1 z2 1 _ _ P1.out
  have l1 := lt_of_block W1.out
  have l2 := lt_of_block P1.out
  have hmk := make_ints (N : Int) (by omega) (by omega)
  simp only [Int.toNat_natCast] at hmk
  have hmb := mk_bools N (by omega)
  have hd1 : decide ((N : Int) < 1) = false := decide_eq_false (by omega)
  have hd2 : decide ((512 : Int) < N) = false := decide_eq_false (by omega)
  go_upto_region 3 with fail
  go_cut [35] from 31 to 35 (fun _ wx => ∃ c f : Nat, (w1.heap.size ≤ c ∧ w1.heap.size ≤ f ∧ c ≠ f) ∧ wx.heap[z2]? = some (.cells #[.slice (some ⟨c, 0, none⟩) N N, .slice (some ⟨f, 0, none⟩) N N] 58 (0, 0)) ∧ wx.heap[c]? = some (.cells (zerosL N).toArray 3 (0, 0)) ∧ wx.heap[f]? = some (.cells (Array.replicate N (Value.bool false)) 4 (0, 0)) ∧ OnlyE (fun k => k = z2) w1 wx)
  case first =>
    go_region
    all_goals (go_wp2_with fail)
    all_goals go_meet
    · obtain ⟨k1, k2, k3, k4⟩ := pic_made (w1 := w1) (z2 := z2) (A := .slice (some ⟨w1.heap.size, 0, none⟩) N N) (B := .slice (some ⟨w1.heap.size + 1, 0, none⟩) N N) rfl P1.out
      exact ⟨w1.heap.size, w1.heap.size + 1, ⟨by omega, by omega, by omega⟩, k1, k2, k3, k4⟩
    · obtain ⟨k1, k2, k3, k4⟩ := pic_made (w1 := w1) (z2 := z2) (A := .slice (some ⟨w1.heap.size + 1, 0, none⟩) N N) (B := .slice (some ⟨w1.heap.size, 0, none⟩) N N) rfl P1.out
      exact ⟨w1.heap.size + 1, w1.heap.size, ⟨by omega, by omega, by omega⟩, k1, k3, k2, k4⟩
  obtain ⟨c, f, ⟨hc, hf, hcf⟩, p2, r2, q2, o2⟩ := hcut
  have HC := hide (show z3 < c ∧ z3 < f ∧ c ≠ f by have := lt_of_block H1.out; omega)
  have T2 := hide (o2.obj T1.out (by have := HZ.out; omega))
  have W2 := hide (o2.obj W1.out (by have := HZ.out; omega))
  have H2 := hide (o2.obj H1.out (by have := HZ.out; omega))
  have P2 := hide p2
  have R2 := hide r2
  have Q2 := hide q2
  have B2 := hide (show Below w.heap.size w wc from B1.out.trans (o2.below (fun k e => by rw [e]; have := HZ.out; omega) B1.out.size))
  clear hc hf hcf p2 r2 q2 o2 T1 W1 H1 P1 B1 c0 p0 p1 y0 y1 l1 l2 hmk
  have c0 := (cell_of_row wc z1 0 _ _ _ W2.out).trans rfl
  have l1 := lt_of_block W2.out
  go_wp2_with fail
  refine under_name fun wd hwd => ?_
  obtain ⟨o0, o1, hs, BB⟩ := two_named hwd
  have hlc := lt_of_block R2.out
  have hlf := lt_of_block Q2.out
  have HA := hide (show Apart z1 z2 z3 (wc.heap.size + 1) c f wc.heap.size ∧ (z0 ≠ c ∧ z0 ≠ f ∧ z0 ≠ wc.heap.size ∧ z0 ≠ z3) ∧ (c < wd.heap.size ∧ f < wd.heap.size ∧ wc.heap.size < wd.heap.size ∧ wc.heap.size + 1 < wd.heap.size ∧ z3 < wd.heap.size) ∧ (w.heap.size ≤ c ∧ w.heap.size ≤ f ∧ w.heap.size ≤ wc.heap.size ∧ w.heap.size ≤ z3 ∧ w.heap.size ≤ z2) by
    have h1 := HZ.out
    have h2 := HC.out
    unfold Apart
    omega)
  have PD := hide (show Pic wd z1 z2 z3 (wc.heap.size + 1) c f wc.heap.size N (runT (wordAt m) T y 0).1 by
    refine ⟨(BB.block _ (lt_of_block W2.out)).trans W2.out, (BB.block _ (lt_of_block P2.out)).trans P2.out, o1, ?_, ?_, ?_, ?_⟩
    · rw [(BB.block _ (lt_of_block H2.out)).trans H2.out]
      have e : anyHit N (runT (wordAt m) T y 0).1 = false := by
        rw [Bool.eq_false_iff]
        intro h
        obtain ⟨x, _, k⟩ := (anyHit_iff _ _).1 h
        cases k
      rw [e]
    · rw [(BB.block _ (lt_of_block R2.out)).trans R2.out, valsOf_zeros]; rfl
    · rw [(BB.block _ (lt_of_block Q2.out)).trans Q2.out, valsOf_falses]; rfl
    · rw [o0, valsOf_falses]; rfl)
  have TD := hide (show wd.heap[z0]? = some (.cells (tabL T).toArray 30 (0, 0)) from (BB.block _ (lt_of_block T2.out)).trans T2.out)
  have BD := hide (bnext B2.out BB)
  clear hwd o0 o1 hs BB hlc hlf T2 W2 H2 P2 R2 Q2 B2 c0 l1 HC HZ hmb
  obtain ⟨bo, hbo⟩ : ∃ bo, wc.heap.size + 1 = bo := ⟨_, rfl⟩
  rw [hbo] at HA PD ⊢
  clear hbo
  obtain ⟨o, ho⟩ : ∃ o, wc.heap.size = o := ⟨_, rfl⟩
  rw [ho] at HA PD ⊢
  clear ho
  obtain ⟨D, hD⟩ : ∃ D, wd.heap.size = D := ⟨_, rfl⟩
  rw [hD] at HA
  have HD := hide hD
  clear hD
  obtain ⟨G, hG⟩ : ∃ G, wordAt m = G := ⟨_, rfl⟩
  rw [hG] at PD
  have HG := hide hG
  clear hG
  go_step3
  go_wp2_with fail
  go_loopw [9, 13, 39] (fun s9 s13 s39 wr => ∃ k : Nat, k ≤ 64 ∧ s39 = .int .i64 (k : Int) ∧ s9 = .bool false ∧ s13 = .int .i64 (runT G T y k).2.1 ∧ (runT G T y k).2.2 = false ∧ Pic wr z1 z2 z3 bo c f o N (runT G T y k).1 ∧ wr.heap[z0]? = some (.cells (tabL T).toArray 30 (0, 0)) ∧ D ≤ wr.heap.size ∧ Below w.heap.size w wr) (fun _ _ s39 _ => 64 - (intOf s39).toNat)
  case atStart => exact ⟨0, Nat.zero_le _, rfl, rfl, rfl, rfl, PD.out, TD.out, Nat.le_of_eq HD.out.symm, BD.out⟩
  case round =>
    obtain ⟨k, hk, rfl, rfl, rfl, hov, hp, ht, hdd, hb⟩ := hrel
    have PK := hide hp
    have TK := hide ht
    have DK := hide hdd
    have BK := hide hb
    have VK := hide hov
    clear hp ht hdd hb hov PD TD BD HD
    by_cases hlt : k < 64
    · have MZ := hide (fun u (hu : HasHigh u) => made_any (T (4 * k)) (T (4 * k + 1)) (T (4 * k + 2)) (T (4 * k + 3)) u hu)
      obtain ⟨a0, ha0⟩ : ∃ a, T (4 * k) = a := ⟨_, rfl⟩
      obtain ⟨a1, ha1⟩ : ∃ a, T (4 * k + 1) = a := ⟨_, rfl⟩
      obtain ⟨a2, ha2⟩ : ∃ a, T (4 * k + 2) = a := ⟨_, rfl⟩
      obtain ⟨a3, ha3⟩ : ∃ a, T (4 * k + 3) = a := ⟨_, rfl⟩
      have tab : ∀ j, j < 256 → wr.cell? ⟨z0, j, none⟩ = some (.int .i64 (T j)) := fun j hj => by rw [cell_of_row wr z0 j _ _ _ TK.out, List.getElem?_toArray]; exact valsOf_at _ _ _ hj
      have t0 := tab (4 * k) (by omega)
      have t1 := tab (4 * k + 1) (by omega)
      have t2 := tab (4 * k + 2) (by omega)
      have t3 := tab (4 * k + 3) (by omega)
      clear tab
      rw [ha0] at t0 MZ
      rw [ha1] at t1 MZ
      rw [ha2] at t2 MZ
      rw [ha3] at t3 MZ
      unfold oneV at MZ
      obtain ⟨X, hX⟩ : ∃ X, sprX a1 = X := ⟨_, rfl⟩
      obtain ⟨Y, hY⟩ : ∃ Y, sprY a0 = Y := ⟨_, rfl⟩
      obtain ⟨W, hW⟩ : ∃ W, sprW a3 = W := ⟨_, rfl⟩
      obtain ⟨H, hH⟩ : ∃ H, sprH a3 = H := ⟨_, rfl⟩
      obtain ⟨C, hC⟩ : ∃ C, sprC a2 W H = C := ⟨_, rfl⟩
      obtain ⟨P, hP⟩ : ∃ P, sprP a3 = P := ⟨_, rfl⟩
      obtain ⟨fr, hfr⟩ : ∃ f, sprB a3 7 = f := ⟨_, rfl⟩
      obtain ⟨fx, hfx⟩ : ∃ f, sprB a3 11 = f := ⟨_, rfl⟩
      obtain ⟨fy, hfy⟩ : ∃ f, sprB a3 15 = f := ⟨_, rfl⟩
      rw [hX, hY, hW, hH, hC, hP, hfr, hfx, hfy] at MZ
      have bX := sprX_le a1
      have bY := sprY_le a0
      have bW := sprW_is a3
      have bH := sprH_is a3
      have bC := sprC_le a2 W H
      have bP := sprP_le a3
      rw [hX] at bX
      rw [hY] at bY
      rw [hW] at bW
      rw [hH] at bH
      rw [hC] at bC
      rw [hP] at bP
      have EON := hide (show onT T y k = (decide (Y ≤ y) && decide (y < Y + H)) by unfold onT; rw [ha0, ha3, hY, hH])
      have ECE := hide (show cellsT T k = W / 16 by unfold cellsT; rw [ha3, hW])
      have EST := hide (show ∀ S, stepT G T y k S = partS (k == 0) P fr (fun i => pixS G C W H fx fy (y - Y) i) X S W from fun S => by
        unfold stepT
        rw [ha1, ha3, hP, hfr, hX, hW, show dotT G T y k = fun i => pixS G C W H fx fy (y - Y) i from funext fun i => by unfold dotT; rw [ha0, ha2, ha3, hW, hH, hC, hfx, hfy, hY]])
      clear ha0 ha1 ha2 ha3 hX hY hW hH hC hP hfr hfx hfy
      obtain ⟨q, hq⟩ : ∃ q, 4 * k = q := ⟨_, rfl⟩
      have eq : 4 * (k : Int) = (q : Int) := by omega
      have hq2 : q ≤ 252 := by omega
      rw [hq] at t0 t1 t2 t3
      have Z0 := hide t0
      have Z1 := hide t1
      have Z2 := hide t2
      have Z3 := hide t3
      clear hq t0 t1 t2 t3
      obtain ⟨tk, htk⟩ : ∃ tk, (runT G T y k).2.1 = tk := ⟨_, rfl⟩
      have btk := runT_taken G T y k
      rw [htk] at btk ⊢
      have ETK := hide htk
      clear htk
      go_wp2_with fail
      have hd64 : decide ((k : Int) < 64) = true := decide_eq_true (by omega)
      try simp only [hd64]
      clear hd64
      refine wp_region_one _ _ _ (show _ = ([_, _, _, _, _, _, _, _, _, _, _, _, _, _, _, _, _, _, _, _] ++ [_]) ++ [_] from rfl) #[.int .i64 0, .int .i64 0, .int .i64 0, .int .i64 0, .int .i64 0, .int .i64 0, .bool false, .bool false, .bool false] 86 117 15 (by kernel_rfl) (by kernel_rfl) (by kernel_rfl) (by kernel_rfl) rfl ?_ ?_
      · intro a w
        set_option maxRecDepth 100000 in
        rfl
      apply Exists.intro
      refine ⟨fun V hV => ?_, ?_⟩
      · have i0 := kept_cell ((hV.cell (p := ⟨z0, q, none⟩) (lt_of_block TK.out)).trans Z0.out) (Nat.lt_of_lt_of_le (lt_of_block TK.out) hV.size)
        have i1 := kept_cell ((hV.cell (p := ⟨z0, q + 1, none⟩) (lt_of_block TK.out)).trans Z1.out) (Nat.lt_of_lt_of_le (lt_of_block TK.out) hV.size)
        have i2 := kept_cell ((hV.cell (p := ⟨z0, q + 2, none⟩) (lt_of_block TK.out)).trans Z2.out) (Nat.lt_of_lt_of_le (lt_of_block TK.out) hV.size)
        have i3 := kept_cell ((hV.cell (p := ⟨z0, q + 3, none⟩) (lt_of_block TK.out)).trans Z3.out) (Nat.lt_of_lt_of_le (lt_of_block TK.out) hV.size)
        have hb := HH.out.next (bnext BK.out hV)
        have KM := hide (fun (x : Kept V) => MZ.out x.val (hb.next x.below))
        clear hV hb
        haveI := kept_some V
        repeat (go_big_quiet_step ((first
          | (go_at_call 36; exact kept_call (KM.out _)))))
        refine wpQuiet_nil ?_
        rfl
      intro g wx bx hg lg
      clear Z0 Z1 Z2 Z3 MZ
      simp only [Act.put, List.setIfInBounds_toArray, List.set_cons_succ, List.set_cons_zero]
      refine wpList_store_row rfl 86 (.tmp 15) (.tmp 61) rfl g _ rfl rfl 86 _ hg (by kernel_rfl) rfl (by kernel_rfl) ?_
      refine under_list fun wb hwb => ?_
      have ng : ∀ j, j < wr.heap.size → j ≠ g := fun j hj e => by omega
      have OB := hide (show HasO wb g X Y C W H P fr fx fy by rw [hwb]; exact setRow_heap _ _ _ _ _ _ hg)
      have nb : Below wr.heap.size wr wb := by rw [hwb]; exact below_setRow bx lg _
      have PB := hide (PK.out.next nb)
      have TB := hide ((nb.block _ (lt_of_block TK.out)).trans TK.out)
      have BB := hide (bnext BK.out nb)
      have DB := hide (show D ≤ g ∧ D ≤ wb.heap.size from ⟨Nat.le_trans DK.out lg, Nat.le_trans DK.out nb.size⟩)
      clear hwb nb ng bx hg lg PK TK BK DK
      simp only [Act.put]
      have c1 := OB.out.c1
      have c3 := OB.out.c3
      have c4 := OB.out.c4
      have e16 : Int.tdiv W 16 = W / 16 := Int.tdiv_eq_ediv_of_nonneg (by omega)
      have bW2 : W / 16 = 1 ∨ W / 16 = 2 := by omega
      by_cases hY : y < Y
      · have hd1 : decide (y < Y) = true := decide_eq_true hY
        have EN := hide (runT_off G T y k (by rw [EON.out, decide_eq_false (by omega)]; rfl))
        set_option maxRecDepth 20000 in
        go_wp2_with fail
        go_roundw
        case rel => exact ⟨k + 1, by omega, by go_num, rfl, by rw [EN.out, ETK.out], by rw [EN.out]; exact VK.out, by rw [EN.out]; exact PB.out, TB.out, DB.out.2, BB.out⟩
        case measure => simp [intOf]; omega
      · have hd1 : decide (y < Y) = false := decide_eq_false hY
        by_cases hY2 : Y + H ≤ y
        · have hd2 : decide (Y + H ≤ y) = true := decide_eq_true hY2
          have EN := hide (runT_off G T y k (by rw [EON.out, decide_eq_false (show ¬ y < Y + H by omega)]; simp))
          set_option maxRecDepth 20000 in
          go_wp2_with fail
          go_roundw
          case rel => exact ⟨k + 1, by omega, by go_num, rfl, by rw [EN.out, ETK.out], by rw [EN.out]; exact VK.out, by rw [EN.out]; exact PB.out, TB.out, DB.out.2, BB.out⟩
          case measure => simp [intOf]; omega
        · have hd2 : decide (Y + H ≤ y) = false := decide_eq_false hY2
          have EO := hide (show onT T y k = true by rw [EON.out, decide_eq_true (show Y ≤ y by omega), decide_eq_true (show y < Y + H by omega)]; rfl)
          by_cases hm : 16 < tk + W / 16
          · have hd3 : decide (16 < tk + W / 16) = true := decide_eq_true hm
            have E64 : Hid (runT G T y 64 = ((runT G T y k).1, (runT G T y k).2.1, true)) := by
              have e1 := runT_many G T y k VK.out EO.out (by rw [ETK.out, ECE.out]; exact hm)
              have e2 := runT_over G T y (k + 1) (by rw [e1]) (63 - k)
              rw [show k + 1 + (63 - k) = 64 by omega] at e2
              rw [e2, e1]
              exact hide rfl
            go_wp2_with fail
            obtain ⟨SE, hSE⟩ : ∃ S, (runT G T y k).1 = S := ⟨_, rfl⟩
            rw [hSE] at PB E64
            clear hSE
            obtain ⟨we, hwe⟩ : ∃ we, we = wb := ⟨_, rfl⟩
            rw [← hwe] at PB BB ⊢
            clear hwe
            have PE := hide PB.out
            clear PB
            have p0 := PE.out.p0
            have p1 := PE.out.p1
            have h0 := PE.out.h0
            have y0 := frozen_of_row we z2 0 _ _ PE.out.2.1
            have y1 := frozen_of_row we z2 1 _ _ PE.out.2.1
            have x0 := PE.out.zh
            obtain ⟨hv, ehv⟩ : ∃ hv, anyHit N SE = hv := ⟨_, rfl⟩
            rw [ehv] at h0
            have EH := hide ehv
            clear ehv
            have hne : z2 ≠ z3 := HA.out.1.2.1.2.2.2
            go_wp2_with fail
            go_region
            go_wp2_with fail
            refine under_ret fun wf hwf => ?_
            obtain ⟨f1, f2, f3, f4⟩ := end_made PE.out HA.out.1 EH.out hwf
            try rw [Exit.noGoto_ret]
            refine bodyPost_ret (results_line rfl _ _ z2 z3 58 #[.slice (some ⟨c, 0, none⟩) N N, .slice (some ⟨f, 0, none⟩) N N] (0, 0) _ hv rfl rfl f1 (load_bool f2) Tryd.underlying58 rfl (by kernel_rfl)) rfl ⟨c, f, ⟨HA.out.2.2.2.1, HA.out.2.2.2.2.1⟩, ?_, ?_, ?_⟩
            · rw [HG.out, E64.out, EH.out]; rfl
            · rw [HG.out, E64.out]; exact f3
            · exact BB.out.trans (f4 _ HA.out.2.2.2.2.2.2.2 HA.out.2.2.2.2.2.2.1)
          · have hd3 : decide (16 < tk + W / 16) = false := decide_eq_false hm
            have KR := hide (fun u (hu : Below w.heap.size w u) => srow_is (some ⟨b, 0, none⟩) G (by rw [← HG.out]; exact hw.out) X Y C W H P (y - Y) fr fx fy u ((by rw [← HG.out]; exact tells_made HM.out : Tells (some ⟨b, 0, none⟩) G w).next hu) bW bC.1 bC.2 bH (by omega) (by omega))
            go_wp2_with (first | (refine wpList_load_row rfl 86 (.tmp 15) rfl g rfl _ _ _ _ OB.out Tryd.underlying86 rfl (by kernel_rfl) ?_))
            refine (KR.out _ BB.out).mono ?_
            rintro e w2 ⟨rfl, b2⟩
            have F0 : Hid (∀ i : Int, 0 ≤ pixS G C W H fx fy (y - Y) i ∧ pixS G C W H fx fy (y - Y) i < 16) := hide (pixS_le G C W H fx fy (y - Y))
            obtain ⟨F, hF⟩ : ∃ F : Int → Int, (fun i => pixS G C W H fx fy (y - Y) i) = F := ⟨_, rfl⟩
            have FF : Hid (∀ i : Int, 0 ≤ F i ∧ F i < 16) := by rw [← hF]; exact F0
            have eF : (fun (j : Nat) => Value.int .i64 (if (j : Int) < W then pixS G C W H fx fy (y - Y) (j : Int) else 0)) = fun (j : Nat) => Value.int .i64 (if (j : Int) < W then F (j : Int) else 0) := by rw [← hF]
            rw [eF]
            rw [hF] at EST
            clear F0 hF eF
            have I5 := hide (info_32 (fun j => Value.int .i64 (if (j : Int) < W then F (j : Int) else 0)))
            have T5 := hide (ints_one (fun j => if (j : Int) < W then F (j : Int) else 0) 32)
            have S5 := hide (show 32 = (valsOf (fun j => Value.int .i64 (if (j : Int) < W then F (j : Int) else 0)) 32).toArray.size by rw [valsOf_size])
            have O2 := hide (OB.out.next b2)
            have P2 := hide (PB.out.next b2)
            have T2 := hide ((b2.block _ (lt_of_block TB.out)).trans TB.out)
            have B2 := hide (bnext BB.out b2)
            have D2 := hide (show D ≤ g ∧ g < w2.heap.size ∧ D ≤ w2.heap.size from ⟨DB.out.1, Nat.lt_of_lt_of_le OB.out.lt b2.size, Nat.le_trans DB.out.2 b2.size⟩)
            clear b2 OB PB TB BB DB KR c1 c3 c4
            obtain ⟨VL, hVL⟩ : ∃ VL, valsOf (fun j => Value.int .i64 (if (j : Int) < W then F (j : Int) else 0)) 32 = VL := ⟨_, rfl⟩
            rw [hVL] at I5 T5 S5 ⊢
            have HV := hide hVL
            clear hVL
            obtain ⟨L, hL, hL2⟩ : ∃ L : Nat, W = (L : Int) ∧ (L = 16 ∨ L = 32) := by
              rcases bW with e | e
              · exact ⟨16, e, .inl rfl⟩
              · exact ⟨32, e, .inr rfl⟩
            have c3 := (O2.out.next ((Below.refl _ w2).alloc (Nat.le_refl _) (.cells #[] 89))).c3
            clear c3
            go_wp2_with (first
              | (refine wpList_store_row rfl 89 (.tmp 17) (.tmp 93) rfl w2.heap.size _ rfl rfl 89 _ (heap_alloc_new _ _) I5.out S5.out T5.out ?_
                 refine under_list fun w3 hw3 => ?_
                 have n3 : Below w2.heap.size w2 w3 := by rw [hw3]; exact below_setRow ((Below.refl _ w2).alloc (Nat.le_refl _) _) (Nat.le_refl _) _
                 have X3 := hide (show Has32 w3 w2.heap.size (fun j => if (j : Int) < W then F (j : Int) else 0) by rw [hw3]; unfold Has32; rw [HV.out]; exact setRow_heap _ _ _ _ _ _ (heap_alloc_new _ _))
                 have O3 := hide (O2.out.next n3)
                 have P3 := hide (P2.out.next n3)
                 have T3 := hide ((n3.block _ (lt_of_block T2.out)).trans T2.out)
                 have B3 := hide (bnext B2.out n3)
                 have D3 := hide (show D ≤ g ∧ g < w2.heap.size ∧ D ≤ w2.heap.size ∧ D ≤ w3.heap.size from ⟨D2.out.1, D2.out.2.1, D2.out.2.2, Nat.le_trans D2.out.2.2 n3.size⟩)
                 clear hw3 n3 O2 P2 T2 B2 D2 I5 T5 S5 HV
                 have c3 := O3.out.c3
                 have CU := cut_32 w2.heap.size L (by omega)
                 rw [← hL] at CU
                 have HL := hide (show W = (L : Int) ∧ (L = 16 ∨ L = 32) from ⟨hL, hL2⟩)
                 clear hL))
            clear CU c3
            obtain ⟨gp, hgp⟩ : ∃ gp, w2.heap.size = gp := ⟨_, rfl⟩
            rw [hgp] at X3 D3 ⊢
            clear hgp
            obtain ⟨SK, hSK⟩ : ∃ S, (runT G T y k).1 = S := ⟨_, rfl⟩
            have EK := hide hSK
            rw [hSK] at P3
            clear hSK
            obtain ⟨first, hfi⟩ : ∃ first, (k == 0) = first := ⟨_, rfl⟩
            have EF := hide (show ((k : Int) == 0) = first by rw [← hfi, Bool.eq_iff_iff]; simp)
            rw [hfi] at EST
            clear hfi
            go_loopw [98] (fun s98 wr => ∃ i : Nat, i ≤ L ∧ s98 = .int .i64 (i : Int) ∧ Pic wr z1 z2 z3 bo c f o N (partS first P fr F X SK (i : Int)) ∧ HasO wr g X Y C W H P fr fx fy ∧ Has32 wr gp (fun j => if (j : Int) < W then F (j : Int) else 0) ∧ wr.heap[z0]? = some (.cells (tabL T).toArray 30 (0, 0)) ∧ D ≤ wr.heap.size ∧ Below w.heap.size w wr) (fun s98 _ => L - (intOf s98).toNat)
            case atStart => exact ⟨0, Nat.zero_le _, rfl, by rw [show ((0 : Nat) : Int) = 0 from rfl, partS_zero]; exact P3.out, O3.out, X3.out, T3.out, D3.out.2.2.2, B3.out⟩
            case round =>
              obtain ⟨i, hi, rfl, hp, ho, hx, ht, hd, hb⟩ := hrel
              have PI := hide hp
              have OI := hide ho
              have XI := hide hx
              have TI := hide ht
              have DI := hide hd
              have BI := hide hb
              clear hp ho hx ht hd hb P3 O3 X3 T3 B3
              by_cases hli : i < L
              · have hLL := HL.out
                have cx := XI.out.at i (by omega)
                rw [if_pos (by omega)] at cx
                have c0 := OI.out.c0
                obtain ⟨v, hv⟩ : ∃ v, F (i : Int) = v := ⟨_, rfl⟩
                have bv := FF.out (i : Int)
                rw [hv] at bv cx
                have KL := hide (lay_is z1 z2 z3 bo c f o N _ (k : Int) X Y C W H P (X + (i : Int)) v first fr fx fy _ PI.out HA.out.1 hN1 bv.1 bv.2 bP.1 bP.2 EF.out (partS first P fr F X SK ((i : Int) + 1)) (fun j _ => by rw [partS_next first P fr F X SK (i : Int) (by omega) j, hv]))
                clear hv hLL bv
                go_wp2_with (first | (refine wpList_load_row rfl 86 (.tmp 15) rfl g rfl _ _ _ _ OI.out Tryd.underlying86 rfl (by kernel_rfl) ?_))
                refine KL.out.mono ?_
                rintro e w4 ⟨rfl, p4, o4⟩
                have nE : ∀ j, D ≤ j → ¬ (j = c ∨ j = f ∨ j = o ∨ j = z3) := fun j hj e => by
                  have := HA.out.2.2.1
                  rcases e with rfl | rfl | rfl | rfl <;> omega
                have P4 := hide p4
                have O4 := hide (show HasO w4 g X Y C W H P fr fx fy from o4.obj OI.out (nE g D3.out.1))
                have X4 := hide (show Has32 w4 gp (fun j => if (j : Int) < W then F (j : Int) else 0) from o4.obj XI.out (nE gp D3.out.2.2.1))
                have T4 := hide (o4.obj TI.out (fun e => by have := HA.out.2.1; rcases e with e | e | e | e <;> omega))
                have B4 := hide (show Below w.heap.size w w4 from BI.out.trans (o4.below (fun j e => by have := HA.out.2.2.2; rcases e with rfl | rfl | rfl | rfl <;> omega) BI.out.size))
                have D4 := hide (Nat.le_trans DI.out o4.size)
                clear p4 o4 nE PI OI XI TI DI BI KL cx c0
                go_wp2_with fail
                go_roundw
                case rel => exact ⟨i + 1, by omega, by go_num, by rw [Int.natCast_add]; exact P4.out, O4.out, X4.out, T4.out, D4.out, B4.out⟩
                case measure => simp [intOf]; omega
              · obtain rfl : i = L := by omega
                have EN := hide (runT_on G T y k VK.out EO.out (by rw [ETK.out, ECE.out]; omega))
                set_option maxRecDepth 20000 in
                go_wp2_with fail
                go_roundw
                case rel =>
                  refine ⟨k + 1, by omega, by go_num, rfl, by rw [EN.out, ETK.out, ECE.out, HL.out.1], by rw [EN.out], ?_, TI.out, DI.out, BI.out⟩
                  rw [EN.out, EK.out, EST.out, HL.out.1]
                  exact PI.out
                case measure => simp [intOf]; omega
    · obtain rfl : k = 64 := by omega
      obtain ⟨SE, hSE⟩ : ∃ S, (runT G T y 64).1 = S := ⟨_, rfl⟩
      have E64 : Hid ((runT G T y 64).1 = SE ∧ (runT G T y 64).2.2 = false) := ⟨hSE, VK.out⟩
      rw [hSE] at PK
      clear hSE
      obtain ⟨we, hwe⟩ : ∃ we, we = wr := ⟨_, rfl⟩
      rw [← hwe] at PK BK ⊢
      clear hwe
      have PE := hide PK.out
      clear PK
      have p0 := PE.out.p0
      have p1 := PE.out.p1
      have h0 := PE.out.h0
      have y0 := frozen_of_row we z2 0 _ _ PE.out.2.1
      have y1 := frozen_of_row we z2 1 _ _ PE.out.2.1
      have x0 := PE.out.zh
      obtain ⟨hv, ehv⟩ : ∃ hv, anyHit N SE = hv := ⟨_, rfl⟩
      rw [ehv] at h0
      have EH := hide ehv
      clear ehv
      have hne : z2 ≠ z3 := HA.out.1.2.1.2.2.2
      go_wp2_with fail
      go_region
      go_wp2_with fail
      refine under_ret fun wf hwf => ?_
      obtain ⟨f1, f2, f3, f4⟩ := end_made PE.out HA.out.1 EH.out hwf
      try rw [Exit.noGoto_ret]
      refine bodyPost_ret (results_line rfl _ _ z2 z3 58 #[.slice (some ⟨c, 0, none⟩) N N, .slice (some ⟨f, 0, none⟩) N N] (0, 0) _ hv rfl rfl f1 (load_bool f2) Tryd.underlying58 rfl (by kernel_rfl)) rfl ⟨c, f, ⟨HA.out.2.2.2.1, HA.out.2.2.2.2.1⟩, ?_, ?_, ?_⟩
      · rw [HG.out, E64.out.1, E64.out.2, EH.out]; rfl
      · rw [HG.out, E64.out.1]; exact f3
      · exact BK.out.trans (f4 _ HA.out.2.2.2.2.2.2.2 HA.out.2.2.2.2.2.2.1)
end Go.Proofs.YtnhjhmfiapjenaaDoor
