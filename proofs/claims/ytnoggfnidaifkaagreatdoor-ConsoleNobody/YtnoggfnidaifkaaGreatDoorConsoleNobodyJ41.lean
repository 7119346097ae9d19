/- Texts put together. -/
import Derived.Test.YtnoggfnidaifkaaGreatDoorConsoleNobodyJ02
import Derived.Test.YtnoggfnidaifkaaGreatDoorConsoleNobodyJ03
import Derived.Test.YtnoggfnidaifkaaGreatDoorConsoleNobodyJ01
import Derived.Test.YtnoggfnidaifkaaGreatDoorConsoleNobodyJ06
import Derived.Deep.CutRange
namespace Go.Proofs.YtnoggfnidaifkaaGreatDoor.D24
set_option maxRecDepth 20000
open Go.RowKit
set_option linter.unusedVariables false
def ylens : List Nat := [1, 1, 1, 1, 8, 21, 1, 256, 1, 1, 1, 514, 244, 4, 1, 1, 4, 10, 1]
def IsY (L : List (Nat × (Nat → Value))) : Prop := L.map Prod.fst = ylens
theorem IsY.off {L : List (Nat × (Nat → Value))} (h : IsY L) (k : Nat) {a : Nat} (ha : (ylens.take k).sum = a) : soff L k = a := off_of h k ha
theorem IsY.set {L : List (Nat × (Nat → Value))} (h : IsY L) {k n : Nat} {f : Nat → Value} (hk : L[k]? = some (n, f)) (f' : Nat → Value) : IsY (L.set k (n, f')) := lens_set h hk f'
end Go.Proofs.YtnoggfnidaifkaaGreatDoor.D24
namespace Go.Proofs.YtnoggfnidaifkaaGreatDoor.D24
set_option maxRecDepth 20000
open W13
open Go.RowKit
set_option linter.unusedVariables false
def HasY (w : World) (b c d r : Nat) (L : List (Nat × (Nat → Value))) (f : Nat → Int) (wr rd st lo bu : Int) (ram : Nat → Int) : Prop :=
  HasF 142 w b 1072 (segs L) ∧ HasR w c d f wr rd st lo bu ∧ HasF 3 w r 8192 (iv ram) ∧ IsY L ∧ L[6]? = some (1, fun _ => .pointer (some ⟨c, 0, none⟩)) ∧ L[3]? = some (1, fun _ => .slice (some ⟨r, 0, none⟩) 8192 8192) ∧ (b ≠ c ∧ b ≠ d ∧ b ≠ r ∧ c ≠ r ∧ d ≠ r)
theorem HasY.next {w : World} {b c d r : Nat} {L : List (Nat × (Nat → Value))} {f : Nat → Int} {wr rd st lo bu : Int} {ram : Nat → Int} (h : HasY w b c d r L f wr rd st lo bu ram) {w' : World} (k : Below w.heap.size w w') : HasY w' b c d r L f wr rd st lo bu ram := ⟨h.1.next k, h.2.1.next k, h.2.2.1.next k, h.2.2.2⟩
theorem HasY.row {w : World} {b c d r : Nat} {L : List (Nat × (Nat → Value))} {f : Nat → Int} {wr rd st lo bu : Int} {ram : Nat → Int} (h : HasY w b c d r L f wr rd st lo bu ram) {w' : World} {L' : List (Nat × (Nat → Value))} (k : But b w w') (h' : HasF 142 w' b 1072 (segs L')) (y : IsY L') (y6 : L'[6]? = L[6]?) (y3 : L'[3]? = L[3]?) : HasY w' b c d r L' f wr rd st lo bu ram :=
  ⟨h', ⟨k.obj h.2.1.1 (fun e => h.2.2.2.2.2.2.1 e.symm), k.obj h.2.1.2.1 (fun e => h.2.2.2.2.2.2.2.1 e.symm), h.2.1.2.2⟩, k.keep h.2.2.1 (fun e => h.2.2.2.2.2.2.2.2.1 e.symm), y, y6.trans h.2.2.2.2.1, y3.trans h.2.2.2.2.2.1, h.2.2.2.2.2.2⟩
theorem HasY.vram {w : World} {b c d r : Nat} {L : List (Nat × (Nat → Value))} {f : Nat → Int} {wr rd st lo bu : Int} {ram : Nat → Int} (h : HasY w b c d r L f wr rd st lo bu ram) {w' : World} {f' : Nat → Int} {wr' rd' st' lo' bu' : Int} (k : Only2 c d w w') (h' : HasR w' c d f' wr' rd' st' lo' bu') : HasY w' b c d r L f' wr' rd' st' lo' bu' ram :=
  ⟨k.obj h.1 h.2.2.2.2.2.2.1 h.2.2.2.2.2.2.2.1, h', k.obj h.2.2.1 (fun e => h.2.2.2.2.2.2.2.2.2.1 e.symm) (fun e => h.2.2.2.2.2.2.2.2.2.2 e.symm), h.2.2.2⟩
end Go.Proofs.YtnoggfnidaifkaaGreatDoor.D24
namespace Go.Proofs.YtnoggfnidaifkaaGreatDoor.D24
set_option maxRecDepth 20000
open W13
open Go.RowKit
set_option linter.unusedVariables false
set_option maxHeartbeats 1000000 in
theorem yread_rom {w : World} {b c d r : Nat} {L : List (Nat × (Nat → Value))} {f : Nat → Int} {wr rd st lo bu : Int} {ram : Nat → Int} (h : HasY w b c d r L f wr rd st lo bu ram) (p pg a : Int) (KW : ∀ w, Calls Tryz.prog 213 #[.int .i64 p] w fun e w' => e = Ending.returned (.tuple #[.int .i64 0, .int .i64 pg, .int .i64 a]) ∧ w' = w) {P lt x : Int} (h0 : L[0]? = some (1, fun _ => Value.int .i64 P)) (h1 : L[1]? = some (1, fun _ => Value.int .i64 lt)) {q n : Nat} (h2 : L[2]? = some (1, fun _ => .slice (some ⟨q, 0, none⟩) n n)) {bs : List Int} (hq : Bytes 5 w q bs) (hl : bs.length = n)
    (KP : ∀ w, Calls Tryz.prog 214 #[.int .i64 P, .int .i64 lt, .int .i64 pg] w fun e w' => e = Ending.returned (.int .i64 x) ∧ w' = w) (x0 : 0 ≤ x) (x1 : x ≤ 1000) (a0 : 0 ≤ a) (a1 : a < 8192) (j : Nat) (hj : x * 8192 + a = (j : Int)) (hn : j < n) :
    Calls Tryz.prog 156 #[.pointer (some ⟨b, 0, none⟩), .int .i64 p] w fun e w' => e = Ending.returned (.int .i64 (bs.getD j 0)) ∧ Below w.heap.size w w' := by
  have hY := h.2.2.2.1
  have i0 := kept_cell (h.1.get1 0 h0 (a := 0) (hY.off 0 rfl) (by decide)) h.1.lt
  have i1 := kept_cell (h.1.get1 1 h1 (a := 1) (hY.off 1 rfl) (by decide)) h.1.lt
  have i2 := kept_cell (h.1.get1 2 h2 (a := 2) (hY.off 2 rfl) (by decide)) h.1.lt
  obtain ⟨cj, z0, z1⟩ := hq.cell j (by omega)
  have i3 := kept_cell cj hq.lt
  generalize bs.getD j 0 = z at *
  have W0 := hide KW
  have P0 := hide KP
  have x2 : 0 ≤ x * 8192 ∧ x * 8192 ≤ 8192000 := by omega
  generalize hy : x * 8192 = y at *
  clear h h0 h1 h2 hq hl KW KP hY cj
  go_enter Tryz.func156, Tryz.ntmps156
  go_wp2_with (first | (go_at_call 213; refine (W0.out _).mono ?_; rintro e w' ⟨rfl, hw⟩; subst w'))
  haveI := kept_some w
  refine wp_region_kept (by kernel_rfl) (by kernel_rfl) ?_
  repeat (go_big_quiet_step ((go_at_call 214; exact kept_same (P0.out _))))
  refine wpQuiet_nil ?_
  rintro _ ⟨wk, rfl⟩
  go_wp2
  go_ret
  exact ⟨rfl, wk.below⟩
end Go.Proofs.YtnoggfnidaifkaaGreatDoor.D24
namespace Go.Proofs.YtnoggfnidaifkaaGreatDoor.D24
set_option maxRecDepth 20000
open W13
open Go.RowKit
set_option linter.unusedVariables false
def t0C : Nat → Value := fun j => if j = 2 then .bool false else .int .i64 0
def p0C : Nat → Value := fun j => if j < 3 then .bool false else .int .i64 0
def a0C : Nat → Value := fun j => if j % 2 = 0 then .int .i64 0 else .bool false
def LN (P : Int) (sl : Value) (g c : Nat) (fl ps : Nat → Int) : List (Nat × (Nat → Value)) :=
  [(1, fun _ => Value.int .i64 P), (1, fun _ => Value.int .i64 0), (1, fun _ => sl), (1, fun _ => .slice (some ⟨g, 0, none⟩) 8192 8192), (8, iv fl), (21, iv fun _ => 0), (1, fun _ => .pointer (some ⟨c, 0, none⟩)), (256, iv fun _ => 0), (1, fun _ => Value.int .i64 0), (1, fun _ => .bool false), (1, fun _ => .bool false), (514, iv fun _ => 0), (244, iv ps), (4, t0C), (1, fun _ => Value.int .i64 0), (1, fun _ => Value.int .i64 0), (4, p0C), (10, a0C), (1, fun _ => Value.int .i64 255)]
theorem ln_isY (P : Int) (sl : Value) (g c : Nat) (fl ps : Nat → Int) : IsY (LN P sl g c fl ps) := rfl
theorem built_N (P : Int) (sp : Option Addr) (n m g c : Nat) (w : World) : (Instr.build 142 #[(0, .int .i64 P), (2, .slice sp n m), (3, .slice (some ⟨g, 0, none⟩) 8192 8192), (6, .pointer (some ⟨c, 0, none⟩)), (18, .int .i64 255)]).run Tryz.prog w = .ok (.agg (rowF (segs (LN P (.slice sp n m) g c (fun _ => 0) (fun _ => 0))) 1072)) w := run_build w _ _ _ (by kernel_rfl)
def rnTo (k : Nat) : Nat → Int := fun j => if 42 ≤ j ∧ (j - 42) % 40 = 0 ∧ (j - 42) / 40 < k then 1 else 0
theorem rnTo_0 : rnTo 0 = fun _ => 0 := funext fun j => by unfold rnTo; rw [if_neg (by omega)]
theorem rnTo_next (k : Nat) : up (rnTo k) (42 + k * 40) 1 = rnTo (k + 1) := funext fun j => by
  unfold up rnTo
  by_cases e : j = 42 + k * 40
  · rw [if_pos e, if_pos (by omega)]
  · rw [if_neg e]
    by_cases h : 42 ≤ j ∧ (j - 42) % 40 = 0 ∧ (j - 42) / 40 < k
    · rw [if_pos h, if_pos (by omega)]
    · rw [if_neg h, if_neg (by omega)]
def Ram0 (W w : World) (g : Nat) : Prop := HasF 3 w g 8192 (iv fun _ => 0) ∧ W.heap.size ≤ g
def Vram0 (W w : World) (c d : Nat) : Prop := HasR w c d (fun _ => 0) 0 0 1 0 0 ∧ W.heap.size ≤ c ∧ W.heap.size ≤ d
def nwR (W : World) (sp : Option Addr) (n m : Nat) (i : Nat) (v : Value) (w : World) : Prop := match i with
  | 0 => v = .slice sp n m
  | 1 => v = .int .i64 (n : Int)
  | 2 => v = .int .i64 ((n : Int) / 8192)
  | 3 => v = .slice sp n m
  | 4 => ∃ g, v = .slice (some ⟨g, 0, none⟩) 8192 8192 ∧ Ram0 W w g
  | 5 => ∃ c d, v = .pointer (some ⟨c, 0, none⟩) ∧ Vram0 W w c d
  | 6 => ∃ g c d, v = .agg (rowF (segs (LN ((n : Int) / 8192) (.slice sp n m) g c (fun _ => 0) (fun _ => 0))) 1072) ∧ Ram0 W w g ∧ Vram0 W w c d
  | _ => ∃ b g c d, v = .pointer (some ⟨b, 0, none⟩) ∧ (HasF 142 w b 1072 (segs (LN ((n : Int) / 8192) (.slice sp n m) g c (fun _ => 0) (fun _ => 0))) ∧ W.heap.size ≤ b) ∧ Ram0 W w g ∧ Vram0 W w c d
theorem Ram0.next {W w w' : World} {g : Nat} (h : Ram0 W w g) (k : Below w.heap.size w w') : Ram0 W w' g := ⟨h.1.next k, h.2⟩
theorem Vram0.next {W w w' : World} {c d : Nat} (h : Vram0 W w c d) (k : Below w.heap.size w w') : Vram0 W w' c d := ⟨h.1.next k, h.2⟩
theorem nwR_next (W : World) (sp : Option Addr) (n m : Nat) : ∀ i v w w', nwR W sp n m i v w → Below w.heap.size w w' → nwR W sp n m i v w' := by
  intro i v w w' h k
  rcases i with _ | _ | _ | _ | _ | _ | _ | i
  · exact h
  · exact h
  · exact h
  · exact h
  · obtain ⟨g, e, r⟩ := h
    exact ⟨g, e, r.next k⟩
  · obtain ⟨c, d, e, r⟩ := h
    exact ⟨c, d, e, r.next k⟩
  · obtain ⟨g, c, d, e, r, q⟩ := h
    exact ⟨g, c, d, e, r.next k, q.next k⟩
  · obtain ⟨b, g, c, d, e, p, r, q⟩ := h
    exact ⟨b, g, c, d, e, ⟨p.1.next k, p.2⟩, r.next k, q.next k⟩
theorem put_num {T : TypeId} {w : World} {b N : Nat} {L : List (Nat × (Nat → Value))} (h : HasF T w b N (segs L)) (k : Nat) {n : Nat} {f : Nat → Int} (hk : L[k]? = some (n, iv f)) (j : Nat) (hj : j < n) {a : Nat} (ha : soff L k + j = a) (x : Int) : HasF T (w.setCell ⟨b, a, none⟩ (.int .i64 x)) b N (segs (L.set k (n, iv (up f j x)))) := by
  have q := h.put k hk j hj ha (.int .i64 x)
  rw [updC_iv] at q
  exact q
theorem rows_two {w : World} {d g : Nat} {f h : Nat → Int} (h1 : HasRow w d (wordsM f)) (h2 : HasF 3 w g 8192 (iv h)) : d ≠ g := by
  intro e
  subst e
  have k := h1.symm.trans h2
  simp only [Option.some.injEq, Obj.cells.injEq] at k
  have s := congrArg Array.size k.1
  rw [rowF_size] at s
  simp [wordsM] at s
theorem zeros_F : (zerosL 8192).toArray = rowF (iv fun _ => 0) 8192 := by
  unfold zerosL
  exact (rowF_zero 8192).symm
set_option maxHeartbeats 4000000 in
theorem ynew_any (sp : Option Addr) (n m : Nat) (hn : n ≤ 100000000) (w : World) : Calls Tryz.prog 18 #[.slice sp n m] w fun e w' => ∃ b c d r, e = Ending.returned (.pointer (some ⟨b, 0, none⟩)) ∧ HasY w' b c d r (LN ((n : Int) / 8192) (.slice sp n m) r c (up (fun _ => 0) 1 248) (rnTo 6)) (fun _ => 0) 0 0 1 0 0 (fun _ => 0) ∧ (w.heap.size ≤ b ∧ w.heap.size ≤ c ∧ w.heap.size ≤ d ∧ w.heap.size ≤ r) ∧ Below w.heap.size w w' := by
  have e1 : Int.tdiv (n : Int) 8192 = (n : Int) / 8192 := Int.tdiv_eq_ediv_of_nonneg (by omega)
  have hm := make_ints 8192 (by omega) (by omega)
  rw [show (8192 : Int).toNat = 8192 from rfl, zeros_F] at hm
  have HM := hide hm
  clear hm
  go_enter Tryz.func18, Tryz.ntmps18
  go_wp2_with fail
  refine wp_region_facts (nwR w sp n m) _ (fun vals => by simp only [putAll, Act.put, List.setIfInBounds_toArray, List.set_cons_succ, List.set_cons_zero, Nat.reduceAdd]; rfl) (by kernel_rfl) (by kernel_rfl) (by kernel_rfl) (nwR_next w sp n m) ?_ ?_
  · refine steps_cons (fun vals u hb hf => ?_) (steps_cons (fun vals u hb hf => ?_) (steps_cons (fun vals u hb hf => ?_) (steps_cons (fun vals u hb hf => ?_) (steps_cons (fun vals u hb hf => ?_) (steps_cons (fun vals u hb hf => ?_) (steps_cons (fun vals u hb hf => ?_) (steps_cons (fun vals u hb hf => ?_) (steps_cons (fun vals u hb hf => ?_) steps_nil))))))))
    · set_option maxRecDepth 20000 in
      go_wp2_with fail
      exact stepPost_mk _ rfl rfl (Below.refl _ _)
    · obtain ⟨(h0 : vals 0 = .slice sp n m), _⟩ := hf
      simp only [h0]
      clear h0
      go_wp2_with fail
      exact stepPost_mk _ rfl rfl (Below.refl _ _)
    · obtain ⟨(h1 : vals 1 = .int .i64 (n : Int)), _⟩ := hf
      simp only [h1]
      clear h1
      go_wp2_with fail
      exact stepPost_mk _ rfl rfl (Below.refl _ _)
    · set_option maxRecDepth 20000 in
      go_wp2_with fail
      exact stepPost_mk _ rfl rfl (Below.refl _ _)
    · have hm := HM.out u
      obtain ⟨u2, hu2⟩ : ∃ u2, u2 = u.alloc (.cells (rowF (iv fun _ => 0) 8192) 3) := ⟨_, rfl⟩
      have R2 := hide (show Ram0 w u2 u.heap.size by rw [hu2]; exact ⟨hasF_new _ _ _ _, hb.size⟩)
      have B2 := hide (show Below u.heap.size u u2 by rw [hu2]; exact (Below.refl _ u).alloc (Nat.le_refl _) _)
      rw [← hu2] at hm
      clear hu2
      go_wp2_with fail
      exact stepPost_mk _ rfl ⟨_, rfl, R2.out⟩ B2.out
    · set_option maxRecDepth 20000 in
      go_wp2_with fail
      refine (rnew_any u).mono ?_
      rintro e u2 ⟨rfl, h2, b2⟩
      have R2 := hide (show Vram0 w u2 (u.heap.size + 1) u.heap.size from ⟨h2, Nat.le_trans hb.size (Nat.le_succ _), hb.size⟩)
      have B2 := hide b2
      clear h2 b2
      go_wp2_with fail
      exact stepPost_mk _ rfl ⟨_, _, rfl, R2.out⟩ B2.out
    · obtain ⟨(h2 : vals 2 = .int .i64 ((n : Int) / 8192)), (h3 : vals 3 = .slice sp n m), ⟨g, h4, r4⟩, ⟨c, d, h5, r5⟩, _⟩ := hf
      have R4 := hide r4
      have R5 := hide r5
      simp only [h2, h3, h4, h5]
      clear h2 h3 h4 h5 r4 r5
      refine wpList_built rfl 142 _ rfl #[(0, .int .i64 ((n : Int) / 8192)), (2, .slice sp n m), (3, .slice (some ⟨g, 0, none⟩) 8192 8192), (6, .pointer (some ⟨c, 0, none⟩)), (18, .int .i64 255)] (by simp [Act.eval]) _ (built_N _ sp n m g c) ?_
      exact stepPost_mk _ rfl ⟨g, c, d, rfl, R4.out, R5.out⟩ (Below.refl _ _)
    · obtain ⟨⟨g, c, d, h6, r4, r5⟩, _⟩ := hf
      simp only [h6]
      have P := hide (hasF_new 142 u 1072 (segs (LN ((n : Int) / 8192) (.slice sp n m) g c (fun _ => 0) (fun _ => 0))))
      have B2 := (Below.refl _ u).alloc (Nat.le_refl _) (.cells (rowF (segs (LN ((n : Int) / 8192) (.slice sp n m) g c (fun _ => 0) (fun _ => 0))) 1072) 142)
      have FACT := hide (show nwR w sp n m 7 (.pointer (some ⟨u.heap.size, 0, none⟩)) (u.alloc (.cells (rowF (segs (LN ((n : Int) / 8192) (.slice sp n m) g c (fun _ => 0) (fun _ => 0))) 1072) 142)) from ⟨_, g, c, d, rfl, ⟨P.out, hb.size⟩, r4.next B2, r5.next B2⟩)
      have BB := hide B2
      clear h6 r4 r5 B2 P
      generalize rowF (segs (LN ((n : Int) / 8192) (.slice sp n m) g c (fun _ => 0) (fun _ => 0))) 1072 = R at *
      go_wp2_with fail
      exact stepPost_mk _ rfl FACT.out BB.out
    · obtain ⟨⟨b, g, c, d, h7, r⟩, _⟩ := hf
      have RR := hide r
      simp only [h7]
      clear h7 r
      go_wp2_with fail
      exact stepPost_mk _ rfl ⟨b, g, c, d, rfl, RR.out⟩ (Below.refl _ _)
  intro vals w1 b1 hall
  obtain ⟨_, _, _, _, _, _, _, _, ⟨b, g, c, d, h8, ⟨p8, lb⟩, r8, v8⟩, _⟩ := hall
  simp only [h8]
  have NE := hide (show b ≠ c ∧ b ≠ d ∧ b ≠ g ∧ c ≠ g ∧ d ≠ g from ⟨types_two p8 v8.1.1 (by decide), types_two p8 v8.1.2.1 (by decide), types_two p8 r8.1 (by decide), types_two v8.1.1 r8.1 (by decide), rows_two v8.1.2.1 r8.1⟩)
  have c5 : w1.cell? ⟨b, 5, none⟩ = some (.int .i64 0) := p8.get 4 rfl 1 (by decide) (by rw [(ln_isY _ _ _ _ _ _).off 4 (a := 4) rfl]) (by decide)
  have z5 := p8.frozen 5
  have LB := hide lb
  have P8 := hide p8
  have R8 := hide r8
  have V8 := hide v8
  have B1 := hide b1
  clear h8 p8 r8 v8 b1 lb HM
  clear e1
  go_upto_region 3 with fail
  refine under_name fun w2 hw2 => ?_
  have P9 := hide (show HasF 142 w2 b 1072 (segs (LN ((n : Int) / 8192) (.slice sp n m) g c (up (fun _ => 0) 1 248) (rnTo 0))) by
    rw [hw2, rnTo_0]
    exact put_num P8.out 4 rfl 1 (by decide) (by rw [(ln_isY _ _ _ _ _ _).off 4 (a := 4) rfl]) 248)
  have b2 : But b w1 w2 := by rw [hw2]; exact (But.refl b w1).set _ _
  have R9 := hide (show Ram0 w w2 g from ⟨b2.keep R8.out.1 (fun e => NE.out.2.2.1 e.symm), R8.out.2⟩)
  have V9 := hide (show Vram0 w w2 c d from ⟨⟨b2.obj V8.out.1.1 (fun e => NE.out.1 e.symm), b2.obj V8.out.1.2.1 (fun e => NE.out.2.1 e.symm), V8.out.1.2.2⟩, V8.out.2⟩)
  have B9 := hide (bbut B1.out b2 LB.out (Nat.le_refl _))
  clear hw2 b2 P8 R8 V8 B1 c5 z5
  go_wp2_with fail
  go_loopw [4] (fun v w' => ∃ k : Nat, k ≤ 6 ∧ v = .int .i64 k ∧ HasF 142 w' b 1072 (segs (LN ((n : Int) / 8192) (.slice sp n m) g c (up (fun _ => 0) 1 248) (rnTo k))) ∧ Ram0 w w' g ∧ Vram0 w w' c d ∧ Below w.heap.size w w') (fun v _ => 6 - (intOf v).toNat)
  case atStart => exact ⟨0, Nat.zero_le _, rfl, P9.out, R9.out, V9.out, B9.out⟩
  case round =>
    clear P9 R9 V9 B9
    obtain ⟨k, hk, rfl, h1, h2, h3, h4⟩ := hrel
    have P1 := hide h1
    have R1 := hide h2
    have V1 := hide h3
    have B1 := hide h4
    clear h1 h2 h3 h4
    by_cases hlt : k < 6
    · have ck : wr.cell? ⟨b, 811 + k * 40 + 38, none⟩ = some (.int .i64 (rnTo k (42 + k * 40))) := P1.out.get 12 rfl (42 + k * 40) (by omega) (by rw [(ln_isY _ _ _ _ _ _).off 12 (a := 807) rfl]; omega) (by omega)
      have zk := P1.out.frozen (811 + k * 40 + 38)
      generalize rnTo k (42 + k * 40) = z at *
      go_wp2_with fail
      have b2 : But b wr (wr.setCell ⟨b, 811 + k * 40 + 38, none⟩ (.int .i64 1)) := (But.refl b wr).set _ _
      refine ⟨⟨k + 1, by omega, by go_num, ?_, ⟨b2.keep R1.out.1 (fun e => NE.out.2.2.1 e.symm), R1.out.2⟩, ⟨⟨b2.obj V1.out.1.1 (fun e => NE.out.1 e.symm), b2.obj V1.out.1.2.1 (fun e => NE.out.2.1 e.symm), V1.out.1.2.2⟩, V1.out.2⟩, bbut B1.out b2 LB.out (Nat.le_refl _)⟩, by simp [intOf]; omega⟩
      rw [← rnTo_next]
      exact put_num P1.out 12 rfl (42 + k * 40) (by omega) (by rw [(ln_isY _ _ _ _ _ _).off 12 (a := 807) rfl]; omega) 1
    · obtain rfl : k = 6 := by omega
      go_wp2_with fail
      go_ret
      exact ⟨b, c, d, g, rfl, ⟨P1.out, V1.out.1, R1.out.1, ln_isY _ _ _ _ _ _, rfl, rfl, NE.out⟩, ⟨LB.out, V1.out.2.1, V1.out.2.2, R1.out.2⟩, B1.out⟩
end Go.Proofs.YtnoggfnidaifkaaGreatDoor.D24
