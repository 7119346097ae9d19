/- For every two numbers and every pair of them the law PsgDirect of layer 22 returns true, where the program's table of levels holds what its own initialiser lays: a channel that is written directly says just that, as loud as it is, on each side. -/
import Derived.Test.YtcpilhbinkamiaaDoorWav22
import Derived.Test.YtcpilhbinkamiaaDoorOth22
import Derived.Test.YtcpilhbinkamiaaDoorLevLaid
import Derived.Test.YtcpilhbinkamiaaDoorArrays
import Derived.Test.YtcpilhbinkamiaaDoorTie
import Derived.Test.YtcpilhbinkamiaaDoorCards
import Derived.SevenTiedAt
import Derived.OpenShut
import Derived.ShutString
import Derived.ChangeOld
import Derived.Below
namespace Go.Proofs.YtcpilhbinkamiaaDoor
open Go.ChangeShapes Go.WideShapes Go.ChangeAt Go.RowKit
open Go.ChangeMaps (open_string shut_string)
set_option linter.unusedVariables false
theorem own : ownKnob Tryd.prog.godebug = none := by kernel_rfl

theorem wpList_load_want {P : Program} {ops : Array Oper} {rest : List Oper} {o : Oper} {a : Act} {w : World} {Q : Exit → Act → World → Prop} (hw : Region.wanted o (yielded ops a.tmps) = true) (ty : TypeId) (x : Operand) (ho : o.op = .load ty x)
    (g : Nat) (hx : a.eval x = .pointer (some ⟨g, 0, none⟩)) (t : TypeId) (cs : Array Value) (fr : Nat × Nat) (d : TypeDesc) (hg : w.heap[g]? = some (.cells cs t fr))
    (hu : P.underlying ty = some d) (hd : (match d with | .struct _ | .array _ _ => true | _ => false) = true) (hi : (P.info? ty).map (·.size) = some cs.size)
    (h : wpList P ops Q rest (a.put o.dst (.agg cs)) w) : wpList P ops Q (o :: rest) a w :=
  BigFrame.wpList_want hw fun _ hK => wp_load_row ty x ho g hx t cs fr d hg hu hd hi (hK _ _ h)
def Is244 (R : Array Value) : Prop := R.size = 244 ∧ R.all (·.oneCell') = true
theorem Is244.info {R : Array Value} (h : Is244 R) : (Tryd.prog.info? 27).map (·.size) = some R.size := by
  rw [h.1]
  kernel_rfl
theorem Is244.zero {R : Array Value} (h : Is244 R) : (rowF (iv fun _ => 0) 244).size = R.size := by rw [rowF_size, h.1]
theorem is244 (f : Nat → Int) : Is244 (rowF (iv f) 244) := ⟨rowF_size _ _, rowF_one _ _⟩
/-- The channel that is told directly. -/
def dirF (K : Nat) (m c bl V : Int) : Nat → Int := up (wavF K m 0 c bl 0 0 fun _ => 0) (4 + K * 40 + 39) V
theorem dir_ok {K : Nat} {m c bl V : Int} (hK : K < 6) (m0 : 0 ≤ m ∧ m ≤ 255) (c0 : 0 ≤ c ∧ c ≤ 255) (l0 : 0 ≤ bl ∧ bl ≤ 255) (v0 : 0 ≤ V ∧ V ≤ 31) : okP (dirF K m c bl V) :=
  put_ok (wav_ok hK m0 (by decide) c0 l0 (by decide) (by decide) (fun j _ => by simp)) K 39 V (by decide) v0
theorem dir_ch {K : Nat} {m c bl V : Int} (k j : Nat) (hj : j < 40) (h : j ≠ 39) : ch (dirF K m c bl V) k j = ch (wavF K m 0 c bl 0 0 fun _ => 0) k j := by
  unfold dirF
  rw [ch_put _ _ _ _ _ _ (by decide) hj, if_neg (by omega)]
theorem dir_so {K : Nat} {m c bl V : Int} (k : Nat) (h : ¬ k = K) : soOf (dirF K m c bl V) k = false := by
  unfold soOf
  rw [dir_ch k 1 (by decide) (by decide)]
  exact wav_off k h
theorem dir_on {K : Nat} {m c bl V : Int} (hc : c / 64 = 3) : soOf (dirF K m c bl V) K = true ∧ drOf (dirF K m c bl V) K = true := by
  unfold soOf drOf
  rw [dir_ch K 1 (by decide) (by decide), ch_own 1 (by decide), show chanW 0 c bl 0 0 (fun _ => 0) 1 = c from rfl]
  simp
  omega
theorem dir_still {K : Nat} {m c bl V : Int} (hc : c / 64 = 3) (k : Nat) : onK (dirF K m c bl V) k = dirF K m c bl V := by
  have h : goOf (dirF K m c bl V) k = false := by
    unfold goOf
    by_cases e : k = K
    · subst e
      rw [(dir_on hc).2]
      simp
    · rw [dir_so k e]
      rfl
  unfold onK onP
  rw [h]
  simp
theorem dir_it {K : Nat} {m c bl V : Int} (hc : c / 64 = 3) : ∀ n, itF (dirF K m c bl V) n = dirF K m c bl V
  | 0 => rfl
  | n + 1 => by
    show stepF (itF _ n) = _
    rw [dir_it hc n]
    unfold stepF
    rw [dir_still hc, dir_still hc, dir_still hc, dir_still hc, dir_still hc, dir_still hc]
theorem dir_left {K : Nat} {m c bl V : Int} (hK : K < 6) (hc : c / 64 = 3) : leftOf (dirF K m c bl V) = (V - 16) * gainOf c (bl / 16) (m / 16) ∧ rightOf (dirF K m c bl V) = (V - 16) * gainOf c (bl % 16) (m % 16) := by
  have hv : valK (dirF K m c bl V) K = V := by
    unfold valK
    rw [(dir_on hc).2]
    simp only [if_true]
    unfold dirF
    rw [ch_put _ _ _ _ _ _ (by decide) (by decide), if_pos ⟨rfl, rfl⟩]
  have hl : lfoOf (dirF K m c bl V) = 0 := by
    unfold lfoOf dirF
    rw [up_other _ _ _ _ (by omega)]
    rfl
  have hh : heOf (dirF K m c bl V) K = true := by
    unfold heOf
    rw [(dir_on hc).1, hl]
    simp
  have h1 : dirF K m c bl V 1 = m := by
    unfold dirF
    rw [up_other _ _ _ _ (by omega)]
    rfl
  have lk : leftK (dirF K m c bl V) K = (V - 16) * gainOf c (bl / 16) (m / 16) := by
    unfold leftK glOf
    rw [hh, hv, dir_ch K 1 (by decide) (by decide), dir_ch K 2 (by decide) (by decide), ch_own 1 (by decide), ch_own 2 (by decide), h1]
    rfl
  have rk : rightK (dirF K m c bl V) K = (V - 16) * gainOf c (bl % 16) (m % 16) := by
    unfold rightK grOf
    rw [hh, hv, dir_ch K 1 (by decide) (by decide), dir_ch K 2 (by decide) (by decide), ch_own 1 (by decide), ch_own 2 (by decide), h1]
    rfl
  have l0 : ∀ k', ¬ k' = K → leftK (dirF K m c bl V) k' = 0 := fun k' hk' => by unfold leftK heOf; rw [dir_so k' hk']; simp
  have r0 : ∀ k', ¬ k' = K → rightK (dirF K m c bl V) k' = 0 := fun k' hk' => by unfold rightK heOf; rw [dir_so k' hk']; simp
  generalize dirF K m c bl V = F at *
  unfold leftOf rightOf
  simp only [sumTo]
  rcases (show K = 0 ∨ K = 1 ∨ K = 2 ∨ K = 3 ∨ K = 4 ∨ K = 5 by omega) with rfl | rfl | rfl | rfl | rfl | rfl
  · rw [lk, rk, l0 1 (by decide), l0 2 (by decide), l0 3 (by decide), l0 4 (by decide), l0 5 (by decide), r0 1 (by decide), r0 2 (by decide), r0 3 (by decide), r0 4 (by decide), r0 5 (by decide)]; omega
  · rw [lk, rk, l0 0 (by decide), l0 2 (by decide), l0 3 (by decide), l0 4 (by decide), l0 5 (by decide), r0 0 (by decide), r0 2 (by decide), r0 3 (by decide), r0 4 (by decide), r0 5 (by decide)]; omega
  · rw [lk, rk, l0 0 (by decide), l0 1 (by decide), l0 3 (by decide), l0 4 (by decide), l0 5 (by decide), r0 0 (by decide), r0 1 (by decide), r0 3 (by decide), r0 4 (by decide), r0 5 (by decide)]; omega
  · rw [lk, rk, l0 0 (by decide), l0 1 (by decide), l0 2 (by decide), l0 4 (by decide), l0 5 (by decide), r0 0 (by decide), r0 1 (by decide), r0 2 (by decide), r0 4 (by decide), r0 5 (by decide)]; omega
  · rw [lk, rk, l0 0 (by decide), l0 1 (by decide), l0 2 (by decide), l0 3 (by decide), l0 5 (by decide), r0 0 (by decide), r0 1 (by decide), r0 2 (by decide), r0 3 (by decide), r0 5 (by decide)]; omega
  · rw [lk, rk, l0 0 (by decide), l0 1 (by decide), l0 2 (by decide), l0 3 (by decide), l0 4 (by decide), r0 0 (by decide), r0 1 (by decide), r0 2 (by decide), r0 3 (by decide), r0 4 (by decide)]; omega
def dAR (gb : Nat) (K : Nat) (g0 : Int) (Rf R1 R2 : Array Value) (B : Nat) : Nat → Value → World → Prop
  | 0, v, _ => v = .agg Rf
  | 1, v, _ => v = .int .i64 (K : Int)
  | 2, v, _ => v = .agg R1
  | 3, v, _ => v = .pointer (some ⟨gb, 0, none⟩)
  | 4, v, _ => v = .int .i64 g0
  | 5, v, _ => v = .agg R2
  | 6, v, w => ∃ g, v = .pointer (some ⟨g, 0, none⟩) ∧ HasF 27 w g 244 (iv fun _ => 0) ∧ B ≤ g
  | _, _, _ => True
theorem dAR_next {gb : Nat} {K : Nat} {g0 : Int} {Rf R1 R2 : Array Value} {B : Nat} : ∀ i v w w', dAR gb K g0 Rf R1 R2 B i v w → Below w.heap.size w w' → dAR gb K g0 Rf R1 R2 B i v w' := by
  intro i v w w' h k
  match i, h with
  | 0, h => exact h
  | 1, h => exact h
  | 2, h => exact h
  | 3, h => exact h
  | 4, h => exact h
  | 5, h => exact h
  | 6, h => obtain ⟨g, e, r, l⟩ := h; exact ⟨g, e, r.next k, l⟩
  | _ + 7, h => trivial
def dBR (gb : Nat) (g1 m c V : Int) (R2 R3 R4 R5 : Array Value) : Nat → Value → World → Prop
  | 0, v, _ => v = .agg R2
  | 1, v, _ => v = .pointer (some ⟨gb, 1, none⟩)
  | 2, v, _ => v = .int .i64 g1
  | 3, v, _ => v = .int .i64 m
  | 4, v, _ => v = .int .i64 c
  | 5, v, _ => v = .agg R3
  | 6, v, _ => v = .pointer (some ⟨gb, 1, none⟩)
  | 7, v, _ => v = .int .i64 g1
  | 8, v, _ => v = .int .i64 (g1 / 256)
  | 9, v, _ => v = .agg R4
  | 10, v, _ => v = .int .i64 V
  | 11, v, _ => v = .agg R5
  | _, _, _ => True
theorem dBR_next {gb : Nat} {g1 m c V : Int} {R2 R3 R4 R5 : Array Value} : ∀ i v w w', dBR gb g1 m c V R2 R3 R4 R5 i v w → Below w.heap.size w w' → dBR gb g1 m c V R2 R3 R4 R5 i v w' := by
  intro i v w w' h k
  match i, h with
  | 0, h => exact h
  | 1, h => exact h
  | 2, h => exact h
  | 3, h => exact h
  | 4, h => exact h
  | 5, h => exact h
  | 6, h => exact h
  | 7, h => exact h
  | 8, h => exact h
  | 9, h => exact h
  | 10, h => exact h
  | 11, h => exact h
  | _ + 12, h => trivial

set_option maxHeartbeats 4000000 in
theorem direct_go (k v g0 g1 t m c V GL GR : Int) (K : Nat) (S : Nat → Int) (Rf R1 R2 R3 R4 R5 : Array Value) (w : World) (HL : Hid (HasLevels w)) (ht : Int.tmod k 6 = t) (t0 : -6 < t) (t1 : t < 6) (hk : Int.tmod (t + 6) 6 = (K : Int)) (hK : K < 6) (hv : bits .and .i64 v 31 = V) (v0 : 0 ≤ V) (v1 : V ≤ 31) (hm : bits .and .i64 g1 31 = m) (hc : bits .or .i64 192 m = c)
    (KF : Hid (∀ u : World, Calls Tryd.prog 11 #[] u fun e w' => e = Ending.returned (.agg Rf) ∧ Below u.heap.size u w'))
    (K1 : Hid (∀ u : World, Calls Tryd.prog 14 #[.agg Rf, .int .i64 0, .int .i64 (K : Int)] u fun e w' => e = Ending.returned (.agg R1) ∧ Below u.heap.size u w')) (K2 : Hid (∀ u : World, Calls Tryd.prog 14 #[.agg R1, .int .i64 1, .int .i64 g0] u fun e w' => e = Ending.returned (.agg R2) ∧ Below u.heap.size u w')) (K3 : Hid (∀ u : World, Calls Tryd.prog 14 #[.agg R2, .int .i64 4, .int .i64 c] u fun e w' => e = Ending.returned (.agg R3) ∧ Below u.heap.size u w')) (K4 : Hid (∀ u : World, Calls Tryd.prog 14 #[.agg R3, .int .i64 5, .int .i64 (g1 / 256)] u fun e w' => e = Ending.returned (.agg R4) ∧ Below u.heap.size u w')) (K5 : Hid (∀ u : World, Calls Tryd.prog 14 #[.agg R4, .int .i64 6, .int .i64 V] u fun e w' => e = Ending.returned (.agg R5) ∧ Below u.heap.size u w'))
    (KS : Hid (∀ u : World, HasLevels u → Calls Tryd.prog 8 #[.agg R5, .int .i64 3] u fun e w' => ∃ g, e = Ending.returned (.tuple #[.slice (some ⟨g, 0, none⟩) 3 3, .agg R5]) ∧ HasF 40 w' g (3 * 2) (iv S) ∧ Below u.heap.size u w'))
    (I2 : Is244 R2) (I5 : Is244 R5) (EN : ∀ w : World, (binOp .neq 27 (.agg R5) (.agg R5)).run Tryd.prog w = .ok (.bool false) w)
    (eL : gainOf g1 (g1 / 4096) (g0 / 16) = GL) (eR : gainOf g1 (g1 / 256) g0 = GR) (l0 : 0 ≤ GL) (l1 : GL ≤ 1024) (r0 : 0 ≤ GR) (r1 : GR ≤ 1024) (HS : Hid (∀ i, S (i * 2) = (V - 16) * GL ∧ S (i * 2 + 1) = (V - 16) * GR)) : Calls Tryd.prog 7 #[.int .i64 k, .int .i64 v, .agg #[.int .i64 g0, .int .i64 g1]] w fun e w' => e = .returned (.bool true) ∧ Below w.heap.size w w' := by
  have pl := prod_in (a := V - 16) (by omega) (by omega) l0 l1
  have pr := prod_in (a := V - 16) (by omega) (by omega) r0 r1
  have GG : Hid ((w.alloc (.cells #[.int .i64 g0, .int .i64 g1] 40)).heap[w.heap.size]? = some (.cells #[.int .i64 g0, .int .i64 g1] 40 (0, 0))) := hide (heap_alloc_new _ _)
  have B0 : Hid (Below w.heap.size w (w.alloc (.cells #[.int .i64 g0, .int .i64 g1] 40))) := hide ((Below.refl _ w).alloc (Nat.le_refl _) _)
  set_option maxRecDepth 20000 in
  go_enter Tryd.func7, Tryd.ntmps7
  set_option maxRecDepth 20000 in
  go_wp2_with fail
  refine under_name fun wa hwa => ?_
  rw [← hwa] at GG B0
  clear hwa
  obtain ⟨gb, hgb⟩ : ∃ s, w.heap.size = s := ⟨_, rfl⟩
  rw [hgb] at GG B0 ⊢
  have GB := hide (lt_of_block GG.out)
  have SW : Hid (gb ≤ w.heap.size) := hide (by omega)
  have C0 : Hid (∀ u, Below wa.heap.size wa u → u.cell? ⟨gb, 0, none⟩ = some (.int .i64 g0)) := hide (fun u hb => (cell_of_row u gb 0 _ _ _ ((hb.block _ (lt_of_block GG.out)).trans GG.out)).trans rfl)
  refine wp_region_facts_last [_, _, _, _, _, _, _] _ rfl (dAR gb K g0 Rf R1 R2 gb) _ (fun vals => by simp only [putAll, Act.put, List.setIfInBounds_toArray, List.set_cons_succ, List.set_cons_zero, Nat.reduceAdd]; rfl) (by kernel_rfl) (by kernel_rfl) (by kernel_rfl) (by kernel_rfl) dAR_next ?_ ?_
  · refine (steps_cons (fun vals u hb hf => ?_) (steps_cons (fun vals u hb hf => ?_) (steps_cons (fun vals u hb hf => ?_) (steps_cons (fun vals u hb hf => ?_) (steps_cons (fun vals u hb hf => ?_) (steps_cons (fun vals u hb hf => ?_) (steps_cons (fun vals u hb hf => ?_) steps_nil)))))))
    · go_wp2_with (go_at_call 11; refine (KF.out _).mono ?_; rintro e u2 ⟨rfl, b2⟩)
      exact stepPost_mk _ rfl rfl b2
    · go_wp2_with fail
      exact stepPost_mk _ rfl rfl (Below.refl _ _)
    · obtain ⟨(h0 : vals 0 = .agg Rf), (h1 : vals 1 = .int .i64 (K : Int)), _⟩ := hf
      simp only [h0, h1]
      clear h0 h1
      go_wp2_with (go_at_call 14; refine (K1.out _).mono ?_; rintro e u2 ⟨rfl, b2⟩)
      exact stepPost_mk _ rfl rfl b2
    · go_wp2_with fail
      exact stepPost_mk _ rfl rfl (Below.refl _ _)
    · obtain ⟨(h3 : vals 3 = .pointer (some ⟨gb, 0, none⟩)), _⟩ := hf
      simp only [h3]
      clear h3
      have c0 := C0.out u hb
      go_wp2_with fail
      exact stepPost_mk _ rfl rfl (Below.refl _ _)
    · obtain ⟨(h2 : vals 2 = .agg R1), (h4 : vals 4 = .int .i64 g0), _⟩ := hf
      simp only [h2, h4]
      clear h2 h4
      go_wp2_with (go_at_call 14; refine (K2.out _).mono ?_; rintro e u2 ⟨rfl, b2⟩)
      exact stepPost_mk _ rfl rfl b2
    · go_wp2_with (first | (refine wpList_alloced rfl 27 rfl (rowF (iv fun _ => 0) 244) zero_P ?_))
      exact stepPost_mk _ rfl ⟨_, rfl, hasF_new _ _ _ _, Nat.le_trans (Nat.le_of_lt GB.out) hb.size⟩ ((Below.refl _ _).alloc (Nat.le_refl _) _)
  intro vals u hb hf
  obtain ⟨_, _, _, _, _, (h5 : vals 5 = .agg R2), ⟨g7, (h6 : vals 6 = .pointer (some ⟨g7, 0, none⟩)), hz, hg7⟩, _⟩ := hf
  simp only [h5, h6]
  clear h5 h6
  have Z1 := hide hz
  have L7 := hide hg7
  have G1 := hide ((hb.block _ (lt_of_block GG.out)).trans GG.out)
  have B1 := hide (bnext2 B0.out SW.out hb)
  have N7 : Hid (gb ≠ g7) := hide (types_two G1.out Z1.out (by decide))
  clear hz hg7 hb GG B0 C0
  set_option maxRecDepth 20000 in
  go_wp2_with (first
    | (refine wpList_store_row rfl 27 (.tmp 7) (.tmp 22) rfl g7 R2 rfl rfl 27 _ Z1.out I2.info I2.zero I2.2 ?_; refine under_list fun w4 hh => ?_; have M4 : Hid (w4.heap[g7]? = some (.cells R2 27 (0, 0))) := hide (by rw [hh]; exact setRow_heap _ _ _ _ _ _ Z1.out); have G4 : Hid (w4.heap[gb]? = some (.cells #[.int .i64 g0, .int .i64 g1] 40 (0, 0))) := hide (by rw [hh]; exact (setRow_other _ _ _ _ N7.out).trans G1.out); have B4 : Hid (Below gb w w4) := hide (by rw [hh]; exact below_setRow B1.out L7.out _); clear hh Z1 G1 B1))
  have C1 : Hid (∀ u, Below w4.heap.size w4 u → u.cell? ⟨gb, 1, none⟩ = some (.int .i64 g1)) := hide (fun u hb => (cell_of_row u gb 1 _ _ _ ((hb.block _ (lt_of_block G4.out)).trans G4.out)).trans rfl)
  refine wp_region_facts_last [_, _, _, _, _, _, _, _, _, _, _, _] _ rfl (dBR gb g1 m c V R2 R3 R4 R5) _ (fun vals => by simp only [putAll, Act.put, List.setIfInBounds_toArray, List.set_cons_succ, List.set_cons_zero, Nat.reduceAdd]; rfl) (by kernel_rfl) (by kernel_rfl) (by kernel_rfl) (by kernel_rfl) dBR_next ?_ ?_
  · refine (steps_cons (fun vals u hb hf => ?_) (steps_cons (fun vals u hb hf => ?_) (steps_cons (fun vals u hb hf => ?_) (steps_cons (fun vals u hb hf => ?_) (steps_cons (fun vals u hb hf => ?_) (steps_cons (fun vals u hb hf => ?_) (steps_cons (fun vals u hb hf => ?_) (steps_cons (fun vals u hb hf => ?_) (steps_cons (fun vals u hb hf => ?_) (steps_cons (fun vals u hb hf => ?_) (steps_cons (fun vals u hb hf => ?_) (steps_cons (fun vals u hb hf => ?_) steps_nil))))))))))))
    · go_wp2_with (first | (refine wpList_load_row rfl 27 (.tmp 7) rfl g7 rfl _ _ _ _ ((hb.block _ (lt_of_block M4.out)).trans M4.out) Tryd.underlying27 rfl I2.info ?_))
      exact stepPost_mk _ rfl rfl (Below.refl _ _)
    · go_wp2_with fail
      exact stepPost_mk _ rfl rfl (Below.refl _ _)
    · obtain ⟨(h1 : vals 1 = .pointer (some ⟨gb, 1, none⟩)), _⟩ := hf
      simp only [h1]
      clear h1
      have c1 := C1.out u hb
      go_wp2_with fail
      exact stepPost_mk _ rfl rfl (Below.refl _ _)
    · obtain ⟨(h2 : vals 2 = .int .i64 g1), _⟩ := hf
      simp only [h2]
      clear h2
      go_wp2_with fail
      exact stepPost_mk _ rfl rfl (Below.refl _ _)
    · obtain ⟨(h3 : vals 3 = .int .i64 m), _⟩ := hf
      simp only [h3]
      clear h3
      go_wp2_with fail
      exact stepPost_mk _ rfl rfl (Below.refl _ _)
    · obtain ⟨(h0 : vals 0 = .agg R2), (h4 : vals 4 = .int .i64 c), _⟩ := hf
      simp only [h0, h4]
      clear h0 h4
      go_wp2_with (go_at_call 14; refine (K3.out _).mono ?_; rintro e u2 ⟨rfl, b2⟩)
      exact stepPost_mk _ rfl rfl b2
    · go_wp2_with fail
      exact stepPost_mk _ rfl rfl (Below.refl _ _)
    · obtain ⟨(h6 : vals 6 = .pointer (some ⟨gb, 1, none⟩)), _⟩ := hf
      simp only [h6]
      clear h6
      have c1 := C1.out u hb
      go_wp2_with fail
      exact stepPost_mk _ rfl rfl (Below.refl _ _)
    · obtain ⟨(h7 : vals 7 = .int .i64 g1), _⟩ := hf
      simp only [h7]
      clear h7
      go_wp2_with fail
      exact stepPost_mk _ rfl rfl (Below.refl _ _)
    · obtain ⟨(h5 : vals 5 = .agg R3), (h8 : vals 8 = .int .i64 (g1 / 256)), _⟩ := hf
      simp only [h5, h8]
      clear h5 h8
      go_wp2_with (go_at_call 14; refine (K4.out _).mono ?_; rintro e u2 ⟨rfl, b2⟩)
      exact stepPost_mk _ rfl rfl b2
    · go_wp2_with fail
      exact stepPost_mk _ rfl rfl (Below.refl _ _)
    · obtain ⟨(h9 : vals 9 = .agg R4), (h10 : vals 10 = .int .i64 V), _⟩ := hf
      simp only [h9, h10]
      clear h9 h10
      go_wp2_with (go_at_call 14; refine (K5.out _).mono ?_; rintro e u2 ⟨rfl, b2⟩)
      exact stepPost_mk _ rfl rfl b2
  intro vals u2 hb hf
  obtain ⟨_, _, _, _, _, _, _, _, _, _, _, (h11 : vals 11 = .agg R5), _⟩ := hf
  simp only [h11]
  clear h11
  have M5 := hide ((hb.block _ (lt_of_block M4.out)).trans M4.out)
  have G5 := hide ((hb.block _ (lt_of_block G4.out)).trans G4.out)
  have B5 := hide (bnext2 B4.out SW.out hb)
  clear hb M4 G4 B4 C1 K1 K2 K3 K4 K5 KF
  set_option maxRecDepth 20000 in
  go_wp2_with (first
    | (refine wpList_store_row rfl 27 (.tmp 7) (.tmp 34) rfl g7 R5 rfl rfl 27 _ M5.out I5.info (I2.1.trans I5.1.symm) I5.2 ?_; refine under_list fun w6 hh => ?_; have M6 : Hid (w6.heap[g7]? = some (.cells R5 27 (0, 0))) := hide (by rw [hh]; exact setRow_heap _ _ _ _ _ _ M5.out); have G6 : Hid (w6.heap[gb]? = some (.cells #[.int .i64 g0, .int .i64 g1] 40 (0, 0))) := hide (by rw [hh]; exact (setRow_other _ _ _ _ N7.out).trans G5.out); have B6 : Hid (Below gb w w6) := hide (by rw [hh]; exact below_setRow B5.out L7.out _); clear hh M5 G5 B5)
    | (refine wpList_load_row rfl 27 (.tmp 7) rfl g7 rfl _ _ _ _ M6.out Tryd.underlying27 rfl I5.info ?_))
  refine (KS.out _ (HL.out.next (by rw [hgb]; exact B6.out))).mono ?_
  rintro e w7 ⟨g8, rfl, hg8, c7⟩
  have S7 := hide hg8
  have M7 := hide ((c7.block _ (lt_of_block M6.out)).trans M6.out)
  have G7 := hide ((c7.block _ (lt_of_block G6.out)).trans G6.out)
  have B7 := hide (bnext2 B6.out SW.out c7)
  clear hg8 c7 M6 G6 B6 KS
  set_option maxRecDepth 20000 in
  go_wp2_with (first
    | (refine wpList_alloced rfl 27 rfl (rowF (iv fun _ => 0) 244) zero_P ?_)
    | (refine wpList_store_row rfl 27 (.tmp 9) (.tmp 39) rfl w7.heap.size R5 (by simp [Act.eval]) rfl 27 _ (hasF_new _ _ _ _) I5.info I5.zero I5.2 ?_; refine under_list fun w8 hh => ?_; have W8 : Below w7.heap.size w7 w8 := (by rw [hh]; exact below_setRow ((Below.refl _ _).alloc (Nat.le_refl _) _) (Nat.le_refl _) _); have Q8 : Hid (w8.heap[w7.heap.size]? = some (.cells R5 27 (0, 0))) := hide (by rw [hh]; exact setRow_heap _ _ _ _ _ _ (hasF_new _ _ _ _)); have S8 := hide (S7.out.next W8); have M8 := hide ((W8.block _ (lt_of_block M7.out)).trans M7.out); have G8 := hide ((W8.block _ (lt_of_block G7.out)).trans G7.out); have B8 := hide (bnext2 B7.out SW.out W8); clear hh W8 S7 M7 G7 B7)
    | (refine wpList_load_want rfl 27 (.tmp 9) rfl w7.heap.size rfl _ _ _ _ Q8.out Tryd.underlying27 rfl I5.info ?_)
    | (refine wpList_load_want rfl 27 (.tmp 7) rfl g7 rfl _ _ _ _ M8.out Tryd.underlying27 rfl I5.info ?_))
  go_loopw [10] (fun x w' => ∃ i : Nat, i ≤ 3 ∧ x = .int .i64 i ∧ Below w8.heap.size w8 w') (fun x _ => 3 - (intOf x).toNat)
  case atStart => exact ⟨0, by decide, rfl, Below.refl _ _⟩
  case round =>
    obtain ⟨i, hi, rfl, hb9⟩ := hrel
    have B9 := hide hb9
    have S9 := S8.out.next hb9
    have G9 := (hb9.block _ (lt_of_block G8.out)).trans G8.out
    by_cases hlt : i < 3
    · obtain ⟨x0, x1⟩ := HS.out i
      have c0 := S9.int (i * 2) (by omega)
      have c1 := S9.int (i * 2 + 1) (by omega)
      rw [x0] at c0
      rw [x1] at c1
      have d0 : wr.cell? ⟨gb, 0, none⟩ = some (.int .i64 g0) := (cell_of_row wr gb 0 _ _ _ G9).trans rfl
      have d1 : wr.cell? ⟨gb, 1, none⟩ = some (.int .i64 g1) := (cell_of_row wr gb 1 _ _ _ G9).trans rfl
      have k0 := kept_cell c0 S9.lt
      have k1 := kept_cell c1 S9.lt
      have k2 := kept_cell d0 (lt_of_block G9)
      have k3 := kept_cell d1 (lt_of_block G9)
      have KG : Hid (∀ (q : Kept wr) (x y z : Int), Calls Tryd.prog 15 #[.int .i64 x, .int .i64 y, .int .i64 z] q.val fun e w' => e = Ending.returned (.int .i64 (gainOf x y z)) ∧ w' = q.val) := hide (fun q x y z => gain_any x y z _ ((HL.out.next (by rw [hgb]; exact bnext2 B8.out SW.out hb9)).next q.below))
      clear hb9 S9 G9 x0 x1 c0 c1 d0 d1
      set_option maxRecDepth 20000 in
      go_wp2_with fail
      haveI := kept_some wr
      refine wp_region_kept (by kernel_rfl) (by kernel_rfl) ?_
      set_option maxRecDepth 20000 in
      repeat (go_big_quiet_step ((first | (go_at_call 15; exact kept_same (KG.out _ _ _ _)))))
      refine wpQuiet_nil ?_
      rintro _ ⟨wk, rfl⟩
      have B10 := hide (bnext B9.out wk.below)
      set_option maxRecDepth 20000 in
      go_wp2_with fail
      exact ⟨⟨i + 1, by omega, by go_num, B10.out⟩, by simp [intOf]; omega⟩
    · obtain rfl : i = 3 := by omega
      clear S9 G9 hb9
      set_option maxRecDepth 20000 in
      go_wp2_with fail
      go_ret
      exact ⟨rfl, by rw [hgb]; exact bnext2 B8.out SW.out B9.out⟩

theorem psgDirect_walk (k v : Int) (z : List Int) (w : World) (w0 : (Lit.int .i64 k).wf = true) (w1 : (Lit.int .i64 v).wf = true) (hz : z.length = 2) (hzw : ∀ x ∈ z, (Lit.int .i64 x).wf = true) (hL : HasLevels w) : Calls Tryd.prog 7 #[.int .i64 k, .int .i64 v, .agg (z.map (Value.int .i64)).toArray] w fun e w' => e = .returned (.bool true) ∧ Below w.heap.size w w' := by
  obtain ⟨g0, g1, rfl⟩ : ∃ a b, z = [a, b] := by
    rcases z with _ | ⟨a, _ | ⟨b, _ | ⟨c, r⟩⟩⟩
    · cases hz
    · cases hz
    · exact ⟨a, b, rfl⟩
    · simp at hz
  clear hz hzw w0 w1
  have t0 : -6 < Int.tmod k 6 ∧ Int.tmod k 6 < 6 := ⟨Int.lt_tmod_of_pos k (by decide), Int.tmod_lt_of_pos k (by decide)⟩
  obtain ⟨K, hK1, hK2⟩ : ∃ K : Nat, Int.tmod (Int.tmod k 6 + 6) 6 = (K : Int) ∧ K < 6 := by
    have h2 : Int.tmod (Int.tmod k 6 + 6) 6 = (Int.tmod k 6 + 6) % 6 := Int.tmod_eq_emod_of_nonneg (by omega)
    exact ⟨((Int.tmod k 6 + 6) % 6).toNat, by rw [h2]; omega, by omega⟩
  have hor : bits .or .i64 192 (g1 % 32) = 192 + g1 % 32 := or_add 5 192 (g1 % 32) (by decide) (by decide) (by decide) (by omega) (by omega) (by omega)
  have h0 : ∀ j, j < 32 → 0 ≤ (fun _ : Nat => (0 : Int)) j ∧ (fun _ : Nat => (0 : Int)) j ≤ 31 := fun j _ => by simp
  obtain ⟨c, hc⟩ : ∃ c, 192 + g1 % 32 = c := ⟨_, rfl⟩
  obtain ⟨V, hV⟩ : ∃ V, v % 32 = V := ⟨_, rfl⟩
  have c1 : c / 64 = 3 := by omega
  have ok1 : okP (wavF K 0 0 0 0 0 0 fun _ => 0) := wav_ok hK2 (by decide) (by decide) (by decide) (by decide) (by decide) (by decide) h0
  have ok2 : okP (wavF K (g0 % 256) 0 0 0 0 0 fun _ => 0) := wav_ok hK2 (by omega) (by decide) (by decide) (by decide) (by decide) (by decide) h0
  have ok3 : okP (wavF K (g0 % 256) 0 c 0 0 0 fun _ => 0) := wav_ok hK2 (by omega) (by decide) (by omega) (by decide) (by decide) (by decide) h0
  have ok4 : okP (wavF K (g0 % 256) 0 c (g1 / 256 % 256) 0 0 fun _ => 0) := wav_ok hK2 (by omega) (by decide) (by omega) (by omega) (by decide) (by decide) h0
  have ok5 : okP (dirF K (g0 % 256) c (g1 / 256 % 256) V) := dir_ok hK2 (by omega) (by omega) (by omega) (by omega)
  have e1 : wrF freshF 0 (K : Int) = wavF K 0 0 0 0 0 0 fun _ => 0 := by
    rw [wr0_is, show (K : Int) % 8 = (K : Int) by omega]
    exact put_first hK2
  have e2 : wrF (wavF K 0 0 0 0 0 0 fun _ => 0) 1 g0 = wavF K (g0 % 256) 0 0 0 0 0 fun _ => 0 := wr_1 g0
  have e3 : wrF (wavF K (g0 % 256) 0 0 0 0 0 fun _ => 0) 4 c = wavF K (g0 % 256) 0 c 0 0 0 fun _ => 0 := by rw [wr_4 hK2, show c % 256 = c by omega, if_neg (by omega)]
  have e4 : wrF (wavF K (g0 % 256) 0 c 0 0 0 fun _ => 0) 5 (g1 / 256) = wavF K (g0 % 256) 0 c (g1 / 256 % 256) 0 0 fun _ => 0 := wr_5 hK2 _
  have e5 : wrF (wavF K (g0 % 256) 0 c (g1 / 256 % 256) 0 0 fun _ => 0) 6 V = dirF K (g0 % 256) c (g1 / 256 % 256) V := by rw [wr_6d hK2 V (by omega), show V % 256 % 32 = V by omega]; rfl
  have gl : gainOf c (g1 / 256 % 256 / 16) (g0 % 256 / 16) = gainOf g1 (g1 / 4096) (g0 / 16) := by unfold gainOf; congr 1; omega
  have gr : gainOf c (g1 / 256 % 256 % 16) (g0 % 256 % 16) = gainOf g1 (g1 / 256) g0 := by unfold gainOf; congr 1; omega
  obtain ⟨dl, dr⟩ := dir_left (K := K) (m := g0 % 256) (c := c) (bl := g1 / 256 % 256) (V := V) hK2 c1
  rw [gl] at dl
  rw [gr] at dr
  have KS : ∀ u : World, HasLevels u → _ := fun u hu => samples_any (dirF K (g0 % 256) c (g1 / 256 % 256) V) 3 (by decide) (by decide) ok5 u hu
  rw [dir_it c1] at KS
  refine direct_go k v g0 g1 _ (g1 % 32) c V _ _ K (smp (dirF K (g0 % 256) c (g1 / 256 % 256) V)) _ _ _ _ _ (rowF (iv (dirF K (g0 % 256) c (g1 / 256 % 256) V)) 244) w (hide hL) rfl t0.1 t0.2 hK1 hK2 (by rw [and_31, hV]) (by omega) (by omega) (and_31 g1) (by rw [hor, hc])
    (hide fun u => fresh_any u) (hide fun u => write_any freshF 0 K fresh_ok u) (hide fun u => write_any _ 1 g0 (by rw [e1]; exact ok1) u) (hide fun u => write_any _ 4 c (by rw [e1, e2]; exact ok2) u) (hide fun u => write_any _ 5 (g1 / 256) (by rw [e1, e2, e3]; exact ok3) u)
    (hide fun u => by
      have q := write_any (wrF (wrF (wrF (wrF freshF 0 K) 1 g0) 4 c) 5 (g1 / 256)) 6 V (by rw [e1, e2, e3, e4]; exact ok4) u
      rw [show wrF (wrF (wrF (wrF (wrF freshF 0 K) 1 g0) 4 c) 5 (g1 / 256)) 6 V = dirF K (g0 % 256) c (g1 / 256 % 256) V by rw [e1, e2, e3, e4, e5]] at q
      exact q)
    (hide KS) (is244 _) (is244 _) (fun w => psg_neq _ w) rfl rfl (gain_in _ _ _).1 (gain_in _ _ _).2 (gain_in _ _ _).1 (gain_in _ _ _).2
    (hide fun i => by
      unfold smp
      rw [dir_it c1, dir_it c1, if_pos (by omega), if_neg (by omega)]
      exact ⟨dl, dr⟩)

set_option maxRecDepth 100000 in
theorem psgDirect_lifted (os : Os) (started : os.Started) (H : Type) (enc : TypeId × Value → H) :
    ReturnsInHanded {} Tryd.checked os 7 .any (fun w args => (Rows.psgDirectSpec.pre enc Tryd.prog Tryd.f7 [] false w args ∧ laidMetH Tryd.prog laidLev w) ∧ sizedMet enc Tryd.prog Tryd.f7 (OpenSpec.ofChange Rows.psgDirectSpec) false w args)
      (Rows.psgDirectSpec.post enc Tryd.prog Tryd.f7 false true false false) := by
  refine returnsInHanded_of_change_and (C := Tryd.checked) (X := fun w _ => laidMetH Tryd.prog laidLev w) (fun _ _ _ hh h => h.of_heap hh) own started (by kernel_rfl) Tryd.func7
    (ChangeSpec.witness_at (enc := enc) (C := Tryd.checked) (os := os) (X := fun w _ => laidMetH Tryd.prog laidLev w) false (laidWorld os) #[.int .i64 0, .int .i64 0, .agg #[.int .i64 0, .int .i64 0]] 8 rfl (by kernel_rfl) (by kernel_rfl) (by kernel_rfl) (by kernel_rfl) (by kernel_rfl) (laidWorld_lev os _)) ?_
  intro W base args ds gs before hval0 hW _ _ hL _
  have hval : ∀ (j : Nat) t v, Tryd.f7.params[j]? = some t → args[j]? = some v → Value.okWide Tryd.prog W .any base t v := hval0
  have hW' := hW
  obtain ⟨p, q, hA0, hV, rfl, hfz, hnd⟩ := hW
  have hA : DataW.TrodAll enc Tryd.prog W 0 (fun _ => true) true Tryd.f7.params.toList args.toList ds p := hA0
  rw [Tryd.params7] at hA hval
  obtain ⟨v0, vs0, d0, ds0, p0, q0, hargs, rfl, rfl, h0, r0⟩ := trodAll_cons hA
  obtain ⟨v1, vs1, d1, ds1, p1, q1, rfl, rfl, rfl, h1, r1⟩ := trodAll_cons r0
  obtain ⟨v2, vs2, d2, ds2, p2, q2, rfl, rfl, rfl, h2, r2⟩ := trodAll_cons r1
  obtain ⟨rfl, rfl, rfl⟩ := trodAll_nil r2
  obtain rfl : args = #[v0, v1, v2] := by cases args; simp_all
  obtain ⟨rfl, rfl⟩ := trodVars_none hV
  obtain ⟨a0, rfl, rfl, rfl, w0⟩ := open_int Tryd.underlying3 (hval 0 3 v0 rfl rfl) h0
  obtain ⟨a1, rfl, rfl, rfl, w1⟩ := open_int Tryd.underlying3 (hval 1 3 v1 rfl rfl) h1
  have k2 := h2
  have lt2 : ∀ x ∈ p2, x.block < W.heap.size := by obtain ⟨m, hm⟩ := k2; exact DataW.trod_lt m _ _ _ hm
  obtain ⟨z2, l2, rfl, w2⟩ := open_array_ints Tryd.underlying40 Tryd.underlying3 (by kernel_rfl) (by kernel_rfl) (hval 2 40 v2 rfl rfl) h2
  clear hA0 hval0
  refine (psgDirect_walk a0 a1 z2 W w0 w1 l2 w2 (laid_lev hL)).mono fun e W' ⟨he, bel⟩ => ?_
  subst he
  exact ⟨_, rfl, _, _, _, [], _, [], hW', trodAll_mk1 (shut_bool Tryd.underlying4 _), (trodAll_cons_mk (shut_int Tryd.underlying3 w0) (trodAll_cons_mk (shut_int Tryd.underlying3 w1) (trodAll_cons_mk (Below.trod laidOut (by kernel_rfl) (of_decide_eq_true (by kernel_rfl)) k2 bel lt2) trodAll_mk0))), rfl, bel.frame _, fun h => by cases h⟩

theorem psgDirect_over : Rows.psgDirectRow.holds Tryd.pinned (OpenSpec.ofChange Rows.psgDirectSpec) :=
  OpenClaim.holds_of_wide 7 Tryd.f7 rfl rfl rfl rfl rfl rfl rfl ⟨rfl, rfl, rfl, rfl, rfl⟩ rfl rfl rfl rfl rfl (by kernel_rfl) Tryd.func7 (by kernel_rfl)
    (of_decide_eq_true (by kernel_rfl)) (by unfold Func.isWrapper; first | (rw [if_pos (by decide +kernel)]; kernel_rfl) | (rw [if_neg (by decide +kernel)]; exact ⟨rfl, rfl⟩))
    (fun os started H enc _ => psgDirect_lifted os started H enc)

theorem psgDirect_row : Rows.PsgDirectSaid := psgDirect_over

theorem psgDirect_holds : Rows.PsgDirectCardSaid :=
  Claim7.holds_tied_plain_at .later [] [.data] true (true, "44e93f02091fb777b829c2094e8ff427b31d8bf2f2d5906b7fee23afb9181329") false
    psgDirect_row (fun _ h => by cases h) (by kernel_rfl) (fun _ h => by cases h) psgDirect_row_tie rfl ⟨rfl, rfl⟩ (by kernel_rfl) rfl
    (fun f fn hf hfn => by
      obtain rfl : f = 7 := Option.some.inj ((show Tryd.prog.funcNamed "phosphor/phosphorlaw22.PsgDirect" = some 7 by kernel_rfl).symm.trans hf) |>.symm
      obtain rfl : fn = Tryd.f7 := (Option.some.inj (Tryd.func7.symm.trans hfn)).symm
      exact ⟨by kernel_rfl, fun j t ht => by
        rw [Tryd.params7] at ht
        rcases j with _ | _ | _ | j
        · obtain rfl : t = 3 := by simpa using ht.symm
          exact (show Tryd.prog.wantsStandIn 3 = false by kernel_rfl)
        · obtain rfl : t = 3 := by simpa using ht.symm
          exact (show Tryd.prog.wantsStandIn 3 = false by kernel_rfl)
        · obtain rfl : t = 40 := by simpa using ht.symm
          exact (show Tryd.prog.wantsStandIn 40 = false by kernel_rfl)
        · simp at ht⟩)
    (by kernel_rfl)
#print axioms psgDirect_holds
end Go.Proofs.YtcpilhbinkamiaaDoor
