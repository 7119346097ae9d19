/- For every wave and every two numbers the law PsgWaves of layer 22 returns true, where the program's table of levels holds what its own initialiser lays: a wave that is written, number by number, is heard in its numbers, in turn, as often as its frequency says. -/
import Derived.Test.YtcpilhbinkamiaaDoorWav22
import Derived.Test.YtcpilhbinkamiaaDoorOpen22
import Derived.Test.YtcpilhbinkamiaaDoorLevLaid
import Derived.Test.YtcpilhbinkamiaaDoorTie
import Derived.Test.YtcpilhbinkamiaaDoorCards
import Derived.SevenTiedAt
import Derived.OpenShut
import Derived.ShutString
import Derived.ChangeOld
import Derived.Below
namespace Go.Proofs.YtcpilhbinkamiaaDoor
open Go.ChangeShapes Go.WideShapes Go.ChangeAt Go.RowKit
open Go.ChangeMaps (open_string shut_string)
set_option linter.unusedVariables false
theorem own : ownKnob Tryd.prog.godebug = none := by kernel_rfl

/-- The wave behind so many writes. -/
def wvTo (z : List Int) (n : Nat) : Nat → Int := fun j => if j < n then z.getD j 0 % 32 else 0
theorem wv_next (z : List Int) (n : Nat) : up (wvTo z n) n (z.getD n 0 % 256 % 32) = wvTo z (n + 1) := by
  funext j
  unfold up wvTo
  by_cases h : j = n
  · rw [if_pos h, if_pos (by omega), h]
    omega
  · rw [if_neg h]
    by_cases h2 : j < n
    · rw [if_pos h2, if_pos (by omega)]
    · rw [if_neg h2, if_neg (by omega)]
theorem wv_in (z : List Int) (n j : Nat) : 0 ≤ wvTo z n j ∧ wvTo z n j ≤ 31 := by
  unfold wvTo
  split <;> omega
/-- The sound behind so many writes of the wave. -/
def wavs (z : List Int) (K : Nat) (fq : Int) (n : Nat) : Nat → Int := wavF K 255 fq 0 255 ((n : Int) % 32) 0 (wvTo z n)
theorem wvTo_0 (z : List Int) : wvTo z 0 = fun _ => 0 := by
  funext j
  unfold wvTo
  rw [if_neg (by omega)]
theorem gain_full : gainOf 159 (255 / 16) (255 / 16) = 1024 ∧ gainOf 159 (255 % 16) (255 % 16) = 1024 := by decide
theorem waves_smp (z : List Int) (K : Nat) (fq : Int) (hK : K < 6) (f0 : 0 ≤ fq ∧ fq ≤ 255) (i r : Nat) (hr : r < 2) (s : Nat) (hs : ((i : Int) + 1) * 455 / (6 * orL fq 4096) % 32 = (s : Int)) (hs2 : s < 32) : smp (wavF K 255 fq 159 255 0 0 (wvTo z 32)) (i * 2 + r) = (z.getD s 0 % 32 - 16) * 1024 := by
  have ho := orL_in (n := fq) (l := 4096) (by omega)
  unfold smp
  rw [show (i * 2 + r) / 2 = i by omega, wav_it hK (by decide) ho.1 (i + 1), show ((i + 1 : Nat) : Int) * 455 = ((i : Int) + 1) * 455 by omega, hs]
  obtain ⟨l, rr⟩ := wav_left (k := K) (m := 255) (fq := fq) (c := 159) (bl := 255) (ix := (s : Int)) (ac := ((i : Int) + 1) * 455 % (6 * orL fq 4096)) (W := wvTo z 32) hK (by decide) s hs2 rfl
  rw [gain_full.1] at l
  rw [gain_full.2] at rr
  rw [l, rr]
  have e : wvTo z 32 s = z.getD s 0 % 32 := by unfold wvTo; rw [if_pos hs2]
  rw [e]
  split <;> rfl
def Is244 (R : Array Value) : Prop := R.size = 244 ∧ R.all (·.oneCell') = true
theorem Is244.info {R : Array Value} (h : Is244 R) : (Tryd.prog.info? 27).map (·.size) = some R.size := by
  rw [h.1]
  kernel_rfl
theorem Is244.zero {R : Array Value} (h : Is244 R) : (rowF (iv fun _ => 0) 244).size = R.size := by rw [rowF_size, h.1]
theorem is244 (f : Nat → Int) : Is244 (rowF (iv f) 244) := ⟨rowF_size _ _, rowF_one _ _⟩
/-- What stands in a law: the wave's block, the sound's, and all that was there. -/
def Env (w0 : World) (s0 b7 : Nat) (Z R : Array Value) (w : World) : Prop := w.heap[s0]? = some (.cells Z 22 (0, 0)) ∧ w.heap[b7]? = some (.cells R 27 (0, 0)) ∧ Below s0 w0 w
theorem Env.next {w0 w w' : World} {s0 b7 : Nat} {Z R : Array Value} (h : Env w0 s0 b7 Z R w) (hB : s0 ≤ w0.heap.size) (k : Below w.heap.size w w') : Env w0 s0 b7 Z R w' := ⟨(k.block _ (lt_of_block h.1)).trans h.1, (k.block _ (lt_of_block h.2.1)).trans h.2.1, bnext2 h.2.2 hB k⟩
theorem Env.put {w0 w : World} {s0 b7 : Nat} {Z R : Array Value} (h : Env w0 s0 b7 Z R w) (hb : s0 < b7) (Q : Array Value) : Env w0 s0 b7 Z Q (w.setRow b7 Q) := ⟨(setRow_other w b7 s0 Q (by omega)).trans h.1, setRow_heap _ _ _ _ _ _ h.2.1, below_setRow h.2.2 (by omega) _⟩
set_option maxHeartbeats 4000000 in
theorem waves_go (z : List Int) (freq k t : Int) (K : Nat) (fq p : Int) (S : Nat → Int) (Rf R1 R2 R3 R4 R5 R8 R9 : Array Value) (G : Nat → Array Value) (w : World) (HL : Hid (HasLevels w)) (hz : z.length = 32) (ht : Int.tmod k 4 = t) (t0 : -4 < t) (t1 : t < 4) (hk : Int.tmod (t + 4) 4 = (K : Int)) (hK : K < 4) (hf : bits .and .i64 freq 255 = fq) (f0 : 0 ≤ fq) (f1 : fq ≤ 255) (hp : p = 6 * orL fq 4096)
    (KF : Hid (∀ u : World, Calls Tryd.prog 11 #[] u fun e w' => e = Ending.returned (.agg Rf) ∧ Below u.heap.size u w'))
    (K1 : Hid (∀ u : World, Calls Tryd.prog 14 #[.agg Rf, .int .i64 0, .int .i64 (K : Int)] u fun e w' => e = Ending.returned (.agg R1) ∧ Below u.heap.size u w')) (K2 : Hid (∀ u : World, Calls Tryd.prog 14 #[.agg R1, .int .i64 1, .int .i64 255] u fun e w' => e = Ending.returned (.agg R2) ∧ Below u.heap.size u w')) (K3 : Hid (∀ u : World, Calls Tryd.prog 14 #[.agg R2, .int .i64 2, .int .i64 fq] u fun e w' => e = Ending.returned (.agg R3) ∧ Below u.heap.size u w')) (K4 : Hid (∀ u : World, Calls Tryd.prog 14 #[.agg R3, .int .i64 5, .int .i64 255] u fun e w' => e = Ending.returned (.agg R4) ∧ Below u.heap.size u w')) (K5 : Hid (∀ u : World, Calls Tryd.prog 14 #[.agg R4, .int .i64 4, .int .i64 64] u fun e w' => e = Ending.returned (.agg R5) ∧ Below u.heap.size u w')) (K6 : Hid (∀ u : World, Calls Tryd.prog 14 #[.agg R5, .int .i64 4, .int .i64 0] u fun e w' => e = Ending.returned (.agg (G 0)) ∧ Below u.heap.size u w'))
    (K7 : Hid (∀ i, i < 32 → ∀ u : World, Calls Tryd.prog 14 #[.agg (G i), .int .i64 6, .int .i64 (z.getD i 0)] u fun e w' => e = Ending.returned (.agg (G (i + 1))) ∧ Below u.heap.size u w'))
    (K8 : Hid (∀ u : World, Calls Tryd.prog 14 #[.agg (G 32), .int .i64 4, .int .i64 159] u fun e w' => e = Ending.returned (.agg R8) ∧ Below u.heap.size u w')) (KS : Hid (∀ u : World, HasLevels u → Calls Tryd.prog 8 #[.agg R8, .int .i64 50] u fun e w' => ∃ g, e = Ending.returned (.tuple #[.slice (some ⟨g, 0, none⟩) 50 50, .agg R9]) ∧ HasF 40 w' g (50 * 2) (iv S) ∧ Below u.heap.size u w'))
    (I2 : Is244 R2) (I4 : Is244 R4) (IG : ∀ i, Is244 (G i)) (I8 : Is244 R8) (I9 : Is244 R9)
    (HS : Hid (∀ i s : Nat, i < 50 → s < 32 → ((i : Int) + 1) * 455 / p % 32 = (s : Int) → S (i * 2) = (z.getD s 0 % 32 - 16) * 1024 ∧ S (i * 2 + 1) = (z.getD s 0 % 32 - 16) * 1024)) : Calls Tryd.prog 5 #[.agg (z.map (Value.int .i64)).toArray, .int .i64 freq, .int .i64 k] w fun e w' => e = .returned (.bool true) ∧ Below w.heap.size w w' := by
  have HZ : Hid ((w.alloc (.cells (z.map (Value.int .i64)).toArray 22)).heap[w.heap.size]? = some (.cells (z.map (Value.int .i64)).toArray 22 (0, 0))) := hide (heap_alloc_new _ _)
  have ZC : Hid (∀ j, j < 32 → (z.map (Value.int .i64)).toArray[j]? = some (.int .i64 (z.getD j 0))) := hide (fun j hj => by simp [List.getD, List.getElem?_eq_getElem (show j < z.length by omega)])
  have B0 : Hid (Below w.heap.size w (w.alloc (.cells (z.map (Value.int .i64)).toArray 22))) := hide ((Below.refl _ w).alloc (Nat.le_refl _) _)
  generalize (z.map (Value.int .i64)).toArray = Z at *
  set_option maxRecDepth 20000 in
  go_enter Tryd.func5, Tryd.ntmps5
  set_option maxRecDepth 20000 in
  go_wp2_with (first
    | (go_at_call 11; refine (KF.out _).mono ?_; rintro e u1 ⟨rfl, c1⟩))
  refine (K1.out _).mono ?_
  rintro e u2 ⟨rfl, c2⟩
  set_option maxRecDepth 20000 in
  go_wp2_with fail
  refine (K2.out _).mono ?_
  rintro e u3 ⟨rfl, c3⟩
  have C3 := bnext (bnext c1 c2) c3
  have D3 := hide (bnext B0.out C3)
  have Z3 := hide ((C3.block _ (lt_of_block HZ.out)).trans HZ.out)
  clear c1 c2 c3 C3 B0 HZ
  set_option maxRecDepth 20000 in
  go_wp2_with (first
    | (refine wpList_alloced rfl 27 rfl (rowF (iv fun _ => 0) 244) zero_P ?_)
    | (refine wpList_store_row rfl 27 (.tmp 7) (.tmp 24) rfl u3.heap.size R2 (by simp [Act.eval, Act.put]) rfl 27 _ (hasF_new _ _ _ _) (I2).info (I2).zero (I2).2 ?_; refine under_list fun u4 hh => ?_; have M_u4 : Hid (u4.heap[u3.heap.size]? = some (.cells R2 27 (0, 0))) := hide (by rw [hh]; exact setRow_heap _ _ _ _ _ _ (hasF_new _ _ _ _)); have W_u4 : Below u3.heap.size u3 u4 := (by rw [hh]; exact below_setRow ((Below.refl _ _).alloc (Nat.le_refl _) _) (Nat.le_refl _) _); clear hh)
    | (obtain ⟨s0, hs0⟩ : ∃ s, w.heap.size = s := ⟨_, rfl⟩; obtain ⟨b7, hb7⟩ : ∃ s, u3.heap.size = s := ⟨_, rfl⟩; have E4 : Hid (Env w s0 b7 Z R2 u4) := hide (by rw [← hs0, ← hb7]; exact ⟨(W_u4.block _ (lt_of_block Z3.out)).trans Z3.out, M_u4.out, bnext D3.out W_u4⟩); have SB : Hid (s0 ≤ w.heap.size ∧ s0 < b7) := hide ⟨by omega, by have := lt_of_block Z3.out; omega⟩; rw [hs0, hb7]; clear M_u4 W_u4 Z3 D3 hb7; refine wpList_load_row rfl 27 (.tmp 7) rfl b7 rfl _ _ _ _ E4.out.2.1 Tryd.underlying27 rfl (I2).info ?_))
  refine (K3.out _).mono ?_
  rintro e u5 ⟨rfl, c5⟩
  replace E4 := hide (E4.out.next SB.out.1 c5)
  clear c5
  set_option maxRecDepth 20000 in
  go_wp2_with fail
  refine (K4.out _).mono ?_
  rintro e u6 ⟨rfl, c6⟩
  replace E4 := hide (E4.out.next SB.out.1 c6)
  clear c6
  set_option maxRecDepth 20000 in
  go_wp2_with (first
    | (refine wpList_store_row rfl 27 (.tmp 7) (.tmp 28) rfl b7 R4 rfl rfl 27 _ E4.out.2.1 (I4).info ((I2).1.trans (I4).1.symm) (I4).2 ?_; refine under_list fun u7 hh => ?_; have E5 : Hid (Env w s0 b7 Z R4 u7) := hide (by rw [hh]; exact E4.out.put SB.out.2 _); clear hh E4)
    | (refine wpList_load_row rfl 27 (.tmp 7) rfl b7 rfl _ _ _ _ E5.out.2.1 Tryd.underlying27 rfl (I4).info ?_))
  refine (K5.out _).mono ?_
  rintro e u8 ⟨rfl, c8⟩
  replace E5 := hide (E5.out.next SB.out.1 c8)
  clear c8
  set_option maxRecDepth 20000 in
  go_wp2_with fail
  refine (K6.out _).mono ?_
  rintro e u9 ⟨rfl, c9⟩
  replace E5 := hide (E5.out.next SB.out.1 c9)
  clear c9 KF K1 K2 K3 K4 K5 K6
  set_option maxRecDepth 20000 in
  go_wp2_with (first
    | (refine wpList_store_row rfl 27 (.tmp 7) (.tmp 31) rfl b7 (G 0) rfl rfl 27 _ E5.out.2.1 (IG 0).info ((I4).1.trans (IG 0).1.symm) (IG 0).2 ?_; refine under_list fun v0 hh => ?_; have E6 : Hid (Env w s0 b7 Z (G 0) v0) := hide (by rw [hh]; exact E5.out.put SB.out.2 _); clear hh E5))
  go_loopw [8] (fun v w' => ∃ i : Nat, i ≤ 32 ∧ v = .int .i64 i ∧ Env w s0 b7 Z (G i) w') (fun v _ => 32 - (intOf v).toNat)
  case atStart => exact ⟨0, by decide, rfl, E6.out⟩
  case round =>
    clear E6
    obtain ⟨i, hi, rfl, h1⟩ := hrel
    have E1 := hide h1
    clear h1
    by_cases hlt : i < 32
    · have ci : wr.cell? ⟨s0, i, none⟩ = some (.int .i64 (z.getD i 0)) := (cell_of_row wr s0 i _ _ _ E1.out.1).trans (ZC.out i hlt)
      have KI := hide (K7.out i hlt)
      obtain ⟨H, hH⟩ : ∃ H, G (i + 1) = H := ⟨_, rfl⟩
      have IH : Is244 H := by rw [← hH]; exact IG _
      have II := IG i
      rw [hH] at KI
      obtain ⟨H0, hH0⟩ : ∃ H, G i = H := ⟨_, rfl⟩
      rw [hH0] at KI II E1
      generalize z.getD i 0 = x at *
      set_option maxRecDepth 20000 in
      go_wp2_with fail
      have k1 := kept_cell ci (lt_of_block E1.out.1)
      haveI := kept_some wr
      refine wp_region_kept_last _ _ (show _ = [_, _, _, _, _] ++ [_] from rfl) (by kernel_rfl) (by kernel_rfl) (by kernel_rfl) ?_
      repeat (first
        | (refine wpQuiet_row rfl 27 (.tmp 7) rfl b7 rfl 27 _ (0, 0) _ (fun w' ⟨x, hx⟩ => by rw [hx]; exact (x.block _ (lt_of_block E1.out.2.1)).trans E1.out.2.1) Tryd.underlying27 rfl II.info ?_; simp only [Act.put, List.setIfInBounds_toArray, List.set_cons_succ, List.set_cons_zero])
        | go_big_quiet_step ((first | (go_at_call 14; exact kept_call (KI.out _)))))
      refine wpQuiet_nil ?_
      rintro _ ⟨wk, rfl⟩
      have E2 := hide (E1.out.next SB.out.1 wk.below)
      clear E1 k1 ci KI
      set_option maxRecDepth 20000 in
      go_wp2_with (first
        | (refine wpList_store_row rfl 27 (.tmp 7) (.tmp 40) rfl b7 H rfl rfl 27 _ E2.out.2.1 (IH).info ((II).1.trans (IH).1.symm) (IH).2 ?_; refine under_list fun v1 hh => ?_; have E3 : Hid (Env w s0 b7 Z H v1) := hide (by rw [hh]; exact E2.out.put SB.out.2 _); clear hh E2))
      exact ⟨⟨i + 1, by omega, by go_num, by rw [hH]; exact E3.out⟩, by simp [intOf]; omega⟩
    · obtain rfl : i = 32 := by omega
      have I32 := IG 32
      generalize G 32 = H at *
      set_option maxRecDepth 20000 in
      go_wp2_with (first
        | (refine wpList_load_row rfl 27 (.tmp 7) rfl b7 rfl _ _ _ _ E1.out.2.1 Tryd.underlying27 rfl (I32).info ?_))
      refine (K8.out _).mono ?_
      rintro e u1 ⟨rfl, c1⟩
      have E2 := hide (E1.out.next SB.out.1 c1)
      clear c1 E1
      set_option maxRecDepth 20000 in
      go_wp2_with (first
        | (refine wpList_store_row rfl 27 (.tmp 7) (.tmp 42) rfl b7 R8 rfl rfl 27 _ E2.out.2.1 (I8).info ((I32).1.trans (I8).1.symm) (I8).2 ?_; refine under_list fun u2 hh => ?_; have E3 : Hid (Env w s0 b7 Z R8 u2) := hide (by rw [hh]; exact E2.out.put SB.out.2 _); clear hh E2)
        | (refine wpList_load_row rfl 27 (.tmp 7) rfl b7 rfl _ _ _ _ E3.out.2.1 Tryd.underlying27 rfl (I8).info ?_))
      refine (KS.out _ (HL.out.next (by rw [hs0]; exact E3.out.2.2))).mono ?_
      rintro e u3 ⟨g, rfl, hg, c3⟩
      have E4 := hide (E3.out.next SB.out.1 c3)
      have G4 := hide hg
      clear c3 E3 hg
      by_cases hfz : fq = 0
      · have p1 : p = 24576 := by rw [hp, hfz]; rfl
        subst hfz
        subst p1
        clear hp K8 KS K7 IG I8 I2 I4 I32
        set_option maxRecDepth 20000 in
        go_wp2_with (first
          | (refine wpList_alloced rfl 27 rfl (rowF (iv fun _ => 0) 244) zero_P ?_)
          | (refine wpList_store_row rfl 27 (.tmp 10) (.tmp 47) rfl u3.heap.size R9 (by simp [Act.eval]) rfl 27 _ (hasF_new _ _ _ _) I9.info I9.zero I9.2 ?_; refine under_list fun u4 hh => ?_; have W4 : Below u3.heap.size u3 u4 := (by rw [hh]; exact below_setRow ((Below.refl _ _).alloc (Nat.le_refl _) _) (Nat.le_refl _) _); have E5 := hide (E4.out.next SB.out.1 W4); have G5 := hide (G4.out.next W4); clear hh W4 E4 G4))
        go_loopw [12] (fun v w' => (∃ i : Nat, i ≤ 50 ∧ v = .int .i64 i) ∧ w' = u4) (fun v _ => 50 - (intOf v).toNat)
        case atStart => exact ⟨⟨0, by decide, rfl⟩, rfl⟩
        case round =>
          obtain ⟨⟨i, hi, rfl⟩, hw⟩ := hrel
          subst hw
          by_cases hlt2 : i < 50
          · obtain ⟨q, hq⟩ : ∃ q, ((i : Int) + 1) * 455 / 24576 = q := ⟨_, rfl⟩
            have q0 : 0 ≤ q := by rw [← hq]; exact Int.ediv_nonneg (by omega) (by omega)
            have q1 : q ≤ 22750 := by rw [← hq]; exact Int.le_trans (Int.ediv_le_self _ (by omega)) (by omega)
            have d1 : Int.tdiv (((i : Int) + 1) * 455) 24576 = q := by rw [Int.tdiv_eq_ediv_of_nonneg (by omega), hq]
            obtain ⟨r, hr⟩ : ∃ r : Nat, q % 32 = (r : Int) := ⟨(q % 32).toNat, by omega⟩
            have r1 : r < 32 := by omega
            have d2 : Int.tmod q 32 = (r : Int) := by rw [Int.tmod_eq_emod_of_nonneg q0, hr]
            obtain ⟨x0, x1⟩ := HS.out i r hlt2 r1 (by rw [hq, hr])
            have cr : wr.cell? ⟨s0, r, none⟩ = some (.int .i64 (z.getD r 0)) := (cell_of_row wr s0 r _ _ _ E5.out.1).trans (ZC.out r r1)
            have a1 := and_31 (z.getD r 0)
            have c0 := G5.out.int (i * 2) (by omega)
            have c1 := G5.out.int (i * 2 + 1) (by omega)
            rw [x0] at c0
            rw [x1] at c1
            have en := two_neq ((z.getD r 0 % 32 - 16) * 1024) ((z.getD r 0 % 32 - 16) * 1024)
            have y0 : 0 ≤ z.getD r 0 % 32 ∧ z.getD r 0 % 32 < 32 := by omega
            clear x0 x1
            generalize z.getD r 0 = y at *
            generalize y % 32 = y32 at *
            set_option maxRecDepth 20000 in
            go_wp2_with fail
            exact ⟨⟨⟨i + 1, by omega, by go_num⟩, trivial⟩, by simp [intOf]; omega⟩
          · obtain rfl : i = 50 := by omega
            set_option maxRecDepth 20000 in
            go_wp2_with fail
            go_ret
            exact ⟨rfl, by rw [hs0]; exact E5.out.2.2⟩
      · have p1 : p = 6 * fq := by rw [hp]; unfold orL; rw [if_neg hfz]
        have p2 : 6 ≤ p := by omega
        have p3 : p ≤ 1530 := by omega
        have p4 : 6 * fq = p := p1.symm
        clear hp K8 KS K7 IG I8 I2 I4 I32 p1
        set_option maxRecDepth 20000 in
        go_wp2_with (first
          | (refine wpList_alloced rfl 27 rfl (rowF (iv fun _ => 0) 244) zero_P ?_)
          | (refine wpList_store_row rfl 27 (.tmp 10) (.tmp 47) rfl u3.heap.size R9 (by simp [Act.eval]) rfl 27 _ (hasF_new _ _ _ _) I9.info I9.zero I9.2 ?_; refine under_list fun u4 hh => ?_; have W4 : Below u3.heap.size u3 u4 := (by rw [hh]; exact below_setRow ((Below.refl _ _).alloc (Nat.le_refl _) _) (Nat.le_refl _) _); have E5 := hide (E4.out.next SB.out.1 W4); have G5 := hide (G4.out.next W4); clear hh W4 E4 G4))
        go_loopw [12] (fun v w' => (∃ i : Nat, i ≤ 50 ∧ v = .int .i64 i) ∧ w' = u4) (fun v _ => 50 - (intOf v).toNat)
        case atStart => exact ⟨⟨0, by decide, rfl⟩, rfl⟩
        case round =>
          obtain ⟨⟨i, hi, rfl⟩, hw⟩ := hrel
          subst hw
          by_cases hlt2 : i < 50
          · obtain ⟨q, hq⟩ : ∃ q, ((i : Int) + 1) * 455 / p = q := ⟨_, rfl⟩
            have q0 : 0 ≤ q := by rw [← hq]; exact Int.ediv_nonneg (by omega) (by omega)
            have q1 : q ≤ 22750 := by rw [← hq]; exact Int.le_trans (Int.ediv_le_self _ (by omega)) (by omega)
            have d1 : Int.tdiv (((i : Int) + 1) * 455) p = q := by rw [Int.tdiv_eq_ediv_of_nonneg (by omega), hq]
            obtain ⟨r, hr⟩ : ∃ r : Nat, q % 32 = (r : Int) := ⟨(q % 32).toNat, by omega⟩
            have r1 : r < 32 := by omega
            have d2 : Int.tmod q 32 = (r : Int) := by rw [Int.tmod_eq_emod_of_nonneg q0, hr]
            obtain ⟨x0, x1⟩ := HS.out i r hlt2 r1 (by rw [hq, hr])
            have cr : wr.cell? ⟨s0, r, none⟩ = some (.int .i64 (z.getD r 0)) := (cell_of_row wr s0 r _ _ _ E5.out.1).trans (ZC.out r r1)
            have a1 := and_31 (z.getD r 0)
            have c0 := G5.out.int (i * 2) (by omega)
            have c1 := G5.out.int (i * 2 + 1) (by omega)
            rw [x0] at c0
            rw [x1] at c1
            have en := two_neq ((z.getD r 0 % 32 - 16) * 1024) ((z.getD r 0 % 32 - 16) * 1024)
            have y0 : 0 ≤ z.getD r 0 % 32 ∧ z.getD r 0 % 32 < 32 := by omega
            clear x0 x1
            generalize z.getD r 0 = y at *
            generalize y % 32 = y32 at *
            set_option maxRecDepth 20000 in
            go_wp2_with fail
            exact ⟨⟨⟨i + 1, by omega, by go_num⟩, trivial⟩, by simp [intOf]; omega⟩
          · obtain rfl : i = 50 := by omega
            set_option maxRecDepth 20000 in
            go_wp2_with fail
            go_ret
            exact ⟨rfl, by rw [hs0]; exact E5.out.2.2⟩
theorem psgWaves_walk (z : List Int) (freq k : Int) (w : World) (hz : z.length = 32) (hzw : ∀ x ∈ z, (Lit.int .i64 x).wf = true) (w1 : (Lit.int .i64 freq).wf = true) (w2 : (Lit.int .i64 k).wf = true) (hL : HasLevels w) : Calls Tryd.prog 5 #[.agg (z.map (Value.int .i64)).toArray, .int .i64 freq, .int .i64 k] w fun e w' => e = .returned (.bool true) ∧ Below w.heap.size w w' := by
  have t0 : -4 < Int.tmod k 4 ∧ Int.tmod k 4 < 4 := ⟨Int.lt_tmod_of_pos k (by decide), Int.tmod_lt_of_pos k (by decide)⟩
  obtain ⟨K, hK1, hK2⟩ : ∃ K : Nat, Int.tmod (Int.tmod k 4 + 4) 4 = (K : Int) ∧ K < 4 := by
    have h2 : Int.tmod (Int.tmod k 4 + 4) 4 = (Int.tmod k 4 + 4) % 4 := Int.tmod_eq_emod_of_nonneg (by omega)
    exact ⟨((Int.tmod k 4 + 4) % 4).toNat, by rw [h2]; omega, by omega⟩
  have hf := and_255 freq
  obtain ⟨fq, hfq⟩ : ∃ fq, freq % 256 = fq := ⟨_, rfl⟩
  have f0 : 0 ≤ fq ∧ fq ≤ 255 := by omega
  rw [hfq] at hf
  clear hfq
  have hk6 : K < 6 := by omega
  have hW : ∀ n j, j < 32 → 0 ≤ wvTo z n j ∧ wvTo z n j ≤ 31 := fun n j _ => wv_in z n j
  have h0 : ∀ j, j < 32 → 0 ≤ (fun _ : Nat => (0 : Int)) j ∧ (fun _ : Nat => (0 : Int)) j ≤ 31 := fun j _ => by simp
  have ok1 : okP (wavF K 0 0 0 0 0 0 fun _ => 0) := wav_ok hk6 (by decide) (by decide) (by decide) (by decide) (by decide) (by decide) h0
  have ok2 : okP (wavF K 255 0 0 0 0 0 fun _ => 0) := wav_ok hk6 (by decide) (by decide) (by decide) (by decide) (by decide) (by decide) h0
  have ok3 : okP (wavF K 255 fq 0 0 0 0 fun _ => 0) := wav_ok hk6 (by decide) (by omega) (by decide) (by decide) (by decide) (by decide) h0
  have ok4 : okP (wavF K 255 fq 0 255 0 0 fun _ => 0) := wav_ok hk6 (by decide) (by omega) (by decide) (by decide) (by decide) (by decide) h0
  have ok5 : okP (wavF K 255 fq 64 255 0 0 fun _ => 0) := wav_ok hk6 (by decide) (by omega) (by decide) (by decide) (by decide) (by decide) h0
  have okG : ∀ n : Nat, okP (wavs z K fq n) := fun n => wav_ok hk6 (by decide) (by omega) (by decide) (by decide) (by omega) (by decide) (hW n)
  have ok8 : okP (wavF K 255 fq 159 255 0 0 (wvTo z 32)) := wav_ok hk6 (by decide) (by omega) (by decide) (by decide) (by decide) (by decide) (hW 32)
  have e1 : wrF freshF 0 (K : Int) = wavF K 0 0 0 0 0 0 fun _ => 0 := by
    rw [wr0_is, show (K : Int) % 8 = (K : Int) by omega]
    exact put_first hk6
  have e2 : wrF (wavF K 0 0 0 0 0 0 fun _ => 0) 1 255 = wavF K 255 0 0 0 0 0 fun _ => 0 := wr_1 255
  have e3 : wrF (wavF K 255 0 0 0 0 0 fun _ => 0) 2 fq = wavF K 255 fq 0 0 0 0 fun _ => 0 := by rw [wr_2 hk6 (by decide), show fq % 256 = fq by omega]
  have e4 : wrF (wavF K 255 fq 0 0 0 0 fun _ => 0) 5 255 = wavF K 255 fq 0 255 0 0 fun _ => 0 := wr_5 hk6 255
  have e5 : wrF (wavF K 255 fq 0 255 0 0 fun _ => 0) 4 64 = wavF K 255 fq 64 255 0 0 fun _ => 0 := wr_4 hk6 64
  have e6 : wrF (wavF K 255 fq 64 255 0 0 fun _ => 0) 4 0 = wavs z K fq 0 := by
    unfold wavs
    rw [wvTo_0]
    exact wr_4 hk6 0
  have e7 : ∀ i, i < 32 → wrF (wavs z K fq i) 6 (z.getD i 0) = wavs z K fq (i + 1) := fun i hi => by
    unfold wavs
    rw [wr_6 hk6 (z.getD i 0) (by decide) i hi (by omega), wv_next, show ((i : Int) % 32 + 1) % 32 = ((i + 1 : Nat) : Int) % 32 by omega]
  have e8 : wrF (wavs z K fq 32) 4 159 = wavF K 255 fq 159 255 0 0 (wvTo z 32) := wr_4 hk6 159
  have ho := orL_in (n := fq) (l := 4096) (by omega)
  refine waves_go z freq k _ K fq _ (smp (wavF K 255 fq 159 255 0 0 (wvTo z 32))) _ _ _ _ _ _ _ _ (fun n => rowF (iv (wavs z K fq n)) 244) w (hide hL) hz rfl t0.1 t0.2 hK1 hK2 hf f0.1 f0.2 rfl
    (hide fun u => fresh_any u)
    (hide fun u => write_any freshF 0 K fresh_ok u) (hide fun u => write_any _ 1 255 (by rw [e1]; exact ok1) u) (hide fun u => write_any _ 2 fq (by rw [e1, e2]; exact ok2) u) (hide fun u => write_any _ 5 255 (by rw [e1, e2, e3]; exact ok3) u) (hide fun u => write_any _ 4 64 (by rw [e1, e2, e3, e4]; exact ok4) u)
    (hide fun u => by
      have k := write_any (wrF (wrF (wrF (wrF (wrF freshF 0 K) 1 255) 2 fq) 5 255) 4 64) 4 0 (by rw [e1, e2, e3, e4, e5]; exact ok5) u
      rw [show wrF (wrF (wrF (wrF (wrF (wrF freshF 0 K) 1 255) 2 fq) 5 255) 4 64) 4 0 = wavs z K fq 0 by rw [e1, e2, e3, e4, e5, e6]] at k
      exact k)
    (hide fun i hi u => by
      have k := write_any (wavs z K fq i) 6 (z.getD i 0) (okG i) u
      rw [e7 i hi] at k
      exact k)
    (hide fun u => by
      have k := write_any (wavs z K fq 32) 4 159 (okG 32) u
      rw [e8] at k
      exact k)
    (hide fun u hu => samples_any (wavF K 255 fq 159 255 0 0 (wvTo z 32)) 50 (by decide) (by decide) ok8 u hu)
    (is244 _) (is244 _) (fun n => is244 _) (is244 _) (is244 _)
    (hide fun i s hi hs h => ⟨waves_smp z K fq hk6 f0 i 0 (by decide) s h hs, waves_smp z K fq hk6 f0 i 1 (by decide) s h hs⟩)

set_option maxRecDepth 100000 in
theorem psgWaves_lifted (os : Os) (started : os.Started) (H : Type) (enc : TypeId × Value → H) :
    ReturnsInHanded {} Tryd.checked os 5 .any (fun w args => (Rows.psgWavesSpec.pre enc Tryd.prog Tryd.f5 [] false w args ∧ laidMetH Tryd.prog laidLev w) ∧ sizedMet enc Tryd.prog Tryd.f5 (OpenSpec.ofChange Rows.psgWavesSpec) false w args)
      (Rows.psgWavesSpec.post enc Tryd.prog Tryd.f5 false true false false) := by
  refine returnsInHanded_of_change_and (C := Tryd.checked) (X := fun w _ => laidMetH Tryd.prog laidLev w) (fun _ _ _ hh h => h.of_heap hh) own started (by kernel_rfl) Tryd.func5
    (ChangeSpec.witness_at (enc := enc) (C := Tryd.checked) (os := os) (X := fun w _ => laidMetH Tryd.prog laidLev w) false (laidWorld os) #[.agg #[.int .i64 0, .int .i64 0, .int .i64 0, .int .i64 0, .int .i64 0, .int .i64 0, .int .i64 0, .int .i64 0, .int .i64 0, .int .i64 0, .int .i64 0, .int .i64 0, .int .i64 0, .int .i64 0, .int .i64 0, .int .i64 0, .int .i64 0, .int .i64 0, .int .i64 0, .int .i64 0, .int .i64 0, .int .i64 0, .int .i64 0, .int .i64 0, .int .i64 0, .int .i64 0, .int .i64 0, .int .i64 0, .int .i64 0, .int .i64 0, .int .i64 0, .int .i64 0], .int .i64 0, .int .i64 0] 8 rfl (by kernel_rfl) (by kernel_rfl) (by kernel_rfl) (by kernel_rfl) (by kernel_rfl) (laidWorld_lev os _)) ?_
  intro W base args ds gs before hval0 hW _ _ hL _
  have hval : ∀ (j : Nat) t v, Tryd.f5.params[j]? = some t → args[j]? = some v → Value.okWide Tryd.prog W .any base t v := hval0
  have hW' := hW
  obtain ⟨p, q, hA0, hV, rfl, hfz, hnd⟩ := hW
  have hA : DataW.TrodAll enc Tryd.prog W 0 (fun _ => true) true Tryd.f5.params.toList args.toList ds p := hA0
  rw [Tryd.params5] at hA hval
  obtain ⟨v0, vs0, d0, ds0, p0, q0, hargs, rfl, rfl, h0, r0⟩ := trodAll_cons hA
  obtain ⟨v1, vs1, d1, ds1, p1, q1, rfl, rfl, rfl, h1, r1⟩ := trodAll_cons r0
  obtain ⟨v2, vs2, d2, ds2, p2, q2, rfl, rfl, rfl, h2, r2⟩ := trodAll_cons r1
  obtain ⟨rfl, rfl, rfl⟩ := trodAll_nil r2
  obtain rfl : args = #[v0, v1, v2] := by cases args; simp_all
  obtain ⟨rfl, rfl⟩ := trodVars_none hV
  have k0 := h0
  have lt0 : ∀ x ∈ p0, x.block < W.heap.size := by obtain ⟨m, hm⟩ := k0; exact DataW.trod_lt m _ _ _ hm
  obtain ⟨z0, l0, rfl, w0⟩ := open_array_ints Tryd.underlying22 Tryd.underlying3 (by kernel_rfl) (by kernel_rfl) (hval 0 22 v0 rfl rfl) h0
  obtain ⟨a1, rfl, rfl, rfl, w1⟩ := open_int Tryd.underlying3 (hval 1 3 v1 rfl rfl) h1
  obtain ⟨a2, rfl, rfl, rfl, w2⟩ := open_int Tryd.underlying3 (hval 2 3 v2 rfl rfl) h2
  clear hA0 hval0
  refine (psgWaves_walk z0 a1 a2 W l0 w0 w1 w2 (laid_lev hL)).mono fun e W' ⟨he, bel⟩ => ?_
  subst he
  exact ⟨_, rfl, _, _, _, [], _, [], hW', trodAll_mk1 (shut_bool Tryd.underlying4 _), (trodAll_cons_mk (Below.trod laidOut (by kernel_rfl) (of_decide_eq_true (by kernel_rfl)) k0 bel lt0) (trodAll_cons_mk (shut_int Tryd.underlying3 w1) (trodAll_cons_mk (shut_int Tryd.underlying3 w2) trodAll_mk0))), rfl, bel.frame _, fun h => by cases h⟩

theorem psgWaves_over : Rows.psgWavesRow.holds Tryd.pinned (OpenSpec.ofChange Rows.psgWavesSpec) :=
  OpenClaim.holds_of_wide 5 Tryd.f5 rfl rfl rfl rfl rfl rfl rfl ⟨rfl, rfl, rfl, rfl, rfl⟩ rfl rfl rfl rfl rfl (by kernel_rfl) Tryd.func5 (by kernel_rfl)
    (of_decide_eq_true (by kernel_rfl)) (by unfold Func.isWrapper; first | (rw [if_pos (by decide +kernel)]; kernel_rfl) | (rw [if_neg (by decide +kernel)]; exact ⟨rfl, rfl⟩))
    (fun os started H enc _ => psgWaves_lifted os started H enc)

theorem psgWaves_row : Rows.PsgWavesSaid := psgWaves_over

theorem psgWaves_holds : Rows.PsgWavesCardSaid :=
  Claim7.holds_tied_plain_at .later [] [.data] true (true, "44e93f02091fb777b829c2094e8ff427b31d8bf2f2d5906b7fee23afb9181329") false
    psgWaves_row (fun _ h => by cases h) (by kernel_rfl) (fun _ h => by cases h) psgWaves_row_tie rfl ⟨rfl, rfl⟩ (by kernel_rfl) rfl
    (fun f fn hf hfn => by
      obtain rfl : f = 5 := Option.some.inj ((show Tryd.prog.funcNamed "phosphor/phosphorlaw22.PsgWaves" = some 5 by kernel_rfl).symm.trans hf) |>.symm
      obtain rfl : fn = Tryd.f5 := (Option.some.inj (Tryd.func5.symm.trans hfn)).symm
      exact ⟨by kernel_rfl, fun j t ht => by
        rw [Tryd.params5] at ht
        rcases j with _ | _ | _ | j
        · obtain rfl : t = 22 := by simpa using ht.symm
          exact (show Tryd.prog.wantsStandIn 22 = false by kernel_rfl)
        · obtain rfl : t = 3 := by simpa using ht.symm
          exact (show Tryd.prog.wantsStandIn 3 = false by kernel_rfl)
        · obtain rfl : t = 3 := by simpa using ht.symm
          exact (show Tryd.prog.wantsStandIn 3 = false by kernel_rfl)
        · simp at ht⟩)
    (by kernel_rfl)
#print axioms psgWaves_holds
end Go.Proofs.YtcpilhbinkamiaaDoor
