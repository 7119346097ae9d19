/- What ST0, ST1 and ST2 write is in the picture's registers, whatever the mapping: the walk. -/
import Derived.Test.YtoijhhbiknhlnaaGreatDoorCpuPictureJ50
import Derived.Test.YtoijhhbiknhlnaaGreatDoorCpuPictureJ01
import Derived.Test.YtoijhhbiknhlnaaGreatDoorCpuPictureJ28
namespace Go.Proofs.YtoijhhbiknhlnaaGreatDoor
set_option maxRecDepth 20000
open A2 B4 C3 D24 G6 I11 J23 K9 L24 L25 M5 N8 O7 P22 R15 T10 V12 W13
open Go.RowKit
set_option linter.unusedVariables false
def wrV (Y : Nat → Nat → Int) (a y : Int) : Nat → Nat → Int := effZ (drawZ Y a y) (effW (Y 0) a) y
theorem cz_draw {Y : Nat → Nat → Int} {M R : Nat → Int} {f l c : Int} (a y : Int) : drawZ (cz Y M R f l c) a y = cz (drawZ Y a y) M R f l c := by
  unfold drawZ
  rw [show cz Y M R f l c 0 = Y 0 from rfl, show cz Y M R f l c 5 = Y 5 from rfl, cz_base 0 _ (by decide) (by decide), cz_base 5 _ (by decide) (by decide)]
theorem cz_eff {Y : Nat → Nat → Int} {M R : Nat → Int} {f l c : Int} (e y : Int) (h6 : e ≠ 6) : effZ (cz Y M R f l c) e y = cz (effZ Y e y) M R f l c := by
  unfold effZ
  rw [show cz Y M R f l c 0 = Y 0 from rfl, show cz Y M R f l c 19 = Y 19 from rfl, show cz Y M R f l c 18 = Y 18 from rfl]
  by_cases h1 : e = 1
  · rw [if_pos h1, if_pos h1, cz_base 19 _ (by decide) (by decide)]
  by_cases h2 : e = 2
  · rw [if_neg h1, if_pos h2, if_neg h1, if_pos h2, cz_base 19 _ (by decide) (by decide)]
  by_cases h3 : e = 3
  · rw [if_neg h1, if_neg h2, if_pos h3, if_neg h1, if_neg h2, if_pos h3, cz_base 19 _ (by decide) (by decide)]
  by_cases h4 : e = 4
  · rw [if_neg h1, if_neg h2, if_neg h3, if_pos h4, if_neg h1, if_neg h2, if_neg h3, if_pos h4, cz_base 18 _ (by decide) (by decide), cz_base 19 _ (by decide) (by decide)]
  by_cases h5 : e = 5
  · rw [if_neg h1, if_neg h2, if_neg h3, if_neg h4, if_pos h5, if_neg h1, if_neg h2, if_neg h3, if_neg h4, if_pos h5, cz_base 19 _ (by decide) (by decide)]
  rw [if_neg h1, if_neg h2, if_neg h3, if_neg h4, if_neg h5, if_neg h6, if_neg h1, if_neg h2, if_neg h3, if_neg h4, if_neg h5, if_neg h6]
  by_cases h7 : e = 7
  · rw [if_pos h7, if_pos h7, cz_base 4 _ (by decide) (by decide)]
  · rw [if_neg h7, if_neg h7]
theorem cz_wrV {Y : Nat → Nat → Int} {M R : Nat → Int} {f l c : Int} {pl a : Int} (hk : kindW pl = 2) (ha : atW pl = a) (h6 : effW (Y 0) a ≠ 6) (y : Int) : wrZ (cz Y M R f l c) pl y = cz (wrV Y a y) M R f l c := by
  unfold wrZ
  rw [hk, ha, if_neg (by decide), if_pos rfl, show cz Y M R f l c 0 = Y 0 from rfl, cz_draw, cz_eff _ _ h6]
  rfl
theorem eff_keep (Y : Nat → Nat → Int) (e y : Int) (h6 : e ≠ 6) (k : Nat) (h18 : k ≠ 18) (h19 : k ≠ 19) (h4 : k ≠ 4) : effZ Y e y k = Y k := by
  unfold effZ
  split
  · exact upZ_other _ _ _ _ h19
  split
  · exact upZ_other _ _ _ _ h19
  split
  · exact upZ_other _ _ _ _ h19
  split
  · rw [upZ_other _ _ _ _ h19, upZ_other _ _ _ _ h18]
  split
  · exact upZ_other _ _ _ _ h19
  split
  · exact upZ_other _ _ _ _ h4
  · rfl
theorem eff_set (Y : Nat → Nat → Int) (e y : Int) (h6 : e ≠ 6) (hs : setZ Y = Y) : setZ (effZ Y e y) = effZ Y e y := by
  unfold effZ
  split
  · rw [setZ_up _ _ _ (by decide), hs]
  split
  · rw [setZ_up _ _ _ (by decide), hs]
  split
  · rw [setZ_up _ _ _ (by decide), hs]
  split
  · rw [setZ_up _ _ _ (by decide), setZ_up _ _ _ (by decide), hs]
  split
  · rw [setZ_up _ _ _ (by decide), hs]
  split
  · rw [setZ_up _ _ _ (by decide), hs]
  · exact hs
theorem draw_keep (Y : Nat → Nat → Int) (a y : Int) (k : Nat) (h0 : k ≠ 0) (h5 : k ≠ 5) : drawZ Y a y k = Y k := by
  unfold drawZ
  rw [upZ_other _ _ _ _ h5, upZ_other _ _ _ _ h0]
theorem wrV_calm {Y : Nat → Nat → Int} (h : L25.Calm Y) (a y : Int) (h6 : effW (Y 0) a ≠ 6) : L25.Calm (wrV Y a y) := by
  obtain ⟨h9, hs, h0, h1⟩ := h
  unfold wrV
  refine ⟨?_, eff_set _ _ _ h6 ?_, ?_, ?_⟩
  · rw [eff_keep _ _ _ h6 9 (by decide) (by decide) (by decide), draw_keep _ _ _ 9 (by decide) (by decide)]; exact h9
  · unfold drawZ
    rw [setZ_up _ _ _ (by decide), setZ_up _ _ _ (by decide), hs]
  · rw [eff_keep _ _ _ h6 13 (by decide) (by decide) (by decide), draw_keep _ _ _ 13 (by decide) (by decide)]; exact h0
  · rw [eff_keep _ _ _ h6 13 (by decide) (by decide) (by decide), draw_keep _ _ _ 13 (by decide) (by decide)]; exact h1
theorem wrV_0 (Y : Nat → Nat → Int) (a y : Int) (h6 : effW (Y 0) a ≠ 6) : wrV Y a y 0 = gW (Y 0) a y := by
  unfold wrV
  rw [eff_keep _ _ _ h6 0 (by decide) (by decide) (by decide)]
  rfl
theorem go_st {bs : List Int} {Y : Nat → Nat → Int} {M : Nat → Int} {q n z : Nat} (hY : L25.Calm Y) (hq : q + 7 ≤ 8192) (hN : M q = (n : Int)) (hn : n < 256) (hm : modeOf n = 2) (hl : lenOf n = 2) (hc : cycOf n = 4) (hz : z < 256) (h1 : M (q + 1) = (z : Int)) {pl a : Int} (hk : kindW pl = 2) (ha : atW pl = a) (h6 : effW (Y 0) a ≠ 6)
    (hd : ∀ {bs : List Int} {I B : Nat → Int} {t : Bool} {Z : Nat → Nat → Int}, DoZ bs (nameOf n) I B t Z (stS pl I Z)) : GoesY bs Y M 0 0 0 255 0 q false 0 (wrV Y a z) M 0 0 0 255 0 (q + 2) false 0 4 := by
  have i3 : iC M (rg 0 0 0 255 0 (8192 + (q : Int))) q n 3 = (z : Int) := by
    unfold iC
    rw [hm, hl]
    show jn (M (q + 1)) 0 = _
    rw [h1, jn_z hz]
  refine goesY_of (quiet_calm hY 0) zB zB zB mB zB hq hN hn (by rw [hm]; rfl) hd ?_
  unfold stS
  rw [i3, cz_wrV hk ha h6, show (z : Int) % 256 = (z : Int) by omega, hl, hc, show anP 0 32 = 0 by unfold anP; decide +kernel, pc2]
theorem gw_sel (g : Nat → Int) (y : Int) : gW g 0 y = gF (y % 32) (fun j => g (j + 1)) := by unfold gW; rw [if_pos rfl]
theorem gw_reg (g : Nat → Int) (a y : Int) (ha : a = 2 ∨ a = 3) (h : g 0 < 20) : gW g a y = gF (g 0) (R15.upd (fun j => g (j + 1)) (g 0).toNat (bits .and .i64 (R15.halfOf (g ((g 0).toNat + 1)) a y) (R15.mk (g 0).toNat))) := by
  unfold gW
  rw [if_neg (by rcases ha with rfl | rfl <;> decide), if_pos ⟨ha, h⟩]
theorem brings_no {k : Nat} (hk : k < 12) (a : Int) : R15.bringsOf (k : Int) a ≠ 6 := by
  unfold R15.bringsOf
  split
  · decide
  split
  · split <;> decide
  split
  · decide
  split
  · decide
  split
  · decide
  rw [if_neg (by omega), if_neg (by omega)]
  decide
theorem pic_chain (bs : List Int) {Y0 : Nat → Nat → Int} {M : Nat → Int} {k : Nat} {w : Int} (hk : k < 12) (hY : L25.Calm Y0) (h0 : Y0 0 (k + 1) = 0) (hC : (M 1024 = ((3 : Nat) : Int) ∧ M 1025 = (k : Int)) ∧ (M 1026 = ((19 : Nat) : Int) ∧ M 1027 = w % 256) ∧ (M 1028 = ((35 : Nat) : Int) ∧ M 1029 = w / 256 % 256)) :
    ∃ Y : Nat → Nat → Nat → Int, Y 0 = Y0 ∧ (∀ t, t < 3 → GoesY bs (Y t) M 0 0 0 255 0 (1024 + 2 * t) false 0 (Y (t + 1)) M 0 0 0 255 0 (1024 + 2 * (t + 1)) false 0 4) ∧ Y 3 0 0 = (k : Int) ∧ Y 3 0 (k + 1) = bits .and .i64 w (R15.mk k) := by
  obtain ⟨⟨C0, C0'⟩, ⟨C1, C1'⟩, C2, C2'⟩ := hC
  have e0 : effW (Y0 0) 0 ≠ 6 := by unfold effW; rw [if_pos rfl]; decide
  obtain ⟨Y1, hY1⟩ : ∃ Y1, Y1 = wrV Y0 0 (k : Int) := ⟨_, rfl⟩
  have c1 : L25.Calm Y1 := by rw [hY1]; exact wrV_calm hY _ _ e0
  have z1 : Y1 0 = gF (k : Int) (fun j => Y0 0 (j + 1)) := by rw [hY1, wrV_0 _ _ _ e0, gw_sel, show (k : Int) % 32 = (k : Int) by omega]
  have s1 : Y1 0 0 = (k : Int) := by rw [z1]; rfl
  have r1 : Y1 0 (k + 1) = 0 := by rw [z1]; show gF _ _ (k + 1) = 0; unfold gF; rw [if_neg (by omega)]; exact h0
  have e1 : effW (Y1 0) 2 ≠ 6 := by
    unfold effW
    rw [if_neg (by decide), s1]
    split
    · exact brings_no hk 2
    · decide
  obtain ⟨l, hl, el⟩ : ∃ l : Nat, l < 256 ∧ w % 256 = (l : Int) := ⟨(w % 256).toNat, by omega, by omega⟩
  obtain ⟨h, hh, eh⟩ : ∃ h : Nat, h < 256 ∧ w / 256 % 256 = (h : Int) := ⟨(w / 256 % 256).toNat, by omega, by omega⟩
  obtain ⟨Y2, hY2⟩ : ∃ Y2, Y2 = wrV Y1 2 (l : Int) := ⟨_, rfl⟩
  have c2 : L25.Calm Y2 := by rw [hY2]; exact wrV_calm c1 _ _ e1
  have mm := R15.mk_mask k
  have z2 : Y2 0 = gF (k : Int) (R15.upd (fun j => Y1 0 (j + 1)) k (R15.andW (R15.lowOf 0 (l : Int)) (R15.mk k))) := by
    rw [hY2, wrV_0 _ _ _ e1, gw_reg _ _ _ (.inl rfl) (by rw [s1]; omega), s1, Int.toNat_natCast, r1]
    rw [R15.and_word _ _ mm]
    rfl
  have s2 : Y2 0 0 = (k : Int) := by rw [z2]; rfl
  have r2 : Y2 0 (k + 1) = R15.andW (R15.lowOf 0 (l : Int)) (R15.mk k) := by
    rw [z2]
    unfold gF
    rw [if_neg (by omega)]
    show R15.upd _ k _ k = _
    unfold R15.upd
    rw [if_pos rfl]
  have e2 : effW (Y2 0) 3 ≠ 6 := by
    unfold effW
    rw [if_neg (by decide), s2]
    split
    · exact brings_no hk 3
    · decide
  obtain ⟨Y3, hY3⟩ : ∃ Y3, Y3 = wrV Y2 3 (h : Int) := ⟨_, rfl⟩
  have z3 : Y3 0 = gF (k : Int) (R15.upd (fun j => Y2 0 (j + 1)) k (R15.andW (R15.highOf (R15.andW (R15.lowOf 0 (l : Int)) (R15.mk k)) (h : Int)) (R15.mk k))) := by
    rw [hY3, wrV_0 _ _ _ e2, gw_reg _ _ _ (.inr rfl) (by rw [s2]; omega), s2, Int.toNat_natCast, r2]
    rw [R15.and_word _ _ mm]
    rfl
  have G0 : GoesY bs Y0 M 0 0 0 255 0 1024 false 0 Y1 M 0 0 0 255 0 1026 false 0 4 := by
    rw [hY1]
    exact go_st hY (by decide) C0 (by decide) (by kernel_rfl) (by kernel_rfl) (by kernel_rfl) (show k < 256 by omega) C0' (pl := 2088960) (a := 0) (by kernel_rfl) (by kernel_rfl) e0 (by rw [show nameOf 3 = ⟨#[83, 84, 48]⟩ by kernel_rfl]; exact do_ST0)
  have G1 : GoesY bs Y1 M 0 0 0 255 0 1026 false 0 Y2 M 0 0 0 255 0 1028 false 0 4 := by
    rw [hY2]
    exact go_st c1 (by decide) C1 (by decide) (by kernel_rfl) (by kernel_rfl) (by kernel_rfl) hl (C1'.trans el) (pl := 2088962) (a := 2) (by kernel_rfl) (by kernel_rfl) e1 (by rw [show nameOf 19 = ⟨#[83, 84, 49]⟩ by kernel_rfl]; exact do_ST1)
  have G2 : GoesY bs Y2 M 0 0 0 255 0 1028 false 0 Y3 M 0 0 0 255 0 1030 false 0 4 := by
    rw [hY3]
    exact go_st c2 (by decide) C2 (by decide) (by kernel_rfl) (by kernel_rfl) (by kernel_rfl) hh (C2'.trans eh) (pl := 2088963) (a := 3) (by kernel_rfl) (by kernel_rfl) e2 (by rw [show nameOf 35 = ⟨#[83, 84, 50]⟩ by kernel_rfl]; exact do_ST2)
  refine ⟨fun t => [Y0, Y1, Y2, Y3].getD t Y0, rfl, ?_, ?_, ?_⟩
  · intro t ht
    rcases t with _ | _ | _ | t
    · exact G0
    · exact G1
    · exact G2
    · omega
  · show Y3 0 0 = _
    rw [z3]
    rfl
  · show Y3 0 (k + 1) = _
    rw [z3]
    unfold gF
    rw [if_neg (by omega)]
    show R15.upd _ k _ k = _
    unfold R15.upd
    rw [if_pos rfl, R15.and_word _ _ mm, ← R15.whole_word w _ mm, ← el, ← eh]
    congr 1
    unfold R15.highOf R15.lowOf
    rw [Int.emod_emod, Int.emod_emod]
theorem sy_pic {W w : World} {b v c d g : Nat} {bs : List Int} {Y : Nat → Nat → Int} {M : Nat → Int} {row : Array Value} (h : SY W w b v c d g bs Y M row) (j : Nat) (hj : j < 21) : w.cell? ⟨b, j, none⟩ = some (.int .i64 (Y 0 j)) := by
  obtain ⟨⟨R0, f0, l0, c0, m⟩, _⟩ := h
  have k := m.1.1.get 0 rfl j hj (a := 0 + j) (by rw [HasX.isB m.1 |>.off 0 (a := 0) rfl]) (by omega)
  rw [Nat.zero_add] at k
  exact k
def fF (z : List Int) (t : Nat) : Nat → Int := fun j => if j < t ∧ j ≠ 1 then z.getD j 0 % 256 else Yp 9 j
def fY (z : List Int) (t : Nat) : Nat → Nat → Int := upZ Yp 9 (fF z t)
theorem fY_0 (z : List Int) : fY z 0 = Yp := by
  unfold fY
  rw [show fF z 0 = Yp 9 from funext fun j => by unfold fF; rw [if_neg (by omega)]]
  funext k
  unfold upZ
  split
  · rename_i e; rw [e]
  · rfl
theorem fY_1 (z : List Int) : fY z 2 = fY z 1 := by
  unfold fY
  rw [show fF z 2 = fF z 1 from funext fun j => by
    unfold fF
    by_cases h : j < 1 ∧ j ≠ 1
    · rw [if_pos h, if_pos (by omega)]
    · rw [if_neg h, if_neg (by omega)]]
theorem fY_next (z : List Int) (t : Nat) (ht : t ≠ 1) : upZ (fY z t) 9 (up (fY z t 9) t (z.getD t 0 % 256)) = fY z (t + 1) := by
  unfold fY
  rw [upZ_upZ, show upZ Yp 9 (fF z t) 9 = fF z t from upZ_same _ _ _]
  rw [show up (fF z t) t (z.getD t 0 % 256) = fF z (t + 1) from funext fun j => by
    unfold up fF
    by_cases e : j = t
    · subst e; rw [if_pos rfl, if_pos (by omega)]
    · rw [if_neg e]
      by_cases h : j < t ∧ j ≠ 1
      · rw [if_pos h, if_pos (by omega)]
      · rw [if_neg h, if_neg (by omega)]]
theorem fY_calm (z : List Int) (t : Nat) : L25.Calm (fY z t) := by
  obtain ⟨h9, hs, h0, h1⟩ := calm_p
  refine ⟨?_, ?_, h0, h1⟩
  · show fF z t 1 = 248
    unfold fF
    rw [if_neg (by omega)]
    exact h9
  · unfold fY
    rw [setZ_up _ _ _ (by decide), hs]
theorem masks_at {k : Nat} (hk : k < 12) : (#[.int .i64 65535, .int .i64 65535, .int .i64 65535, .int .i64 0, .int .i64 0, .int .i64 8191, .int .i64 1023, .int .i64 1023, .int .i64 511, .int .i64 255, .int .i64 32543, .int .i64 32639] : Array Value)[k]? = some (.int .i64 (R15.mk k)) := by
  rcases k with _ | _ | _ | _ | _ | _ | _ | _ | _ | _ | _ | _ | k
  all_goals first | rfl | omega
theorem mod12 (a : Int) : ∃ k : Nat, k < 12 ∧ Int.tmod (wrap64 (Int.tmod a 12 + 12)) 12 = (k : Int) := by
  have h1 : -12 < Int.tmod a 12 := by have := Int.lt_tmod_of_pos a (show (0 : Int) < 12 by decide); omega
  have h2 : Int.tmod a 12 < 12 := Int.tmod_lt_of_pos a (by decide)
  have h3 : wrap64 (Int.tmod a 12 + 12) = Int.tmod a 12 + 12 := by unfold wrap64; omega
  rw [h3]
  generalize Int.tmod a 12 = m at *
  rw [Int.tmod_eq_emod_of_nonneg (by omega)]
  exact ⟨((m + 12) % 12).toNat, by omega, by omega⟩
set_option maxHeartbeats 2000000 in
theorem cpuPicture_walk (a0 a1 : Int) (z2 : List Int) (W : World) (w0 : (Lit.int .i64 a0).wf = true) (w1 : (Lit.int .i64 a1).wf = true) (l2 : z2.length = 8) (w2 : ∀ n ∈ z2, (Lit.int .i64 n).wf = true) (hL : Tabs W ∧ HasErr W ∧ CT W) :
    Calls Tryz.prog 12 #[.int .i64 a0, .int .i64 a1, .agg (z2.map (Value.int .i64)).toArray] W fun e w' => e = .returned (.bool true) ∧ Below W.heap.size W w' := by
  obtain ⟨k, hk, ek⟩ := mod12 a0
  have HL := hide hL
  have L2 := hide l2
  clear hL w0 w1 w2 l2
  go_enter Tryz.func12, Tryz.ntmps12
  go_wp2_with fail
  have ek2 : (k : Int) % 256 = (k : Int) := by omega
  try rw [ek2]
  clear ek2 ek
  obtain ⟨wa, hwa⟩ : ∃ wa, (W.alloc (.cells (z2.map (Value.int .i64)).toArray 34)).alloc (.cells (([3, (k : Int), 19, a1 % 256, 35, a1 / 256 % 256] : List Int).map (Value.int .u8)).toArray 5) = wa := ⟨_, rfl⟩
  have hwb := hwa
  simp only [List.map_cons, List.map_nil] at hwb
  rw [hwb]
  clear hwb
  have B0 := hide (show Below W.heap.size W wa by rw [← hwa]; exact ((Below.refl _ W).alloc (Nat.le_refl _) _).alloc (by simp) _)
  have GB := hide (show wa.heap[W.heap.size]? = some (.cells (z2.map (Value.int .i64)).toArray 34 (0, 0)) by rw [← hwa, heap_alloc_old _ _ (by simp)]; exact heap_alloc_new _ _)
  have SL := hide (show SlB wa (some ⟨W.heap.size + 1, 0, none⟩) 6 (fun i => [3, (k : Int), 19, a1 % 256, 35, a1 / 256 % 256].getD i 0) from lit_slb (l := [3, (k : Int), 19, a1 % 256, 35, a1 / 256 % 256]) (by
    have q := heap_alloc_new (W.alloc (.cells (z2.map (Value.int .i64)).toArray 34)) (.cells (([3, (k : Int), 19, a1 % 256, 35, a1 / 256 % 256] : List Int).map (Value.int .u8)).toArray 5)
    rw [show (W.alloc (.cells (z2.map (Value.int .i64)).toArray 34)).heap.size = W.heap.size + 1 by simp] at q
    rw [← hwa]
    exact q) (show 6 ≤ 9223372036854775807 by decide) (fun y hy => by simp only [List.mem_cons, List.not_mem_nil, or_false] at hy; omega))
  clear hwa
  refine (put_is ⟨HL.out.1.next B0.out, HL.out.2.1.next B0.out, HL.out.2.2.next B0.out⟩ SL.out (nil_slb wa fun _ => 0) (by decide) (by decide)).mono ?_
  rintro e w1 ⟨b, v, c, d, bs, rfl, hc, ⟨lb, lv⟩, b1⟩
  have H1 := hide hc
  have B1 := hide (bnext B0.out b1)
  have LB := hide (show W.heap.size ≤ b ∧ W.heap.size ≤ v by have := B0.out.size; omega)
  have GW := hide (show W.heap.size ≠ b ∧ W.heap.size ≠ v by have := lt_of_block GB.out; omega)
  have G1 := hide ((b1.block W.heap.size (lt_of_block GB.out)).trans GB.out)
  clear hc lb lv b1 SL B0 HL GB
  obtain ⟨M0, hM⟩ : ∃ M, M = putM (fun i => [3, (k : Int), 19, a1 % 256, 35, a1 / 256 % 256].getD i 0) (fun _ => 0) 6 0 := ⟨_, rfl⟩
  rw [← hM] at H1
  obtain ⟨Y, eY, hG, hS, hR⟩ := pic_chain bs (M := M0) (k := k) (w := a1) hk (fY_calm z2 8) (show fY z2 8 0 (k + 1) = 0 from rfl) (by rw [hM]; exact ⟨⟨rfl, rfl⟩, ⟨rfl, rfl⟩, rfl, rfl⟩)
  clear hM
  have EY := hide eY
  have HG := hide hG
  have HS := hide hS
  have HR := hide hR
  clear eY hG hS hR
  have S0 := hide (sy_of (st_first H1.out B1.out LB.out #[.int .i64 0, .int .i64 0, .int .i64 0, .int .i64 255, .int .i64 0, .int .i64 9216, .bool false, .int .i64 0]))
  have G2 := hide (show (w1.alloc (.cells #[.int .i64 0, .int .i64 0, .int .i64 0, .int .i64 255, .int .i64 0, .int .i64 9216, .bool false, .int .i64 0] 58)).heap[W.heap.size]? = some (.cells (z2.map (Value.int .i64)).toArray 34 (0, 0)) by rw [heap_alloc_old _ _ (lt_of_block G1.out)]; exact G1.out)
  clear H1 B1 LB G1
  go_wp2_with fail
  refine under_name fun x0 hx0 => ?_
  rw [← hx0] at S0 G2
  clear hx0
  obtain ⟨g, hg⟩ : ∃ g, g = w1.heap.size := ⟨_, rfl⟩
  obtain ⟨gb, hgb⟩ : ∃ gb, gb = W.heap.size := ⟨_, rfl⟩
  rw [← hg] at S0
  rw [← hgb] at G2 GW
  simp only [← hg, ← hgb]
  have HGB := hide hgb
  clear hg hgb
  go_loopw [9] (fun v9 wr => ∃ (t : Nat), t ≤ 8 ∧ v9 = .int .i64 (t : Int) ∧ SY W wr b v c d g bs (fY z2 t) M0 #[.int .i64 0, .int .i64 0, .int .i64 0, .int .i64 255, .int .i64 0, .int .i64 9216, .bool false, .int .i64 0] ∧ wr.heap[gb]? = some (.cells (z2.map (Value.int .i64)).toArray 34 (0, 0))) (fun v9 _ => 8 - (intOf v9).toNat)
  case atStart => exact ⟨0, Nat.zero_le _, rfl, by rw [fY_0]; exact S0.out, G2.out⟩
  case round =>
    clear S0 G2
    obtain ⟨t, ht, rfl, hS, hG⟩ := hrel
    have S3 := hide hS
    have G3 := hide hG
    clear hS hG
    by_cases hlt : t < 8
    · by_cases h1 : t = 1
      · subst h1
        go_wp2_with fail
        go_roundw
        case rel => exact ⟨2, by omega, by go_num, by rw [fY_1]; exact S3.out, G3.out⟩
        case measure => simp [intOf]
      · have hne : ¬ (t : Int) = 1 := by omega
        have LT : Hid (t < 8) := hide hlt
        have NE := hide h1
        obtain ⟨fv, hx⟩ : ∃ x, z2.getD t 0 = x := ⟨_, rfl⟩
        have CB := hide (show ∀ y : World, y.heap[gb]? = some (.cells (z2.map (Value.int .i64)).toArray 34 (0, 0)) → y.cell? ⟨gb, t, none⟩ = some (.int .i64 fv) from fun y hy => (cell_of_row y gb t _ _ _ hy).trans (by rw [← hx]; simp [show t < z2.length by rw [L2.out]; exact LT.out]))
        have NX := hide (fY_next z2 t h1)
        rw [hx, ← and_255] at NX
        clear hx
        have FB := hide (show 0 ≤ bits .and .i64 fv 255 ∧ bits .and .i64 fv 255 < 256 by rw [and_255]; omega)
        go_wp2_with fail
        refine wp_region_state (ofList [.pointer (some ⟨b, 0, none⟩), .int .i64 (t : Int), .int .i64 (t : Int), .pointer (some ⟨gb, t, none⟩), .int .i64 fv, .int .i64 (bits .and .i64 fv 255), .pointer (some ⟨b, 0, none⟩), .pointer (some ⟨b, 8475, none⟩), .pointer (some ⟨b, 8475 + t, none⟩), undef]) (fun dd ww => (stgs [(fun x => SY W x b v c d g bs (fY z2 t) M0 #[.int .i64 0, .int .i64 0, .int .i64 0, .int .i64 255, .int .i64 0, .int .i64 9216, .bool false, .int .i64 0] ∧ x.heap[gb]? = some (.cells (z2.map (Value.int .i64)).toArray 34 (0, 0))), (fun x => SY W x b v c d g bs (fY z2 (t + 1)) M0 #[.int .i64 0, .int .i64 0, .int .i64 0, .int .i64 255, .int .i64 0, .int .i64 9216, .bool false, .int .i64 0] ∧ x.heap[gb]? = some (.cells (z2.map (Value.int .i64)).toArray 34 (0, 0)))]) (cntD [9] dd) ww) _ (fun vals => by simp only [putAll, Act.put, List.setIfInBounds_toArray, List.set_cons_succ, List.set_cons_zero, Nat.reduceAdd]; rfl) (by kernel_rfl) (by kernel_rfl) (by kernel_rfl) (fun dn hd => stage_none (A := (stgs [(fun x => SY W x b v c d g bs (fY z2 t) M0 #[.int .i64 0, .int .i64 0, .int .i64 0, .int .i64 255, .int .i64 0, .int .i64 9216, .bool false, .int .i64 0] ∧ x.heap[gb]? = some (.cells (z2.map (Value.int .i64)).toArray 34 (0, 0))), (fun x => SY W x b v c d g bs (fY z2 (t + 1)) M0 #[.int .i64 0, .int .i64 0, .int .i64 0, .int .i64 255, .int .i64 0, .int .i64 9216, .bool false, .int .i64 0] ∧ x.heap[gb]? = some (.cells (z2.map (Value.int .i64)).toArray 34 (0, 0)))])) hd (⟨sy_drew S3.out, G3.out⟩)) ?_ ?_
        · refine stepsS_cons (fun vals dn x hi hc hk hs => ?_) (stepsS_cons (fun vals dn x hi hc hk hs => ?_) (stepsS_cons (fun vals dn x hi hc hk hs => ?_) (stepsS_cons (fun vals dn x hi hc hk hs => ?_) (stepsS_cons (fun vals dn x hi hc hk hs => ?_) (stepsS_cons (fun vals dn x hi hc hk hs => ?_) (stepsS_cons (fun vals dn x hi hc hk hs => ?_) (stepsS_cons (fun vals dn x hi hc hk hs => ?_) (stepsS_cons (fun vals dn x hi hc hk hs => ?_) (stepsS_cons (fun vals dn x hi hc hk hs => ?_) stepsS_nil)))))))))
          · set_option maxRecDepth 20000 in
            go_wp2_with fail
            exact postS_mk _ rfl rfl (stage_keep (A := (stgs [(fun x => SY W x b v c d g bs (fY z2 t) M0 #[.int .i64 0, .int .i64 0, .int .i64 0, .int .i64 255, .int .i64 0, .int .i64 9216, .bool false, .int .i64 0] ∧ x.heap[gb]? = some (.cells (z2.map (Value.int .i64)).toArray 34 (0, 0))), (fun x => SY W x b v c d g bs (fY z2 (t + 1)) M0 #[.int .i64 0, .int .i64 0, .int .i64 0, .int .i64 255, .int .i64 0, .int .i64 9216, .bool false, .int .i64 0] ∧ x.heap[gb]? = some (.cells (z2.map (Value.int .i64)).toArray 34 (0, 0)))])) (ps := [9]) (i := 0) rfl hs)
          · set_option maxRecDepth 20000 in
            go_wp2_with fail
            exact postS_mk _ rfl rfl (stage_keep (A := (stgs [(fun x => SY W x b v c d g bs (fY z2 t) M0 #[.int .i64 0, .int .i64 0, .int .i64 0, .int .i64 255, .int .i64 0, .int .i64 9216, .bool false, .int .i64 0] ∧ x.heap[gb]? = some (.cells (z2.map (Value.int .i64)).toArray 34 (0, 0))), (fun x => SY W x b v c d g bs (fY z2 (t + 1)) M0 #[.int .i64 0, .int .i64 0, .int .i64 0, .int .i64 255, .int .i64 0, .int .i64 9216, .bool false, .int .i64 0] ∧ x.heap[gb]? = some (.cells (z2.map (Value.int .i64)).toArray 34 (0, 0)))])) (ps := [9]) (i := 1) rfl hs)
          · set_option maxRecDepth 20000 in
            go_wp2_with fail
            exact postS_mk _ rfl rfl (stage_keep (A := (stgs [(fun x => SY W x b v c d g bs (fY z2 t) M0 #[.int .i64 0, .int .i64 0, .int .i64 0, .int .i64 255, .int .i64 0, .int .i64 9216, .bool false, .int .i64 0] ∧ x.heap[gb]? = some (.cells (z2.map (Value.int .i64)).toArray 34 (0, 0))), (fun x => SY W x b v c d g bs (fY z2 (t + 1)) M0 #[.int .i64 0, .int .i64 0, .int .i64 0, .int .i64 255, .int .i64 0, .int .i64 9216, .bool false, .int .i64 0] ∧ x.heap[gb]? = some (.cells (z2.map (Value.int .i64)).toArray 34 (0, 0)))])) (ps := [9]) (i := 2) rfl hs)
          · obtain ⟨⟨(h2 : vals 2 = .int .i64 (t : Int)), t2⟩, _⟩ := hk
            simp only [h2]
            clear h2
            go_wp2_with fail
            exact postS_mk _ rfl rfl (stage_keep (A := (stgs [(fun x => SY W x b v c d g bs (fY z2 t) M0 #[.int .i64 0, .int .i64 0, .int .i64 0, .int .i64 255, .int .i64 0, .int .i64 9216, .bool false, .int .i64 0] ∧ x.heap[gb]? = some (.cells (z2.map (Value.int .i64)).toArray 34 (0, 0))), (fun x => SY W x b v c d g bs (fY z2 (t + 1)) M0 #[.int .i64 0, .int .i64 0, .int .i64 0, .int .i64 255, .int .i64 0, .int .i64 9216, .bool false, .int .i64 0] ∧ x.heap[gb]? = some (.cells (z2.map (Value.int .i64)).toArray 34 (0, 0)))])) (ps := [9]) (i := 3) rfl hs)
          · obtain ⟨⟨(h3 : vals 3 = .pointer (some ⟨gb, t, none⟩)), t3⟩, _⟩ := hk
            simp only [h3]
            clear h3
            have d9 := not_yet hc hi 9 60 (by kernel_rfl)
            have hn : cntD [9] dn = 0 := by show (if dn 9 = true then 1 else 0) + 0 = 0; rw [d9]; rfl
            have hs1 := stage_at (A := (stgs [(fun x => SY W x b v c d g bs (fY z2 t) M0 #[.int .i64 0, .int .i64 0, .int .i64 0, .int .i64 255, .int .i64 0, .int .i64 9216, .bool false, .int .i64 0] ∧ x.heap[gb]? = some (.cells (z2.map (Value.int .i64)).toArray 34 (0, 0))), (fun x => SY W x b v c d g bs (fY z2 (t + 1)) M0 #[.int .i64 0, .int .i64 0, .int .i64 0, .int .i64 255, .int .i64 0, .int .i64 9216, .bool false, .int .i64 0] ∧ x.heap[gb]? = some (.cells (z2.map (Value.int .i64)).toArray 34 (0, 0)))])) hn hs
            have q := CB.out x (show (fun x => SY W x b v c d g bs (fY z2 t) M0 #[.int .i64 0, .int .i64 0, .int .i64 0, .int .i64 255, .int .i64 0, .int .i64 9216, .bool false, .int .i64 0] ∧ x.heap[gb]? = some (.cells (z2.map (Value.int .i64)).toArray 34 (0, 0))) x from hs1).2
            go_wp2_with fail
            exact postS_mk _ rfl rfl (stage_keep (A := (stgs [(fun x => SY W x b v c d g bs (fY z2 t) M0 #[.int .i64 0, .int .i64 0, .int .i64 0, .int .i64 255, .int .i64 0, .int .i64 9216, .bool false, .int .i64 0] ∧ x.heap[gb]? = some (.cells (z2.map (Value.int .i64)).toArray 34 (0, 0))), (fun x => SY W x b v c d g bs (fY z2 (t + 1)) M0 #[.int .i64 0, .int .i64 0, .int .i64 0, .int .i64 255, .int .i64 0, .int .i64 9216, .bool false, .int .i64 0] ∧ x.heap[gb]? = some (.cells (z2.map (Value.int .i64)).toArray 34 (0, 0)))])) (ps := [9]) (i := 4) rfl hs)
          · obtain ⟨⟨(h4 : vals 4 = .int .i64 fv), t4⟩, _⟩ := hk
            simp only [h4]
            clear h4
            go_wp2_with fail
            exact postS_mk _ rfl rfl (stage_keep (A := (stgs [(fun x => SY W x b v c d g bs (fY z2 t) M0 #[.int .i64 0, .int .i64 0, .int .i64 0, .int .i64 255, .int .i64 0, .int .i64 9216, .bool false, .int .i64 0] ∧ x.heap[gb]? = some (.cells (z2.map (Value.int .i64)).toArray 34 (0, 0))), (fun x => SY W x b v c d g bs (fY z2 (t + 1)) M0 #[.int .i64 0, .int .i64 0, .int .i64 0, .int .i64 255, .int .i64 0, .int .i64 9216, .bool false, .int .i64 0] ∧ x.heap[gb]? = some (.cells (z2.map (Value.int .i64)).toArray 34 (0, 0)))])) (ps := [9]) (i := 5) rfl hs)
          · obtain ⟨⟨(h0 : vals 0 = .pointer (some ⟨b, 0, none⟩)), t0⟩, _⟩ := hk
            simp only [h0]
            clear h0
            go_wp2_with fail
            exact postS_mk _ rfl rfl (stage_keep (A := (stgs [(fun x => SY W x b v c d g bs (fY z2 t) M0 #[.int .i64 0, .int .i64 0, .int .i64 0, .int .i64 255, .int .i64 0, .int .i64 9216, .bool false, .int .i64 0] ∧ x.heap[gb]? = some (.cells (z2.map (Value.int .i64)).toArray 34 (0, 0))), (fun x => SY W x b v c d g bs (fY z2 (t + 1)) M0 #[.int .i64 0, .int .i64 0, .int .i64 0, .int .i64 255, .int .i64 0, .int .i64 9216, .bool false, .int .i64 0] ∧ x.heap[gb]? = some (.cells (z2.map (Value.int .i64)).toArray 34 (0, 0)))])) (ps := [9]) (i := 6) rfl hs)
          · obtain ⟨⟨(h6 : vals 6 = .pointer (some ⟨b, 0, none⟩)), t6⟩, _⟩ := hk
            simp only [h6]
            clear h6
            go_wp2_with fail
            exact postS_mk _ rfl rfl (stage_keep (A := (stgs [(fun x => SY W x b v c d g bs (fY z2 t) M0 #[.int .i64 0, .int .i64 0, .int .i64 0, .int .i64 255, .int .i64 0, .int .i64 9216, .bool false, .int .i64 0] ∧ x.heap[gb]? = some (.cells (z2.map (Value.int .i64)).toArray 34 (0, 0))), (fun x => SY W x b v c d g bs (fY z2 (t + 1)) M0 #[.int .i64 0, .int .i64 0, .int .i64 0, .int .i64 255, .int .i64 0, .int .i64 9216, .bool false, .int .i64 0] ∧ x.heap[gb]? = some (.cells (z2.map (Value.int .i64)).toArray 34 (0, 0)))])) (ps := [9]) (i := 7) rfl hs)
          · obtain ⟨⟨(h7 : vals 7 = .pointer (some ⟨b, 8475, none⟩)), t7⟩, ⟨(h1 : vals 1 = .int .i64 (t : Int)), t1⟩, ⟨(h0 : vals 0 = .pointer (some ⟨b, 0, none⟩)), t0⟩, _, ⟨(h2 : vals 2 = .int .i64 (t : Int)), t2⟩, ⟨(h3 : vals 3 = .pointer (some ⟨gb, t, none⟩)), t3⟩, ⟨(h4 : vals 4 = .int .i64 fv), t4⟩, ⟨(h5 : vals 5 = .int .i64 (bits .and .i64 fv 255)), t5⟩, _⟩ := hk
            simp only [h7, h1]
            clear h7 h1 h0 h2 h3 h4 h5
            go_wp2_with fail
            exact postS_mk _ rfl rfl (stage_keep (A := (stgs [(fun x => SY W x b v c d g bs (fY z2 t) M0 #[.int .i64 0, .int .i64 0, .int .i64 0, .int .i64 255, .int .i64 0, .int .i64 9216, .bool false, .int .i64 0] ∧ x.heap[gb]? = some (.cells (z2.map (Value.int .i64)).toArray 34 (0, 0))), (fun x => SY W x b v c d g bs (fY z2 (t + 1)) M0 #[.int .i64 0, .int .i64 0, .int .i64 0, .int .i64 255, .int .i64 0, .int .i64 9216, .bool false, .int .i64 0] ∧ x.heap[gb]? = some (.cells (z2.map (Value.int .i64)).toArray 34 (0, 0)))])) (ps := [9]) (i := 8) rfl hs)
          · obtain ⟨⟨(h8 : vals 8 = .pointer (some ⟨b, 8475 + t, none⟩)), t8⟩, ⟨(h5 : vals 5 = .int .i64 (bits .and .i64 fv 255)), t5⟩, ⟨(h0 : vals 0 = .pointer (some ⟨b, 0, none⟩)), t0⟩, ⟨(h1 : vals 1 = .int .i64 (t : Int)), t1⟩, ⟨(h2 : vals 2 = .int .i64 (t : Int)), t2⟩, ⟨(h3 : vals 3 = .pointer (some ⟨gb, t, none⟩)), t3⟩, ⟨(h4 : vals 4 = .int .i64 fv), t4⟩, _, _⟩ := hk
            simp only [h8, h5]
            clear h8 h5 h0 h1 h2 h3 h4
            have d9 := hi
            have hn : cntD [9] dn = 0 := by show (if dn 9 = true then 1 else 0) + 0 = 0; rw [d9]; rfl
            have hs1 := stage_at (A := (stgs [(fun x => SY W x b v c d g bs (fY z2 t) M0 #[.int .i64 0, .int .i64 0, .int .i64 0, .int .i64 255, .int .i64 0, .int .i64 9216, .bool false, .int .i64 0] ∧ x.heap[gb]? = some (.cells (z2.map (Value.int .i64)).toArray 34 (0, 0))), (fun x => SY W x b v c d g bs (fY z2 (t + 1)) M0 #[.int .i64 0, .int .i64 0, .int .i64 0, .int .i64 255, .int .i64 0, .int .i64 9216, .bool false, .int .i64 0] ∧ x.heap[gb]? = some (.cells (z2.map (Value.int .i64)).toArray 34 (0, 0)))])) hn hs
            have hn2 : cntD [9] (updD dn 9) = 1 := by show (if updD dn 9 9 = true then 1 else 0) + 0 = 1; rw [updD_same]; rfl
            have HN2 := hide hn2
            clear hn hn2 
            have q := (fun h : (fun x => SY W x b v c d g bs (fY z2 t) M0 #[.int .i64 0, .int .i64 0, .int .i64 0, .int .i64 255, .int .i64 0, .int .i64 9216, .bool false, .int .i64 0] ∧ x.heap[gb]? = some (.cells (z2.map (Value.int .i64)).toArray 34 (0, 0))) x => (sy_file h.1 t LT.out FB.out).2) hs1
            have z := (fun h : (fun x => SY W x b v c d g bs (fY z2 t) M0 #[.int .i64 0, .int .i64 0, .int .i64 0, .int .i64 255, .int .i64 0, .int .i64 9216, .bool false, .int .i64 0] ∧ x.heap[gb]? = some (.cells (z2.map (Value.int .i64)).toArray 34 (0, 0))) x => sy_fro h.1 (8475 + t)) hs1
            have H2 := hide ((fun h : (fun x => SY W x b v c d g bs (fY z2 t) M0 #[.int .i64 0, .int .i64 0, .int .i64 0, .int .i64 255, .int .i64 0, .int .i64 9216, .bool false, .int .i64 0] ∧ x.heap[gb]? = some (.cells (z2.map (Value.int .i64)).toArray 34 (0, 0))) x => show (fun x => SY W x b v c d g bs (fY z2 (t + 1)) M0 #[.int .i64 0, .int .i64 0, .int .i64 0, .int .i64 255, .int .i64 0, .int .i64 9216, .bool false, .int .i64 0] ∧ x.heap[gb]? = some (.cells (z2.map (Value.int .i64)).toArray 34 (0, 0))) (x.setCell ⟨b, 8475 + t, none⟩ (.int .i64 (bits .and .i64 fv 255))) from ⟨NX.out ▸ (sy_file h.1 t LT.out FB.out).1, (heap_setCell_other x _ gb _ GW.out.1).trans h.2⟩) hs1)
            clear hs hs1
            go_wp2_with fail
            exact postS_mk _ rfl rfl (stage_of (A := (stgs [(fun x => SY W x b v c d g bs (fY z2 t) M0 #[.int .i64 0, .int .i64 0, .int .i64 0, .int .i64 255, .int .i64 0, .int .i64 9216, .bool false, .int .i64 0] ∧ x.heap[gb]? = some (.cells (z2.map (Value.int .i64)).toArray 34 (0, 0))), (fun x => SY W x b v c d g bs (fY z2 (t + 1)) M0 #[.int .i64 0, .int .i64 0, .int .i64 0, .int .i64 255, .int .i64 0, .int .i64 9216, .bool false, .int .i64 0] ∧ x.heap[gb]? = some (.cells (z2.map (Value.int .i64)).toArray 34 (0, 0)))])) HN2.out H2.out)
        rintro vals dn x hall hs hv
        clear hv
        have hn : cntD [9] dn = 1 := by show (if dn 9 = true then 1 else 0) + 0 = 1; rw [hall 9 (by decide)]; rfl
        have hs := stage_at (A := (stgs [(fun x => SY W x b v c d g bs (fY z2 t) M0 #[.int .i64 0, .int .i64 0, .int .i64 0, .int .i64 255, .int .i64 0, .int .i64 9216, .bool false, .int .i64 0] ∧ x.heap[gb]? = some (.cells (z2.map (Value.int .i64)).toArray 34 (0, 0))), (fun x => SY W x b v c d g bs (fY z2 (t + 1)) M0 #[.int .i64 0, .int .i64 0, .int .i64 0, .int .i64 255, .int .i64 0, .int .i64 9216, .bool false, .int .i64 0] ∧ x.heap[gb]? = some (.cells (z2.map (Value.int .i64)).toArray 34 (0, 0)))])) hn hs
        clear hn hall
        have h4 : (fun x => SY W x b v c d g bs (fY z2 (t + 1)) M0 #[.int .i64 0, .int .i64 0, .int .i64 0, .int .i64 255, .int .i64 0, .int .i64 9216, .bool false, .int .i64 0] ∧ x.heap[gb]? = some (.cells (z2.map (Value.int .i64)).toArray 34 (0, 0))) x := hs
        have S4 := hide h4.1
        have G4 := hide h4.2
        clear h4 hs CB NX S3 G3
        go_wp2_with fail
        go_roundw
        case rel => exact ⟨t + 1, by omega, by go_num, S4.out, G4.out⟩
        case measure => simp [intOf]; omega
    · obtain rfl : t = 8 := by omega
      clear G3 GW L2 hlt
      go_wp2_with fail
      have E0 := EY.out
      have S5 : Hid (SY W wr b v c d g bs (Y 0) M0 #[.int .i64 0, .int .i64 0, .int .i64 0, .int .i64 255, .int .i64 0, .int .i64 9216, .bool false, .int .i64 0]) := hide (by rw [E0]; exact S3.out)
      clear S3 E0 EY
      try simp only [show ((8 : Nat) : Int) = 8 from rfl]
      go_loopw [10, 11, 12] (fun v10 v11 v12 wq => ∃ (t : Nat), t ≤ 3 ∧ v11 = .int .i64 (t : Int) ∧ v10 = .int .i64 (4 * (t : Int)) ∧ SY W wq b v c d g bs (Y t) M0 #[.int .i64 0, .int .i64 0, .int .i64 0, .int .i64 255, .int .i64 0, .int .i64 (8192 + ((1024 + 2 * t : Nat) : Int)), .bool false, .int .i64 0]) (fun _ v11 _ _ => 3 - (intOf v11).toNat)
      case atStart => exact ⟨0, Nat.zero_le _, rfl, rfl, S5.out⟩
      case round =>
        clear S5
        obtain ⟨t, ht3, rfl, rfl, hS⟩ := hrel
        have S6 := hide hS
        clear hS
        by_cases hlt : t < 3
        · have G6 := hide (HG.out t hlt)
          go_wp2_with (first
            | (refine load_sy rfl (.tmp 8) rfl S6.out rfl rfl ?_)
            | (go_at_call 13; refine (sy_step S6.out G6.out).mono ?_; rintro e w4 ⟨rfl, h4⟩; have S7 := hide h4; clear h4 S6 G6)
            | (refine store_sy rfl (.tmp 8) (.tmp 55) rfl S7.out rfl rfl _ rfl rfl (by kernel_rfl) ?_; intro w5 h5; have S8 := hide h5; clear h5 S7))
          go_roundw
          case rel => exact ⟨t + 1, by omega, by go_num, by first | go_num | (congr 1; omega), S8.out⟩
          case measure => simp [intOf]; omega
        · obtain rfl : t = 3 := by omega
          clear HG
          go_wp2_with fail
          refine under_name fun xs hxs => ?_
          have bx : Below wr.heap.size wr xs := by rw [hxs]; exact (Below.refl _ _).alloc (Nat.le_refl _) _
          have S9 := hide (sy_next S6.out bx)
          have hm : xs.heap[wr.heap.size]? = some (.cells #[.int .i64 65535, .int .i64 65535, .int .i64 65535, .int .i64 0, .int .i64 0, .int .i64 8191, .int .i64 1023, .int .i64 1023, .int .i64 511, .int .i64 255, .int .i64 32543, .int .i64 32639] 77 (0, 0)) := by rw [hxs]; exact heap_alloc_new _ _
          have i0 := kept_cell ((sy_pic S9.out 0 (by decide)).trans (by rw [HS.out])) (sy_lt S9.out)
          have i1 := kept_cell (show xs.cell? ⟨b, 1 + k, none⟩ = some (.int .i64 (bits .and .i64 a1 (R15.mk k))) from (by rw [Nat.add_comm]; exact (sy_pic S9.out (k + 1) (by omega)).trans (by rw [HR.out]))) (sy_lt S9.out)
          have i2 := kept_cell ((cell_of_row xs wr.heap.size k _ _ _ hm).trans (masks_at hk)) (lt_of_block hm)
          have i5 := kept_cell (sy_reg S9.out 5 (x := .int .i64 9222) rfl) (sy_ltg S9.out)
          clear hxs bx hm HS HR S6
          haveI := kept_some xs
          generalize R15.mk k = mk at *
          try dsimp only
          refine wp_region_kept (by kernel_rfl) (by kernel_rfl) ?_
          try simp only [List.append_eq, List.cons_append, List.nil_append]
          repeat (go_big_quiet_step ((fail)))
          refine wpQuiet_nil ?_
          rintro _ ⟨wk, rfl⟩
          have B10 := hide (bnext (sy_below S9.out) wk.below)
          clear i0 i1 i2 i5 S9
          generalize wk.val = w10 at *
          go_wp2_with fail
          all_goals first | (go_ret; exact ⟨rfl, B10.out⟩) | (exfalso; simp_all; done) | (exfalso; omega) | trace_state
end Go.Proofs.YtoijhhbiknhlnaaGreatDoor
