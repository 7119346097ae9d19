/- Texts put together. -/
import Derived.Test.YtnoggfnidaifkaaGreatDoorConsoleNobodyJ01
import Derived.Test.YtnoggfnidaifkaaGreatDoorConsoleNobodyJ33
namespace Go.Proofs.YtnoggfnidaifkaaGreatDoor
set_option maxRecDepth 20000
open Go.RowKit
set_option linter.unusedVariables false
def linOf (b : Int) : Int := inB 262 263 b
def mostOf (a : Int) : Int := min 512 (1365 / inB 2 4 a)
def wideOf (a c : Int) : Int := inB 8 (mostOf a) (widthOf c)
def topOf (b d : Int) : Int := inB 0 (linOf b) (aboveOf d)
def botOf (b d f : Int) : Int := inB 0 (linOf b) (topOf b d + heightOf f)
def blkOf (b d f : Int) : Int := min (botOf b d f) (linOf b - 1)
theorem kept_is (a b n r : Int) (hr : inB a b n = r) (x y : Nat) (w : World) (hx : w.cell? ⟨x, 0, none⟩ = some (.int .i64 a)) (hy : w.cell? ⟨y, 0, none⟩ = some (.int .i64 b)) :
    Calls Tryz.prog 110 #[.int .i64 n, .pointer (some ⟨x, 0, none⟩), .pointer (some ⟨y, 0, none⟩)] w fun e w' => e = .returned (.int .i64 r) ∧ w' = w := by
  subst hr
  exact kept_any a b n x y w hx hy
theorem between_new (a b : Int) (w : World) : Calls Tryz.prog 63 #[.int .i64 a, .int .i64 b] w fun e w' =>
    e = .returned (.func (.func 110) #[] #[.pointer (some ⟨w.heap.size, 0, none⟩), .pointer (some ⟨w.heap.size + 1, 0, none⟩)]) ∧ Below w.heap.size w w' ∧ Box 3 w' w.heap.size a ∧ Box 3 w' (w.heap.size + 1) b := by
  refine (between_any a b w).mono ?_
  rintro e w' ⟨he, hw⟩
  obtain ⟨b0, b1, _, B⟩ := two_named hw
  exact ⟨he, B, b0, b1⟩
set_option maxHeartbeats 1000000 in
theorem of_walk (a b c d f g : Int) (w : World) (p l q m u t v h o x k : Int) (ep : inB 2 4 a = p) (el : inB 262 263 b = l) (eq : Int.tdiv 1365 p = q) (em : q < 512 ∧ q = m ∨ 512 ≤ q ∧ 512 = m) (eu : aboveOf d = u) (et : inB 0 l u = t) (eh : heightOf f = h) (ev : inB 0 l (t + h) = v) (eo : widthOf c = o) (ex : inB 8 m o = x)
    (ek : v < l ∧ v = k ∨ l ≤ v ∧ l - 1 = k) (p0 : 2 ≤ p) (p1 : p ≤ 4) (q0 : 341 ≤ q) (q1 : q ≤ 682) (l0 : 262 ≤ l) (l1 : l ≤ 263) (t0 : 0 ≤ t) (t1 : t ≤ 263) (h0 : 1 ≤ h) (h1 : h ≤ 512) (v0 : 0 ≤ v) (v1 : v ≤ 263) :
    Calls Tryz.prog 37 #[.agg #[.int .i64 a, .int .i64 b, .int .i64 c, .int .i64 d, .int .i64 f, .int .i64 g]] w fun e w' =>
      e = .returned (.agg #[.int .i64 x, .int .i64 t, .int .i64 v, .int .i64 k, .int .i64 l]) ∧ Below w.heap.size w w' := by
  have C1 := hide (kept_is 2 4 a p ep)
  have C2 := hide (kept_is 262 263 b l el)
  have C3 := hide (kept_is 0 l u t et)
  have C4 := hide (kept_is 0 l (t + h) v ev)
  have C5 := hide (kept_is 8 m o x ex)
  have D1 := hide (fun w => above_any d w)
  have D2 := hide (fun w => height_any f w)
  have D3 := hide (fun w => width_any c w)
  rw [eu] at D1
  rw [eh] at D2
  rw [eo] at D3
  clear ep el eu et eh ev eo ex
  have EK := hide ek
  clear ek
  rcases em with ⟨m0, rfl⟩ | ⟨m0, rfl⟩
  all_goals
    go_enter Tryz.func37, Tryz.ntmps37
    go_wp2_with fail
    refine under_name fun wa hwa => ?_
    obtain ⟨b0, b1, hs, B⟩ := two_named hwa
    have B0 := hide B
    clear hwa B
    generalize hzz : w.heap.size = z at b0 b1 hs B0 ⊢
    have HZ := hide hzz
    clear hzz
    have c0 : wa.cell? ⟨z, 0, none⟩ = some (.int .i64 a) := (cell_of_row wa z 0 _ _ _ b0).trans rfl
    have hz : z < wa.heap.size := by omega
    go_region_held3 (fun w' => w'.cell? ⟨z, 0, none⟩ = some (.int .i64 a)) (simp [c0, hz, Nat.lt_succ_of_lt hz, World.cell?_alloc_lt])
      (first
        | (go_at_call 63; refine (between_any _ _ _).mono ?_; rintro e w' ⟨rfl, rfl⟩)
        | (go_at_call 110; refine (C1.out _ _ _ (by simp) (by simp)).mono ?_; rintro e w' ⟨rfl, rfl⟩))
    go_wp2_with fail
    refine under_name fun wb hwb => ?_
    have n1 : Below wa.heap.size wa wb := by rw [hwb]; exact (((Below.refl _ wa).alloc (Nat.le_refl _) _).alloc (by simp) _).drew
    have b2 := (n1.block z hz).trans b0
    have r2 := (n1.block (z + 1) hs).trans b1
    have B1 := hide (B0.out.trans (n1.mono (Nat.le_trans (Nat.le_of_lt hz) (Nat.le_refl _))))
    have hy : z + 1 < wb.heap.size := Nat.lt_of_lt_of_le hs n1.size
    clear hwb n1 b0 b1 c0 hz hs B0
    have c1 : wb.cell? ⟨z, 1, none⟩ = some (.int .i64 b) := (cell_of_row wb z 1 _ _ _ b2).trans rfl
    have hz : z < wb.heap.size := by omega
    go_region_held3 (fun w' => w'.cell? ⟨z, 1, none⟩ = some (.int .i64 b)) (simp [c1, hz, Nat.lt_succ_of_lt hz, World.cell?_alloc_lt])
      (first
        | (go_at_call 63; refine (between_any _ _ _).mono ?_; rintro e w' ⟨rfl, rfl⟩)
        | (go_at_call 110; refine (C2.out _ _ _ (by simp) (by simp)).mono ?_; rintro e w' ⟨rfl, rfl⟩))
    refine under_then fun wc hwc => ?_
    have n2 : Below wb.heap.size wb wc := by rw [hwc]; exact (((Below.refl _ wb).alloc (Nat.le_refl _) _).alloc (by simp) _).drew
    have b3 := (n2.block z hz).trans b2
    have r3 := hide ((n2.block (z + 1) hy).trans r2)
    have B2 := hide (B1.out.trans (n2.mono (Nat.le_trans (Nat.le_of_lt hz) (Nat.le_refl _))))
    have hx : z + 1 < wc.heap.size := Nat.lt_of_lt_of_le hy n2.size
    clear hwc n2 b2 r2 c1 hz hy B1
    have hb3 := hide b3
    clear b3
    go_wp2_with fail
    refine (between_new _ _ _).mono ?_
    rintro e w3 ⟨rfl, n3, x3, y3⟩
    have s3 := n3.size
    generalize wc.heap.size = i1 at *
    go_wp2_with fail
    refine (between_new _ _ _).mono ?_
    rintro e w4 ⟨rfl, n4, x4, y4⟩
    have hx4 : z + 1 < w3.heap.size := Nat.lt_of_lt_of_le hx s3
    have Z4 := (n4.block z (by omega)).trans ((n3.block z (by omega)).trans hb3.out)
    have R4 := hide ((n4.block (z + 1) hx4).trans ((n3.block (z + 1) hx).trans r3.out))
    have X4 := (x3.below n4 x3.lt).cell
    have Y4 := (y3.below n4 y3.lt).cell
    have B4 := hide ((B2.out.trans (n3.mono (by omega))).trans (n4.mono (by omega)))
    replace x4 := x4.cell
    replace y4 := y4.cell
    clear n3 n4 x3 y3 hb3 r3 B2 hx hx4 s3
    have c2 : w4.cell? ⟨z, 2, none⟩ = some (.int .i64 c) := (cell_of_row w4 z 2 _ _ _ Z4).trans rfl
    have c3 : w4.cell? ⟨z, 3, none⟩ = some (.int .i64 d) := (cell_of_row w4 z 3 _ _ _ Z4).trans rfl
    have c4 : w4.cell? ⟨z, 4, none⟩ = some (.int .i64 f) := (cell_of_row w4 z 4 _ _ _ Z4).trans rfl
    clear Z4
    generalize w3.heap.size = i2 at *
    go_wp2_with fail
    refine (D1.out _).mono ?_
    rintro e w' ⟨rfl, rfl⟩
    go_wp2_with fail
    refine (C3.out _ _ _ x4 y4).mono ?_
    rintro e w' ⟨rfl, rfl⟩
    go_wp2_with fail
    refine (D2.out _).mono ?_
    rintro e w' ⟨rfl, rfl⟩
    go_wp2_with fail
    refine (C4.out _ _ _ x4 y4).mono ?_
    rintro e w' ⟨rfl, rfl⟩
    go_wp2_with fail
    refine (D3.out _).mono ?_
    rintro e w' ⟨rfl, rfl⟩
    go_wp2_with fail
    refine (C5.out _ _ _ X4 Y4).mono ?_
    rintro e w' ⟨rfl, rfl⟩
    obtain ek := EK.out
    clear EK
    rcases ek with ⟨k0, rfl⟩ | ⟨k0, rfl⟩
    all_goals
      go_wp2_with (first | (refine wpList_store_row rfl 38 (.tmp 2) (.tmp 47) rfl (z + 1) _ rfl rfl 38 _ R4.out (by kernel_rfl) rfl (by kernel_rfl) ?_))
      refine bodyPost_ret (results_cell_row rfl _ _ (z + 1) 38 _ (0, 0) _ rfl (setRow_heap _ _ _ _ _ _ R4.out) Tryz.underlying38 rfl (by kernel_rfl)) rfl ?_
      exact ⟨rfl, by rw [HZ.out]; exact below_setRow B4.out (Nat.le_succ _) _⟩
end Go.Proofs.YtnoggfnidaifkaaGreatDoor
namespace Go.Proofs.YtnoggfnidaifkaaGreatDoor
set_option maxRecDepth 20000
open Go.RowKit
set_option linter.unusedVariables false
theorem quo_dot (a : Int) : 341 ≤ 1365 / inB 2 4 a ∧ 1365 / inB 2 4 a ≤ 682 ∧ (1365 / inB 2 4 a) * inB 2 4 a ≤ 1365 := by
  have h := inB_le 2 4 a (by decide)
  have : inB 2 4 a = 2 ∨ inB 2 4 a = 3 ∨ inB 2 4 a = 4 := by omega
  rcases this with h | h | h <;> rw [h] <;> decide
theorem lin_le (b : Int) : 262 ≤ linOf b ∧ linOf b ≤ 263 := inB_le 262 263 b (by decide)
theorem top_le (b d : Int) : 3 ≤ topOf b d ∧ topOf b d ≤ linOf b := by
  have h := lin_le b
  have k := aboveOf_le d
  unfold topOf inB
  omega
theorem bot_le (b d f : Int) : topOf b d ≤ botOf b d f ∧ botOf b d f ≤ linOf b := by
  have h := lin_le b
  have k := top_le b d
  have i := heightOf_le f
  unfold botOf inB
  omega
theorem of_any (a b c d f g : Int) (w : World) : Calls Tryz.prog 37 #[.agg #[.int .i64 a, .int .i64 b, .int .i64 c, .int .i64 d, .int .i64 f, .int .i64 g]] w fun e w' =>
      e = .returned (.agg #[.int .i64 (wideOf a c), .int .i64 (topOf b d), .int .i64 (botOf b d f), .int .i64 (blkOf b d f), .int .i64 (linOf b)]) ∧ Below w.heap.size w w' := by
  have h1 := quo_dot a
  have h2 := inB_le 2 4 a (by decide)
  have h3 := lin_le b
  have h4 := top_le b d
  have h5 := bot_le b d f
  have h6 := heightOf_le f
  have em : 1365 / inB 2 4 a < 512 ∧ 1365 / inB 2 4 a = mostOf a ∨ 512 ≤ 1365 / inB 2 4 a ∧ 512 = mostOf a := by unfold mostOf; omega
  have ek : botOf b d f < linOf b ∧ botOf b d f = blkOf b d f ∨ linOf b ≤ botOf b d f ∧ linOf b - 1 = blkOf b d f := by unfold blkOf; omega
  exact of_walk a b c d f g w (inB 2 4 a) (linOf b) (1365 / inB 2 4 a) (mostOf a) (aboveOf d) (topOf b d) (botOf b d f) (heightOf f) (widthOf c) (wideOf a c) (blkOf b d f) rfl rfl (Int.tdiv_eq_ediv_of_nonneg (by decide)) em rfl rfl rfl rfl rfl rfl ek
    h2.1 h2.2 h1.1 h1.2.1 h3.1 h3.2 (by omega) (by omega) h6.1 h6.2 (by omega) (by omega)
def HasG (w : World) (b : Nat) (x t v k l : Int) : Prop := w.heap[b]? = some (.cells #[.int .i64 x, .int .i64 t, .int .i64 v, .int .i64 k, .int .i64 l] 38 (0, 0))
theorem HasG.next {w w' : World} {b : Nat} {x t v k l : Int} (h : HasG w b x t v k l) (q : Below w.heap.size w w') : HasG w' b x t v k l := (q.block b (lt_of_block h)).trans h
theorem HasG.alloc {w : World} {b : Nat} {x t v k l : Int} (h : HasG w b x t v k l) (o : Obj) : HasG (w.alloc o) b x t v k l := h.next ((Below.refl _ w).alloc (Nat.le_refl _) _)
theorem hasG_new (w : World) (x t v k l : Int) : HasG (w.alloc (.cells #[.int .i64 x, .int .i64 t, .int .i64 v, .int .i64 k, .int .i64 l] 38)) w.heap.size x t v k l := heap_alloc_new _ _
theorem HasG.lt {w : World} {b : Nat} {x t v k l : Int} (h : HasG w b x t v k l) : b < w.heap.size := lt_of_block h
theorem HasG.c0 {w : World} {b : Nat} {x t v k l : Int} (h : HasG w b x t v k l) : w.cell? ⟨b, 0, none⟩ = some (.int .i64 x) := (cell_of_row w b 0 _ _ _ h).trans rfl
theorem HasG.c1 {w : World} {b : Nat} {x t v k l : Int} (h : HasG w b x t v k l) : w.cell? ⟨b, 1, none⟩ = some (.int .i64 t) := (cell_of_row w b 1 _ _ _ h).trans rfl
theorem HasG.c2 {w : World} {b : Nat} {x t v k l : Int} (h : HasG w b x t v k l) : w.cell? ⟨b, 2, none⟩ = some (.int .i64 v) := (cell_of_row w b 2 _ _ _ h).trans rfl
theorem HasG.c3 {w : World} {b : Nat} {x t v k l : Int} (h : HasG w b x t v k l) : w.cell? ⟨b, 3, none⟩ = some (.int .i64 k) := (cell_of_row w b 3 _ _ _ h).trans rfl
theorem HasG.c4 {w : World} {b : Nat} {x t v k l : Int} (h : HasG w b x t v k l) : w.cell? ⟨b, 4, none⟩ = some (.int .i64 l) := (cell_of_row w b 4 _ _ _ h).trans rfl
end Go.Proofs.YtnoggfnidaifkaaGreatDoor
