/- Texts put together. -/
import Derived.Test.YtoijhhbiknhlnaaGreatDoorCpuCountsJ50
import Derived.Test.YtoijhhbiknhlnaaGreatDoorCpuCountsJ46
namespace Go.Proofs.YtoijhhbiknhlnaaGreatDoor.L25
set_option maxRecDepth 20000
open A2 B4 C3 D24 G6 I11 J23 K9 L24 M5 N8 O7 P22 R15 T10 V12 W13
open Go.RowKit
set_option linter.unusedVariables false
theorem zB : IsByte 0 := ⟨by decide, by decide⟩
theorem mB : IsByte 255 := ⟨by decide, by decide⟩
def Yp : Nat → Nat → Int := Z0 (keyF 0 0 0 0 0) 5
theorem calm_p : Calm Yp := ⟨rfl, set_0 _ _, rfl, rfl⟩
theorem cz_low {Y : Nat → Nat → Int} {M R : Nat → Int} {f l c : Int} (k : Nat) (hk : k < 20) : cz Y M R f l c k = upZ Y 8 M k := by
  unfold cz
  rw [upZ_other _ _ _ _ (by omega), upZ_other _ _ _ _ (by omega), upZ_other _ _ _ _ (by omega), upZ_other _ _ _ _ (by omega)]
theorem rg_good {a x y s p pc : Int} (h0 : IsByte a) (h1 : IsByte x) (h2 : IsByte y) (h3 : IsByte s) (h4 : IsByte p) (h5 : 0 ≤ pc ∧ pc < 65536) : GZ 20 (rg a x y s p pc) := by
  rw [← rg_cut h0 h1 h2 h3 h4 h5]
  exact cutR_good _
theorem put_hasC {w : World} {b v c d n m : Nat} {bs : List Int} {C D : Nat → Int} (h : HasP w b v c d bs (putZ C D n m)) (ct : CT w) (hl : bs.length = 16384) (gb : 8 ≤ b ∧ 8 ≤ v) (hM : ∀ j, 0 ≤ putM C D n m j ∧ putM C D n m j < 256) : HasC w b v c d bs Yp (putM C D n m) :=
  ⟨rg 0 0 0 0 0 0, 0, 0, 0, hasP_low h (fun k hk => cz_low k hk), ct,
    good_up (good_up (good_up (good_up (good_up (gz_0 _ _) 8 _ hM) 20 _ (rg_good zB zB zB zB zB (by decide))) 21 _ trivial) 22 _ trivial) 23 _ trivial, gb, by rw [hl]; rfl, by rw [hl]; decide⟩
theorem putM_in {w : World} {sc sd : Option Addr} {lc ld : Nat} {C D : Nat → Int} (hC : SlB w sc lc C) (hD : SlB w sd ld D) (j : Nat) : 0 ≤ putM C D lc ld j ∧ putM C D lc ld j < 256 := by
  unfold putM
  by_cases h1 : j < ld
  · rw [if_pos h1]
    obtain ⟨_, _, _, _, _, a, b⟩ := hD.2 j h1
    exact ⟨a, b⟩
  rw [if_neg h1]
  by_cases h2 : 1024 ≤ j ∧ j < 1024 + lc
  · rw [if_pos h2]
    obtain ⟨_, _, _, _, _, a, b⟩ := hC.2 (j - 1024) (by omega)
    exact ⟨a, b⟩
  · rw [if_neg h2]
    decide
theorem put_is {C D : Nat → Int} {sc sd : Option Addr} {lc ld cc cd : Nat} {w : World} (hL : Tabs w ∧ HasErr w ∧ CT w) (hC : SlB w sc lc C) (hD : SlB w sd ld D) (hlc : lc ≤ 200) (hld : ld ≤ 256) :
    Calls Tryz.prog 16 #[.slice sc lc cc, .slice sd ld cd] w fun e w' => ∃ b v c d bs, e = Ending.returned (.tuple #[.pointer (some ⟨b, 0, none⟩), .agg #[.int .i64 0, .int .i64 0, .int .i64 0, .int .i64 255, .int .i64 0, .int .i64 9216, .bool false, .int .i64 0]]) ∧ HasC w' b v c d bs Yp (putM C D lc ld) ∧ (w.heap.size ≤ b ∧ w.heap.size ≤ v) ∧ Below w.heap.size w w' := by
  refine (put_walk hL.1 hL.2.1 hC hD hlc hld).mono ?_
  rintro e w' ⟨b, v, c, d, bs, r, hl, hp, hb, bw⟩
  have sz := laid_size hL
  exact ⟨b, v, c, d, bs, r, put_hasC hp (hL.2.2.next bw) hl (by omega) (putM_in hC hD), hb, bw⟩
theorem lit_slb {w : World} {g : Nat} {l : List Int} {t : TypeId} {fr : Nat × Nat} (h : w.heap[g]? = some (.cells (l.map (Value.int .u8)).toArray t fr)) (hl : l.length ≤ 9223372036854775807) (hb : ∀ x ∈ l, 0 ≤ x ∧ x < 256) : SlB w (some ⟨g, 0, none⟩) l.length (fun i => l.getD i 0) := by
  refine ⟨hl, fun i hi => ⟨g, 0, rfl, ?_, lt_of_block h, ?_⟩⟩
  · rw [Nat.zero_add]
    refine (cell_of_row w g i _ _ _ h).trans ?_
    simp [hi]
  · have e : l.getD i 0 = l[i] := by simp [hi]
    show 0 ≤ l.getD i 0 ∧ l.getD i 0 < 256
    rw [e]
    exact hb _ (List.getElem_mem hi)
theorem nil_slb (w : World) (C : Nat → Int) : SlB w none 0 C := ⟨by decide, fun i hi => absurd hi (Nat.not_lt_zero i)⟩
end Go.Proofs.YtoijhhbiknhlnaaGreatDoor.L25
namespace Go.Proofs.YtoijhhbiknhlnaaGreatDoor.L25
set_option maxRecDepth 20000
open A2 B4 C3 D24 G6 I11 J23 K9 L24 M5 N8 O7 P22 R15 T10 V12 W13
open Go.RowKit
set_option linter.unusedVariables false
theorem HasC.get {w : World} {b v c d : Nat} {bs : List Int} {Y : Nat → Nat → Int} {M : Nat → Int} (h : HasC w b v c d bs Y M) (j : Nat) (hj : j < 8192) : w.cell? ⟨b, 283 + j, none⟩ = some (.int .u8 (M j)) := by
  obtain ⟨R0, f0, l0, c0, h⟩ := h
  have q := (p_ram h.1 j hj 0).2.2.1
  rw [cz_8] at q
  exact q
theorem HasC.lt {w : World} {b v c d : Nat} {bs : List Int} {Y : Nat → Nat → Int} {M : Nat → Int} (h : HasC w b v c d bs Y M) : b < w.heap.size := by
  obtain ⟨R0, f0, l0, c0, h⟩ := h
  exact h.lts.1
theorem HasC.but {w : World} {b v c d : Nat} {bs : List Int} {Y : Nat → Nat → Int} {M : Nat → Int} (h : HasC w b v c d bs Y M) {w' : World} {g : Nat} (k : OnlyE (fun i => i = g) w w') (hn : g ≠ b ∧ g ≠ v ∧ g ≠ c ∧ g ≠ d ∧ 8 ≤ g) : HasC w' b v c d bs Y M := by
  obtain ⟨R0, f0, l0, c0, h⟩ := h
  exact ⟨R0, f0, l0, c0, h.but k hn⟩
def St (W w : World) (b v c d g : Nat) (bs : List Int) (M : Nat → Int) (row : Array Value) : Prop :=
  HasC w b v c d bs Yp M ∧ w.heap[g]? = some (.cells row 58 (0, 0)) ∧ Below W.heap.size W w ∧ (b < g ∧ v < g ∧ c < g ∧ d < g ∧ 8 ≤ g ∧ W.heap.size ≤ b ∧ W.heap.size ≤ v)
theorem st_first {W w : World} {b v c d : Nat} {bs : List Int} {M : Nat → Int} (h : HasC w b v c d bs Yp M) (hb : Below W.heap.size W w) (lb : W.heap.size ≤ b ∧ W.heap.size ≤ v) (row : Array Value) : St W (w.alloc (.cells row 58)) b v c d w.heap.size bs M row := by
  have k : Below w.heap.size w (w.alloc (.cells row 58)) := (Below.refl _ w).alloc (Nat.le_refl _) _
  have hh := h
  obtain ⟨_, _, _, _, m⟩ := hh
  have L := m.lts
  have s := m.size
  exact ⟨h.next k, heap_alloc_new _ _, bnext hb k, L.1, L.2.1, L.2.2.1, L.2.2.2, s, lb.1, lb.2⟩
theorem St.get {W w : World} {b v c d g : Nat} {bs : List Int} {M : Nat → Int} {row : Array Value} (h : St W w b v c d g bs M row) (j : Nat) (hj : j < 8192) : w.cell? ⟨b, 283 + j, none⟩ = some (.int .u8 (M j)) := h.1.get j hj
theorem St.lt {W w : World} {b v c d g : Nat} {bs : List Int} {M : Nat → Int} {row : Array Value} (h : St W w b v c d g bs M row) : b < w.heap.size := h.1.lt
theorem St.ltg {W w : World} {b v c d g : Nat} {bs : List Int} {M : Nat → Int} {row : Array Value} (h : St W w b v c d g bs M row) : g < w.heap.size := lt_of_block h.2.1
theorem St.reg {W w : World} {b v c d g : Nat} {bs : List Int} {M : Nat → Int} {row : Array Value} (h : St W w b v c d g bs M row) (i : Nat) {x : Value} (e : row[i]? = some x) : w.cell? ⟨g, i, none⟩ = some x := (cell_of_row w g i _ _ _ h.2.1).trans e
theorem St.below {W w : World} {b v c d g : Nat} {bs : List Int} {M : Nat → Int} {row : Array Value} (h : St W w b v c d g bs M row) : Below W.heap.size W w := h.2.2.1
theorem St.row {W w : World} {b v c d g : Nat} {bs : List Int} {M : Nat → Int} {row : Array Value} (h : St W w b v c d g bs M row) (row' : Array Value) : St W (w.setRow g row') b v c d g bs M row' := by
  obtain ⟨h1, h2, h3, a1, a2, a3, a4, a5, a6, a7⟩ := h
  have k4 : OnlyE (fun i => i = g) w (w.setRow g row') := ⟨rfl, rfl, rfl, by simp [World.setRow], fun i hi hE => setRow_other w g i _ hE⟩
  exact ⟨h1.but k4 ⟨by omega, by omega, by omega, by omega, a5⟩, setRow_heap _ _ _ _ _ _ h2, below_setRow h3 (by omega) _, a1, a2, a3, a4, a5, a6, a7⟩
theorem st_step {W w : World} {b v c d g : Nat} {bs : List Int} {M M' : Nat → Int} {a x y s p l a' x' y' s' p' l' cy : Int} {q q' : Nat} {f f' : Bool} (h : St W w b v c d g bs M #[.int .i64 a, .int .i64 x, .int .i64 y, .int .i64 s, .int .i64 p, .int .i64 (8192 + (q : Int)), .bool f, .int .i64 l]) (k : Goes bs Yp M a x y s p q f l M' a' x' y' s' p' q' f' l' cy) :
    Calls Tryz.prog 13 #[.agg #[.int .i64 a, .int .i64 x, .int .i64 y, .int .i64 s, .int .i64 p, .int .i64 (8192 + (q : Int)), .bool f, .int .i64 l], .pointer (some ⟨b, 0, none⟩)] w fun e w' => e = Ending.returned (.tuple #[.agg #[.int .i64 a', .int .i64 x', .int .i64 y', .int .i64 s', .int .i64 p', .int .i64 (8192 + (q' : Int)), .bool f', .int .i64 l'], .int .i64 cy]) ∧ St W w' b v c d g bs M' #[.int .i64 a, .int .i64 x, .int .i64 y, .int .i64 s, .int .i64 p, .int .i64 (8192 + (q : Int)), .bool f, .int .i64 l] := by
  obtain ⟨h1, h2, h3, a1, a2, a3, a4, a5, a6, a7⟩ := h
  refine (k w b v c d h1).mono ?_
  rintro e w' ⟨r, hc, o⟩
  have g2 := o.obj h2 (fun e => by rcases e with e | e <;> omega)
  exact ⟨r, hc, g2, h3.trans (o.below (fun i e => by rcases e with rfl | rfl <;> omega) h3.size), a1, a2, a3, a4, a5, a6, a7⟩
theorem store_core {ops : Array Oper} {rest : List Oper} {o : Oper} {a : Act} {w : World} {Q : Exit → Act → World → Prop} (hgd : o.guard = none) (x y : Operand) (ho : o.op = .store 58 x y) {W : World} {b v c d g : Nat} {bs : List Int} {M : Nat → Int} {row : Array Value} (h : St W w b v c d g bs M row) (h8 : row.size = 8) (hx : a.eval x = .pointer (some ⟨g, 0, none⟩)) (row' : Array Value) (hy : a.eval y = .agg row') (h8' : row'.size = 8) (h1 : row'.all (·.oneCell') = true)
    (hK : ∀ w', St W w' b v c d g bs M row' → wpList Tryz.prog ops Q rest (a.put o.dst undef) w') : wpList Tryz.prog ops Q (o :: rest) a w :=
  wpList_store_row hgd 58 x y ho g row' hx hy 58 row h.2.1 (by rw [h8']; kernel_rfl) (by rw [h8, h8']) h1 (hK _ (h.row row'))
theorem load_core {ops : Array Oper} {rest : List Oper} {o : Oper} {a : Act} {w : World} {Q : Exit → Act → World → Prop} (hgd : o.guard = none) (x : Operand) (ho : o.op = .load 58 x) {W : World} {b v c d g : Nat} {bs : List Int} {M : Nat → Int} {row : Array Value} (h : St W w b v c d g bs M row) (h8 : row.size = 8) (hx : a.eval x = .pointer (some ⟨g, 0, none⟩))
    (hK : wpList Tryz.prog ops Q rest (a.put o.dst (.agg row)) w) : wpList Tryz.prog ops Q (o :: rest) a w :=
  wpList_load_row hgd 58 x ho g hx 58 _ (0, 0) _ h.2.1 Tryz.underlying58 rfl (by rw [h8]; kernel_rfl) hK
end Go.Proofs.YtoijhhbiknhlnaaGreatDoor.L25
namespace Go.Proofs.YtoijhhbiknhlnaaGreatDoor
set_option maxRecDepth 20000
open A2 B4 C3 D24 G6 I11 J23 K9 L24 L25 M5 N8 O7 P22 R15 T10 V12 W13
open Go.RowKit
set_option linter.unusedVariables false
theorem rk14 (x : Nat) (P : Int) : rkV 14 0 (x : Int) P = (((x + 255) % 256 : Nat) : Int) := by
  show ((x : Int) % 256 + 255) % 256 = _
  omega
theorem rkp14 (x P : Int) : rkP 14 0 x P = nzOf (P % 256) ((x % 256 + 255) % 256) := rfl
theorem rk13 (m P : Int) : rkV 13 0 m P = (m % 256 + 1) % 256 := rfl
theorem rkp13 (m P : Int) : rkP 13 0 m P = nzOf (P % 256) ((m % 256 + 1) % 256) := rfl
theorem has_z {q : Int} (h : IsByte q) : hasF (anP q 32) 2 = decide (q / 2 % 2 = 1) := fin_of (P := fun q => hasF (anP q 32) 2 = decide (q / 2 % 2 = 1)) (by unfold hasF anP; decide +kernel) h
theorem nz_zero (P X : Int) : hasF (anP (nzOf P X) 32) 2 = decide (X % 256 = 0) := by
  rw [has_z (nzOf_byte P X), (nz_bits P X).1]
  by_cases h : X % 256 = 0 <;> simp [b01, h]
theorem an_byte {p : Int} (h : IsByte p) : IsByte (anP p 32) := fin_of (P := fun p => 0 ≤ anP p 32 ∧ anP p 32 < 256) (by unfold anP; decide +kernel) h
theorem c_ldx {bs : List Int} {M : Nat → Int} {x p : Int} (hx : IsByte x) (hp : IsByte p) {z : Nat} (hz : z < 256) (h0 : M 1024 = ((162 : Nat) : Int)) (h1 : M 1025 = (z : Int)) : Goes bs Yp M 0 x 0 255 p 1024 false 0 M 0 z 0 255 (nzOf (anP p 32) z) 1026 false 0 2 :=
  go_ldx_i calm_p zB hx zB mB hp (by decide) h0 (by decide) (by kernel_rfl) (by kernel_rfl) (by kernel_rfl) hz h1 (by rw [show nameOf 162 = ⟨#[76, 68, 88]⟩ by kernel_rfl]; exact do_LDX)
theorem c_inc {bs : List Int} {M : Nat → Int} {x p : Int} (hx : IsByte x) (hp : IsByte p) (h0 : M 1026 = ((230 : Nat) : Int)) (h1 : M 1027 = ((16 : Nat) : Int)) : Goes bs Yp M 0 x 0 255 p 1026 false 0 (up M 16 (rkV 13 0 (M 16) (anP p 32) % 256)) 0 x 0 255 (rkP 13 0 (M 16) (anP p 32)) 1028 false 0 6 :=
  go_inc_z calm_p zB hx zB mB hp (by decide) h0 (by decide) (by kernel_rfl) (by kernel_rfl) (by decide) h1 (by kernel_rfl) (by rw [show nameOf 230 = ⟨#[73, 78, 67]⟩ by kernel_rfl]; exact do_INC)
theorem c_dex {bs : List Int} {M : Nat → Int} {x p : Int} (hx : IsByte x) (hp : IsByte p) (h0 : M 1028 = ((202 : Nat) : Int)) : Goes bs Yp M 0 x 0 255 p 1028 false 0 M 0 (rkV 14 0 x (anP p 32)) 0 255 (rkP 14 0 x (anP p 32)) 1029 false 0 2 :=
  go_dex calm_p zB hx zB mB hp (by decide) h0 (by decide) (by kernel_rfl) (by kernel_rfl) (by kernel_rfl) (by rw [show nameOf 202 = ⟨#[68, 69, 88]⟩ by kernel_rfl]; exact do_DEX)
theorem c_bne_yes {bs : List Int} {M : Nat → Int} {x p : Int} (hx : IsByte x) (hp : IsByte p) (h0 : M 1029 = ((208 : Nat) : Int)) (h1 : M 1030 = 251) (on : hasF (anP p 32) 2 = false) : Goes bs Yp M 0 x 0 255 p 1029 false 0 M 0 x 0 255 (anP p 32) 1026 false 0 4 :=
  go_br_yes calm_p zB hx zB mB hp (by decide) h0 (by decide) (by kernel_rfl) (by kernel_rfl) (by kernel_rfl) 2 false (by rw [show nameOf 208 = ⟨#[66, 78, 69]⟩ by kernel_rfl]; exact do_BNE) on (by rw [show M (1029 + 1) = 251 from h1]; decide) (by decide)
theorem c_bne_no {bs : List Int} {M : Nat → Int} {x p : Int} (hx : IsByte x) (hp : IsByte p) (h0 : M 1029 = ((208 : Nat) : Int)) (on : hasF (anP p 32) 2 = true) : Goes bs Yp M 0 x 0 255 p 1029 false 0 M 0 x 0 255 (anP p 32) 1031 false 0 2 :=
  go_br_no calm_p zB hx zB mB hp (by decide) h0 (by decide) (by kernel_rfl) (by kernel_rfl) (by kernel_rfl) 2 false (by rw [show nameOf 208 = ⟨#[66, 78, 69]⟩ by kernel_rfl]; exact do_BNE) (by rw [on]; decide)
def CtI (n R : Nat) (M0 : Nat → Int) (t : Nat) (M : Nat → Int) (x : Nat) (p : Int) (q cy : Nat) : Prop :=
  IsByte p ∧ x < 256 ∧ (∀ j, j ≠ 16 → M j = M0 j) ∧
  ((t = 0 ∧ M 16 = 0 ∧ x = 0 ∧ q = 1024 ∧ cy = 0) ∨
   (∃ j, j < R ∧ t = 1 + 3 * j ∧ M 16 = ((j % 256 : Nat) : Int) ∧ x = (n + 256 - j) % 256 ∧ q = 1026 ∧ cy = 2 + 12 * j) ∨
   (∃ j, j < R ∧ t = 2 + 3 * j ∧ M 16 = (((j + 1) % 256 : Nat) : Int) ∧ x = (n + 256 - j) % 256 ∧ q = 1028 ∧ cy = 8 + 12 * j) ∨
   (∃ j, j < R ∧ t = 3 + 3 * j ∧ M 16 = (((j + 1) % 256 : Nat) : Int) ∧ x = (n + 255 - j) % 256 ∧ q = 1029 ∧ cy = 10 + 12 * j ∧ hasF (anP p 32) 2 = decide (x = 0)) ∨
   (t = 1 + 3 * R ∧ M 16 = ((R % 256 : Nat) : Int) ∧ x = 0 ∧ q = 1031 ∧ cy = 12 * R))
def CtR (n R : Nat) : Prop := (n = 0 ∧ R = 256) ∨ (0 < n ∧ n < 256 ∧ R = n)
theorem ct_next {n R : Nat} (hR : CtR n R) {M0 : Nat → Int} (hC : (M0 1024 = ((162 : Nat) : Int) ∧ M0 1025 = (n : Int)) ∧ (M0 1026 = ((230 : Nat) : Int) ∧ M0 1027 = ((16 : Nat) : Int)) ∧ M0 1028 = ((202 : Nat) : Int) ∧ M0 1029 = ((208 : Nat) : Int) ∧ M0 1030 = 251) (bs : List Int) {t : Nat} {M : Nat → Int} {x : Nat} {p : Int} {q cy : Nat} (h : CtI n R M0 t M x p q cy) (ht : t < 1 + 3 * R) :
    ∃ (M' : Nat → Int) (x' : Nat) (p' : Int) (q' k : Nat), Goes bs Yp M 0 (x : Int) 0 255 p q false 0 M' 0 (x' : Int) 0 255 p' q' false 0 (k : Int) ∧ CtI n R M0 (t + 1) M' x' p' q' (cy + k) := by
  unfold CtR at hR
  obtain ⟨hp, hx, hM, h⟩ := h
  obtain ⟨⟨C0, C1⟩, ⟨C2, C3⟩, C4, C5, C6⟩ := hC
  have xB : IsByte (x : Int) := by unfold IsByte; omega
  have up16 : ∀ y, ∀ j, j ≠ 16 → up M 16 y j = M0 j := fun y j hj => by
    have e : up M 16 y j = M j := by simp [up, hj]
    rw [e]
    exact hM j hj
  rcases h with ⟨rfl, m, rfl, rfl, rfl⟩ | ⟨j, hj, rfl, m, ex, rfl, rfl⟩ | ⟨j, hj, rfl, m, ex, rfl, rfl⟩ | ⟨j, hj, rfl, m, ex, rfl, rfl, hz⟩ | ⟨rfl, _⟩
  · refine ⟨M, n, _, 1026, 2, c_ldx xB hp (by omega) (by rw [hM _ (by decide)]; exact C0) (by rw [hM _ (by decide)]; exact C1), nzOf_byte _ _, by omega, hM, .inr (.inl ⟨0, by omega, by omega, by rw [m]; rfl, by omega, rfl, by omega⟩)⟩
  · refine ⟨_, x, _, 1028, 6, c_inc xB hp (by rw [hM _ (by decide)]; exact C2) (by rw [hM _ (by decide)]; exact C3), by rw [rkp13]; exact nzOf_byte _ _, hx, up16 _, .inr (.inr (.inl ⟨j, hj, by omega, ?_, ex, rfl, by omega⟩))⟩
    rw [show ∀ y, up M 16 y 16 = y from fun y => by simp [up], rk13, m]
    omega
  · refine ⟨M, (x + 255) % 256, rkP 14 0 (x : Int) (anP p 32), 1029, 2, ?_, by rw [rkp14]; exact nzOf_byte _ _, by omega, hM, .inr (.inr (.inr (.inl ⟨j, hj, by omega, m, by omega, rfl, by omega, ?_⟩)))⟩
    · have k := c_dex (bs := bs) xB hp (M := M) (by rw [hM _ (by decide)]; exact C4)
      rw [rk14] at k
      exact k
    · rw [rkp14, nz_zero]
      refine decide_eq_decide.2 ⟨fun e => by omega, fun e => by omega⟩
  · by_cases x0 : x = 0
    · refine ⟨M, x, _, 1031, 2, c_bne_no xB hp (by rw [hM _ (by decide)]; exact C5) (by rw [hz]; simp [x0]), an_byte hp, hx, hM, .inr (.inr (.inr (.inr ⟨by omega, ?_, x0, rfl, by omega⟩)))⟩
      rw [m, show j + 1 = R by omega]
    · refine ⟨M, x, _, 1026, 4, c_bne_yes xB hp (by rw [hM _ (by decide)]; exact C5) (by rw [hM _ (by decide)]; exact C6) (by rw [hz]; simp [x0]), an_byte hp, hx, hM, .inr (.inl ⟨j + 1, by omega, by omega, m, by omega, rfl, by omega⟩)⟩
  · omega
theorem ct_end {n R : Nat} {M0 : Nat → Int} {M : Nat → Int} {x : Nat} {p : Int} {q cy : Nat} (h : CtI n R M0 (1 + 3 * R) M x p q cy) : M 16 = ((R % 256 : Nat) : Int) ∧ x = 0 ∧ q = 1031 ∧ cy = 12 * R := by
  obtain ⟨_, _, _, h⟩ := h
  rcases h with ⟨h, _⟩ | ⟨j, hj, h, _⟩ | ⟨j, hj, h, _⟩ | ⟨j, hj, h, _⟩ | ⟨_, h⟩
  · omega
  · omega
  · omega
  · omega
  · exact h
theorem ct_le {n R : Nat} {M0 : Nat → Int} {t : Nat} {M : Nat → Int} {x : Nat} {p : Int} {q cy : Nat} (h : CtI n R M0 t M x p q cy) : cy ≤ 12 * R + 10 := by
  obtain ⟨_, _, _, h⟩ := h
  rcases h with ⟨_, _, _, _, h⟩ | ⟨j, hj, _, _, _, _, h⟩ | ⟨j, hj, _, _, _, _, h⟩ | ⟨j, hj, _, _, _, _, h, _⟩ | ⟨_, _, _, _, h⟩ <;> omega
set_option maxHeartbeats 2000000 in
theorem cpuCounts_walk (a0 : Int) (W : World) (w0 : (Lit.int .u8 a0).wf = true) (hL : Tabs W ∧ HasErr W ∧ CT W) :
    Calls Tryz.prog 10 #[.int .u8 a0] W fun e w' => e = .returned (.bool true) ∧ Below W.heap.size W w' := by
  obtain ⟨s0, s1⟩ := u8_range w0
  obtain ⟨n, hn, rfl⟩ : ∃ n : Nat, n < 256 ∧ a0 = (n : Int) := ⟨a0.toNat, by omega, by omega⟩
  have HL := hide hL
  clear hL w0
  go_enter Tryz.func10, Tryz.ntmps10
  go_wp2_with fail
  obtain ⟨wa, hwa⟩ : ∃ wa, W.alloc (.cells (([162, (n : Int), 230, 16, 202, 208, 251, 234] : List Int).map (Value.int .u8)).toArray 5) = wa := ⟨_, rfl⟩
  have hwb := hwa
  simp only [List.map_cons, List.map_nil] at hwb
  rw [hwb]
  clear hwb
  have B0 := hide (show Below W.heap.size W wa by rw [← hwa]; exact (Below.refl _ W).alloc (Nat.le_refl _) _)
  have SL := hide (show SlB wa (some ⟨W.heap.size, 0, none⟩) 8 (fun i => [162, (n : Int), 230, 16, 202, 208, 251, 234].getD i 0) from lit_slb (l := [162, (n : Int), 230, 16, 202, 208, 251, 234]) (by rw [← hwa]; exact heap_alloc_new _ _) (show 8 ≤ 9223372036854775807 by decide) (fun x hx => by simp only [List.mem_cons, List.not_mem_nil, or_false] at hx; omega))
  clear hwa
  refine (put_is ⟨HL.out.1.next B0.out, HL.out.2.1.next B0.out, HL.out.2.2.next B0.out⟩ SL.out (nil_slb wa fun _ => 0) (by decide) (by decide)).mono ?_
  rintro e w1 ⟨b, v, c, d, bs, rfl, hc, ⟨lb, lv⟩, b1⟩
  have H1 := hide hc
  have B1 := hide (bnext B0.out b1)
  have LB := hide (show W.heap.size ≤ b ∧ W.heap.size ≤ v by have := B0.out.size; omega)
  clear hc lb lv b1 SL B0 HL
  obtain ⟨M0, hM⟩ : ∃ M, M = putM (fun i => [162, (n : Int), 230, 16, 202, 208, 251, 234].getD i 0) (fun _ => 0) 8 0 := ⟨_, rfl⟩
  rw [← hM] at H1
  have MM := hide (show (M0 1024 = ((162 : Nat) : Int) ∧ M0 1025 = (n : Int)) ∧ (M0 1026 = ((230 : Nat) : Int) ∧ M0 1027 = ((16 : Nat) : Int)) ∧ M0 1028 = ((202 : Nat) : Int) ∧ M0 1029 = ((208 : Nat) : Int) ∧ M0 1030 = 251 by rw [hM]; exact ⟨⟨rfl, rfl⟩, ⟨rfl, rfl⟩, rfl, rfl, rfl⟩)
  have M16 : Hid (M0 16 = 0) := hide (by rw [hM]; rfl)
  clear hM
  have S0 := hide (st_first H1.out B1.out LB.out #[.int .i64 0, .int .i64 0, .int .i64 0, .int .i64 0, .int .i64 0, .int .i64 0, .bool false, .int .i64 0])
  clear H1 B1 LB
  by_cases h0 : n = 0
  · subst h0
    obtain ⟨n, hn0⟩ : ∃ n : Nat, n = 0 := ⟨0, rfl⟩
    have HR : Hid (CtR n 256) := hide (.inl ⟨hn0, rfl⟩)
    have MM2 := MM.out
    rw [show ((0 : Nat) : Int) = (n : Int) by rw [hn0]] at MM2
    replace MM := hide MM2
    have CT0 : Hid (CtI n 256 M0 0 M0 0 0 1024 0) := hide ⟨zB, by decide, fun _ _ => rfl, .inl ⟨rfl, M16.out, rfl, rfl, rfl⟩⟩
    clear M16 MM2 hn0
    go_wp2_with (first
      | (refine store_core rfl (.tmp 4) (.tmp 14) rfl S0.out rfl rfl _ rfl rfl (by kernel_rfl) ?_; intro w2 h2; have S2 := hide h2; clear h2 S0))
    try clear h0'
    try clear h0
    go_loopw [6, 7, 8] (fun v6 v7 v8 wr => ∃ (t : Nat) (M : Nat → Int) (x : Nat) (p : Int) (q cy : Nat), t ≤ 1 + 3 * 256 ∧ v8 = .int .i64 (t : Int) ∧ v6 = .int .i64 (cy : Int) ∧ CtI n 256 M0 t M x p q cy ∧ St W wr b v c d w1.heap.size bs M #[.int .i64 0, .int .i64 (x : Int), .int .i64 0, .int .i64 255, .int .i64 p, .int .i64 (8192 + (q : Int)), .bool false, .int .i64 0]) (fun v6 v7 v8 _ => 1 + 3 * 256 - (intOf v8).toNat)
    case atStart => exact ⟨0, M0, 0, 0, 1024, 0, Nat.zero_le _, rfl, rfl, CT0.out, S2.out⟩
    case round =>
      clear S2
      obtain ⟨t, M, x, p, q, cy, ht, rfl, rfl, hI, hS⟩ := hrel
      have S3 := hide hS
      have I3 := hide hI
      have CY := hide (ct_le hI)
      clear hS hI
      by_cases hlt : t < 1 + 3 * 256
      · obtain ⟨M', x', p', q', k, hG, hI'⟩ := ct_next HR.out MM.out bs I3.out hlt
        have G3 := hide hG
        have I4 := hide hI'
        have CK := hide (ct_le hI')
        clear hG hI'
        have k1 : (t : Int) < 1 + 3 * 256 := by omega
        have k2 : wrap64 ((cy : Int) + (k : Int)) = ((cy + k : Nat) : Int) := by have := CK.out; have hr := HR.out; unfold CtR at hr; unfold wrap64; omega
        go_wp2_with (first
          | (refine load_core rfl (.tmp 4) rfl S3.out rfl rfl ?_)
          | (go_at_call 13; refine (st_step S3.out G3.out).mono ?_; rintro e w4 ⟨rfl, h4⟩; have S4 := hide h4; clear h4 S3 G3)
          | (refine store_core rfl (.tmp 4) (.tmp 32) rfl S4.out rfl rfl _ rfl rfl (by kernel_rfl) ?_; intro w5 h5; have S5 := hide h5; clear h5 S4))
        go_roundw
        case rel => exact ⟨t + 1, M', x', p', q', cy + k, by omega, by go_num, by first | rw [k2] | rfl | go_num, I4.out, S5.out⟩
        case measure => simp [intOf]; omega
      · obtain rfl : t = 1 + 3 * 256 := by omega
        have E := ct_end I3.out
        have k1 : ¬ (((1 + 3 * 256 : Nat) : Int) < 1 + 3 * 256) := by omega
        have c3 := S3.out.get 16 (by decide)
        rw [E.1, show ((256 % 256 : Nat) : Int) = 0 by omega] at c3
        have eA : bits .and .i64 256 255 = 0 := by rw [and_255]; omega
        have eB : (12 * (256 : Int) == 2 + (256 : Int) * 12 - 2) = true := by rw [beq_iff_eq]; omega
        have x3 := S3.out.reg 1 rfl
        have p3 := S3.out.reg 5 rfl
        rw [E.2.1] at x3
        rw [E.2.2.1] at p3
        have l3 := S3.out.lt
        have g3 := S3.out.ltg
        have ec : cy = 12 * 256 := E.2.2.2
        subst ec
        clear E I3 CY
        go_wp2_with fail
        all_goals first | (go_ret; exact ⟨rfl, S3.out.below⟩) | (exfalso; simp_all; done) | (exfalso; omega) | trace_state
  · have HR : Hid (CtR n n) := hide (.inr ⟨by omega, hn, rfl⟩)
    have CT0 : Hid (CtI n n M0 0 M0 0 0 1024 0) := hide ⟨zB, by decide, fun _ _ => rfl, .inl ⟨rfl, M16.out, rfl, rfl, rfl⟩⟩
    have h0' : ¬ ((n : Int) = 0) := by omega
    have hbq : ((n : Int) == 0) = false := by simp only [beq_eq_false_iff_ne]; omega
    clear M16
    go_wp2_with (first
      | (refine store_core rfl (.tmp 4) (.tmp 14) rfl S0.out rfl rfl _ rfl rfl (by kernel_rfl) ?_; intro w2 h2; have S2 := hide h2; clear h2 S0))
    try clear h0'
    try clear h0
    go_loopw [6, 7, 8] (fun v6 v7 v8 wr => ∃ (t : Nat) (M : Nat → Int) (x : Nat) (p : Int) (q cy : Nat), t ≤ 1 + 3 * n ∧ v8 = .int .i64 (t : Int) ∧ v6 = .int .i64 (cy : Int) ∧ CtI n n M0 t M x p q cy ∧ St W wr b v c d w1.heap.size bs M #[.int .i64 0, .int .i64 (x : Int), .int .i64 0, .int .i64 255, .int .i64 p, .int .i64 (8192 + (q : Int)), .bool false, .int .i64 0]) (fun v6 v7 v8 _ => 1 + 3 * n - (intOf v8).toNat)
    case atStart => exact ⟨0, M0, 0, 0, 1024, 0, Nat.zero_le _, rfl, rfl, CT0.out, S2.out⟩
    case round =>
      clear S2
      obtain ⟨t, M, x, p, q, cy, ht, rfl, rfl, hI, hS⟩ := hrel
      have S3 := hide hS
      have I3 := hide hI
      have CY := hide (ct_le hI)
      clear hS hI
      by_cases hlt : t < 1 + 3 * n
      · obtain ⟨M', x', p', q', k, hG, hI'⟩ := ct_next HR.out MM.out bs I3.out hlt
        have G3 := hide hG
        have I4 := hide hI'
        have CK := hide (ct_le hI')
        clear hG hI'
        have k1 : (t : Int) < 1 + 3 * (n:Int) := by omega
        have k2 : wrap64 ((cy : Int) + (k : Int)) = ((cy + k : Nat) : Int) := by have := CK.out; have hr := HR.out; unfold CtR at hr; unfold wrap64; omega
        go_wp2_with (first
          | (refine load_core rfl (.tmp 4) rfl S3.out rfl rfl ?_)
          | (go_at_call 13; refine (st_step S3.out G3.out).mono ?_; rintro e w4 ⟨rfl, h4⟩; have S4 := hide h4; clear h4 S3 G3)
          | (refine store_core rfl (.tmp 4) (.tmp 32) rfl S4.out rfl rfl _ rfl rfl (by kernel_rfl) ?_; intro w5 h5; have S5 := hide h5; clear h5 S4))
        go_roundw
        case rel => exact ⟨t + 1, M', x', p', q', cy + k, by omega, by go_num, by first | rw [k2] | rfl | go_num, I4.out, S5.out⟩
        case measure => simp [intOf]; omega
      · obtain rfl : t = 1 + 3 * n := by omega
        have E := ct_end I3.out
        have k1 : ¬ (((1 + 3 * n : Nat) : Int) < 1 + 3 * (n:Int)) := by omega
        have c3 := S3.out.get 16 (by decide)
        rw [E.1, show ((n % 256 : Nat) : Int) = (n:Int) by omega] at c3
        have eA : bits .and .i64 (n:Int) 255 = (n:Int) := by rw [and_255]; omega
        have eB : (12 * ((n:Int) : Int) == 2 + ((n:Int) : Int) * 12 - 2) = true := by rw [beq_iff_eq]; omega
        have x3 := S3.out.reg 1 rfl
        have p3 := S3.out.reg 5 rfl
        rw [E.2.1] at x3
        rw [E.2.2.1] at p3
        have l3 := S3.out.lt
        have g3 := S3.out.ltg
        have ec : cy = 12 * n := E.2.2.2
        subst ec
        clear E I3 CY
        go_wp2_with fail
        all_goals first | (go_ret; exact ⟨rfl, S3.out.below⟩) | (exfalso; simp_all; done) | (exfalso; omega) | trace_state
end Go.Proofs.YtoijhhbiknhlnaaGreatDoor
