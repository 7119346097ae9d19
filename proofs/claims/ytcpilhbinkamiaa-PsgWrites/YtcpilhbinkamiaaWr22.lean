/- Package psg: what a write does of a sound, on plain numbers; and a channel's own write. -/
import Derived.Test.YtcpilhbinkamiaaChan22
import Derived.Test.YtcpilhbinkamiaaEq22
import Derived.Test.YtcpilhbinkamiaaLastAny
namespace Go.Proofs.Ytcpilhbinkamiaa
open Go.RowKit
set_option linter.unusedVariables false

def takeF (f : Nat → Int) (k : Nat) (v : Int) : Nat → Int :=
  if ch f k 1 / 64 % 2 = 1 then up f (4 + k * 40 + 39) v else up (up f (4 + k * 40 + (4 + (ch f k 36).toNat)) v) (4 + k * 40 + 36) ((ch f k 36 + 1) % 32)
def chW (f : Nat → Int) (k : Nat) (at_ b : Int) : Nat → Int :=
  if at_ = 2 then up f (4 + k * 40) (ch f k 0 / 256 * 256 + b)
  else if at_ = 3 then up f (4 + k * 40) (ch f k 0 % 256 + b % 16 * 256)
  else if at_ = 4 then (if b / 64 = 1 then up (up f (4 + k * 40 + 1) b) (4 + k * 40 + 36) 0 else up f (4 + k * 40 + 1) b)
  else if at_ = 5 then up f (4 + k * 40 + 2) b
  else if at_ = 6 then takeF f k (b % 32)
  else if at_ = 7 then (if 4 ≤ k then up f (4 + k * 40 + 3) b else f)
  else f
def wrF (f : Nat → Int) (at_ b : Int) : Nat → Int :=
  if at_ = 0 then up f 0 (b % 256 % 8) else if at_ = 1 then up f 1 (b % 256) else if at_ = 8 then up f 2 (b % 256) else if at_ = 9 then up f 3 (b % 256)
  else if f 0 < 6 then chW f (f 0).toNat at_ (b % 256) else f

theorem okP_at {f : Nat → Int} (h : okP f) {k : Nat} (hk : k < 6) : okC (ch f k) := h.2.2.2.2 k hk
theorem c_cell {w : World} {b : Nat} {f : Nat → Int} (h : HasF 27 w b 244 (iv f)) {k : Nat} (hk : k < 6) (j : Nat) (hj : j < 40) : w.cell? ⟨b, 4 + k * 40 + j, none⟩ = some (.int .i64 (ch f k j)) := h.int (4 + k * 40 + j) (by omega)
theorem c_cell0 {w : World} {b : Nat} {f : Nat → Int} (h : HasF 27 w b 244 (iv f)) {k : Nat} (hk : k < 6) : w.cell? ⟨b, 4 + k * 40, none⟩ = some (.int .i64 (ch f k 0)) := h.int (4 + k * 40) (by omega)
theorem take_any {w : World} {b : Nat} {f : Nat → Int} (h : HasF 27 w b 244 (iv f)) {k : Nat} (hk : k < 6) (ok : okP f) (v : Int) : Calls Try.prog 21 #[.pointer (some ⟨b, 4 + k * 40, none⟩), .int .i64 v] w fun e w' => e = Ending.returned (.tuple #[]) ∧ HasF 27 w' b 244 (iv (takeF f k v)) ∧ But b w w' := by
  obtain ⟨x0, x1, x2, x3, x4, x5, x6, x7, x8⟩ := okP_at ok hk
  have c1 := c_cell h hk 1 (by decide)
  have c36 := c_cell h hk 36 (by decide)
  have K6 := hide (fun w => set_6 x1.1 x1.2 w)
  have HH := hide h
  by_cases hd : ch f k 1 / 64 % 2 = 1
  · have c39 := c_cell h hk 39 (by decide)
    have z39 := h.frozen (4 + k * 40 + 39)
    have HE : Hid (HasF 27 (w.setCell ⟨b, 4 + k * 40 + 39, none⟩ (.int .i64 v)) b 244 (iv (takeF f k v))) := hide (by unfold takeF; rw [if_pos hd]; exact h.up _ _)
    rw [show decide (ch f k 1 / 64 % 2 = 1) = true by simp [hd]] at K6
    clear h x8 hd c36
    generalize ch f k 1 = y at *
    generalize ch f k 39 = y39 at *
    generalize 4 + k * 40 = o at *
    go_enter Try.func21, Try.ntmps21
    go_wp2_with (go_at_call 20; refine (K6.out _).mono ?_; rintro e w' ⟨rfl, hw⟩; subst w')
    refine bodyPost_ret (results_none rfl _ _ _) rfl ?_
    exact ⟨rfl, HE.out, (But.refl _ _).set _ _⟩
  · have cw := c_cell h hk (4 + (ch f k 36).toNat) (by omega)
    have zw := h.frozen (4 + k * 40 + (4 + (ch f k 36).toNat))
    have z36 := h.frozen (4 + k * 40 + 36)
    have HE : Hid (HasF 27 ((w.setCell ⟨b, 4 + k * 40 + (4 + (ch f k 36).toNat), none⟩ (.int .i64 v)).drew.setCell ⟨b, 4 + k * 40 + 36, none⟩ (.int .i64 ((ch f k 36 + 1) % 32))) b 244 (iv (takeF f k v))) := hide (by
      unfold takeF
      rw [if_neg hd]
      have h1 : HasF 27 (w.setCell ⟨b, 4 + k * 40 + (4 + (ch f k 36).toNat), none⟩ (.int .i64 v)).drew b 244 (iv (up f (4 + k * 40 + (4 + (ch f k 36).toNat)) v)) := h.up _ _
      exact h1.up _ _)
    have CE : Hid ((w.setCell ⟨b, 4 + k * 40 + (4 + (ch f k 36).toNat), none⟩ (.int .i64 v)).drew.cell? ⟨b, 4 + k * 40 + 36, none⟩ = some (.int .i64 (ch f k 36)) ∧ (w.setCell ⟨b, 4 + k * 40 + (4 + (ch f k 36).toNat), none⟩ (.int .i64 v)).drew.frozen? ⟨b, 4 + k * 40 + 36, none⟩ = false) := hide (by
      have h1 : HasF 27 (w.setCell ⟨b, 4 + k * 40 + (4 + (ch f k 36).toNat), none⟩ (.int .i64 v)).drew b 244 (iv (up f (4 + k * 40 + (4 + (ch f k 36).toNat)) v)) := h.up _ _
      have h2 := h1.int (4 + k * 40 + 36) (by omega)
      rw [up_other _ _ _ _ (by omega)] at h2
      exact ⟨h2, h1.frozen _⟩)
    rw [show decide (ch f k 1 / 64 % 2 = 1) = false by simpa using hd] at K6
    rw [show 4 + k * 40 + (4 + (ch f k 36).toNat) = 4 + k * 40 + 4 + (ch f k 36).toNat by omega] at cw zw HE CE
    have ne : 4 + k * 40 + 36 ≠ 4 + k * 40 + 4 + (ch f k 36).toNat := by omega
    have KT : Hid (∀ u : World, u.cell? ⟨b, 4 + k * 40 + 36, none⟩ = some (.int .i64 (ch f k 36)) → u.frozen? ⟨b, 4 + k * 40 + 36, none⟩ = false → Calls Try.prog 27 #[.pointer (some ⟨b, 4 + k * 40, none⟩), .int .i64 1] u fun e w' => e = Ending.returned (.tuple #[]) ∧ w' = u.setCell ⟨b, 4 + k * 40 + 36, none⟩ (.int .i64 ((ch f k 36 + 1) % 32))) := hide (fun u h1 h2 => turn_any b (4 + k * 40) (ch f k 36) 1 u h1 h2 x4.1 x4.2 (by decide) (by decide))
    clear h x8 hd
    generalize ch f k 1 = y at *
    generalize ch f k (4 + (ch f k 36).toNat) = yw at *
    generalize ch f k 36 = ix at *
    generalize 4 + k * 40 = o at *
    go_enter Try.func21, Try.ntmps21
    go_wp2_with (go_at_call 20; refine (K6.out _).mono ?_; rintro e w' ⟨rfl, hw⟩; subst w')
    go_region
    all_goals (try go_wp2_with fail)
    refine (KT.out _ CE.out.1 CE.out.2).mono ?_
    rintro e w2 ⟨rfl, hw⟩
    subst hw
    go_wp2_with fail
    go_end0
    exact ⟨rfl, HE.out, (((But.refl _ _).set _ _).drew).set _ _⟩

theorem or_freq {c b : Int} (c0 : 0 ≤ c) (c1 : c ≤ 4095) (b0 : 0 ≤ b) (b1 : b ≤ 255) : b % 256 + 256 * (c / 256 % 256) = c / 256 * 256 + b := by omega
theorem or_freq2 {c b : Int} (c0 : 0 ≤ c) (c1 : c ≤ 4095) (b0 : 0 ≤ b) (b1 : b ≤ 255) : (c % 256 + 256 * (b % 256)) % 4096 = c % 256 + b % 16 * 256 := by omega
theorem chw_2 {w : World} {b : Nat} {f : Nat → Int} (h : HasF 27 w b 244 (iv f)) {k : Nat} (hk : k < 6) (ok : okP f) (b0 : Int) (hb0 : 0 ≤ b0) (hb1 : b0 ≤ 255) : Calls Try.prog 11 #[.pointer (some ⟨b, 4 + k * 40, none⟩), .int .i64 (k : Int), .int .i64 2, .int .i64 b0] w fun e w' => e = Ending.returned (.tuple #[]) ∧ HasF 27 w' b 244 (iv (chW f k 2 b0)) ∧ But b w w' := by
  obtain ⟨x0, x1, x2, x3, x4, x5, x6, x7, x8⟩ := okP_at ok hk
  have c0 := c_cell0 h hk
  have HH := hide h
  have HL := hide h.lt
  have HE : Hid (∀ u : World, HasF 27 u b 244 (iv f) → HasF 27 (u.setCell ⟨b, 4 + k * 40, none⟩ (.int .i64 (b0 % 256 + 256 * (ch f k 0 / 256 % 256)))) b 244 (iv (chW f k 2 b0))) := hide (fun u hu => by
    rw [or_freq x0.1 x0.2 hb0 hb1]
    exact hu.up _ _)
  have CC : Hid (∀ u : World, HasF 27 u b 244 (iv f) → u.cell? ⟨b, 4 + k * 40, none⟩ = some (.int .i64 (ch f k 0)) ∧ u.frozen? ⟨b, 4 + k * 40, none⟩ = false) := hide (fun u hu => ⟨c_cell0 hu hk, hu.frozen _⟩)
  clear h x8
  generalize ch f k 0 = y at *
  generalize 4 + k * 40 = o at *
  go_enter Try.func11, Try.ntmps11
  go_wp2_with (first
    | (go_at_call 18; refine (split_any _ _).mono ?_; rintro e w' ⟨rfl, hw⟩; subst w')
    | (go_at_call 19; refine (join_any _ _ _).mono ?_; rintro e w2 ⟨rfl, b2⟩; have H2 := hide (HH.out.next b2); obtain ⟨d1, d2⟩ := CC.out _ H2.out))
  go_end0
  exact ⟨rfl, HE.out _ H2.out, (But.of b2).set _ _⟩
theorem chw_3 {w : World} {b : Nat} {f : Nat → Int} (h : HasF 27 w b 244 (iv f)) {k : Nat} (hk : k < 6) (ok : okP f) (b0 : Int) (hb0 : 0 ≤ b0) (hb1 : b0 ≤ 255) : Calls Try.prog 11 #[.pointer (some ⟨b, 4 + k * 40, none⟩), .int .i64 (k : Int), .int .i64 3, .int .i64 b0] w fun e w' => e = Ending.returned (.tuple #[]) ∧ HasF 27 w' b 244 (iv (chW f k 3 b0)) ∧ But b w w' := by
  obtain ⟨x0, x1, x2, x3, x4, x5, x6, x7, x8⟩ := okP_at ok hk
  have c0 := c_cell0 h hk
  have HH := hide h
  have HL := hide h.lt
  have HE : Hid (∀ u : World, HasF 27 u b 244 (iv f) → HasF 27 (u.setCell ⟨b, 4 + k * 40, none⟩ (.int .i64 ((ch f k 0 % 256 + 256 * (b0 % 256)) % 4096))) b 244 (iv (chW f k 3 b0))) := hide (fun u hu => by
    rw [or_freq2 x0.1 x0.2 hb0 hb1]
    exact hu.up _ _)
  have CC : Hid (∀ u : World, HasF 27 u b 244 (iv f) → u.cell? ⟨b, 4 + k * 40, none⟩ = some (.int .i64 (ch f k 0)) ∧ u.frozen? ⟨b, 4 + k * 40, none⟩ = false) := hide (fun u hu => ⟨c_cell0 hu hk, hu.frozen _⟩)
  have mk := mask_4095 (ch f k 0 % 256 + 256 * (b0 % 256))
  clear h x8
  generalize ch f k 0 = y at *
  generalize 4 + k * 40 = o at *
  go_enter Try.func11, Try.ntmps11
  go_wp2_with (first
    | (go_at_call 18; refine (split_any _ _).mono ?_; rintro e w' ⟨rfl, hw⟩; subst w')
    | (go_at_call 19; refine (join_any _ _ _).mono ?_; rintro e w2 ⟨rfl, b2⟩; have H2 := hide (HH.out.next b2); obtain ⟨d1, d2⟩ := CC.out _ H2.out))
  go_end0
  exact ⟨rfl, HE.out _ H2.out, (But.of b2).set _ _⟩
theorem chw_4 {w : World} {b : Nat} {f : Nat → Int} (h : HasF 27 w b 244 (iv f)) {k : Nat} (hk : k < 6) (ok : okP f) (b0 : Int) (hb0 : 0 ≤ b0) (hb1 : b0 ≤ 255) : Calls Try.prog 11 #[.pointer (some ⟨b, 4 + k * 40, none⟩), .int .i64 (k : Int), .int .i64 4, .int .i64 b0] w fun e w' => e = Ending.returned (.tuple #[]) ∧ HasF 27 w' b 244 (iv (chW f k 4 b0)) ∧ But b w w' := by
  obtain ⟨x0, x1, x2, x3, x4, x5, x6, x7, x8⟩ := okP_at ok hk
  have c0 := c_cell0 h hk
  have HH := hide h
  have HL := hide h.lt
  have c1 := c_cell h hk 1 (by decide)
  have z1 := h.frozen (4 + k * 40 + 1)
  have c36 := c_cell h hk 36 (by decide)
  have z36 := h.frozen (4 + k * 40 + 36)
  have S6 := hide (fun w => set_6 hb0 hb1 w)
  have S7 := hide (fun w => set_7 hb0 hb1 w)
  have HE1 : Hid (b0 / 64 = 1 → HasF 27 ((w.setCell ⟨b, 4 + k * 40 + 1, none⟩ (.int .i64 b0)).setCell ⟨b, 4 + k * 40 + 36, none⟩ (.int .i64 0)) b 244 (iv (chW f k 4 b0))) := hide (fun e => by
    have q : chW f k 4 b0 = up (up f (4 + k * 40 + 1) b0) (4 + k * 40 + 36) 0 := by unfold chW; simp [e]
    rw [q]
    exact (h.up _ _).up _ _)
  have HE2 : Hid (¬ b0 / 64 = 1 → HasF 27 (w.setCell ⟨b, 4 + k * 40 + 1, none⟩ (.int .i64 b0)) b 244 (iv (chW f k 4 b0))) := hide (fun e => by
    have q : chW f k 4 b0 = up f (4 + k * 40 + 1) b0 := by unfold chW; simp [e]
    rw [q]
    exact h.up _ _)
  clear h x8 x0 x1 x2 x3 x4 x5 x6 x7
  generalize ch f k 0 = y at *
  generalize ch f k 1 = y1 at *
  generalize ch f k 36 = y36 at *
  generalize 4 + k * 40 = o at *
  by_cases h6 : b0 / 64 % 2 = 1
  · by_cases h7 : 128 ≤ b0
    · have hq := hide (show ¬ b0 / 64 = 1 by omega)
      rw [show decide (b0 / 64 % 2 = 1) = true by simp; omega] at S6
      rw [show decide (128 ≤ b0) = true by simp; omega] at S7
      clear h6 h7
      go_enter Try.func11, Try.ntmps11
      go_wp2_with (go_at_call 18; refine (split_any _ _).mono ?_; rintro e w' ⟨rfl, hw⟩; subst w')
      refine (S6.out _).mono ?_
      rintro e w2 ⟨rfl, hw⟩
      subst w2
      go_wp2_with fail
      refine (S7.out _).mono ?_
      rintro e w2 ⟨rfl, hw⟩
      subst w2
      go_wp2_with fail
      go_end0
      exact ⟨rfl, HE2.out hq.out, (But.refl _ _).set _ _⟩
    · have hq := hide (show b0 / 64 = 1 by omega)
      rw [show decide (b0 / 64 % 2 = 1) = true by simp; omega] at S6
      rw [show decide (128 ≤ b0) = false by simp; omega] at S7
      clear h6 h7
      go_enter Try.func11, Try.ntmps11
      go_wp2_with (go_at_call 18; refine (split_any _ _).mono ?_; rintro e w' ⟨rfl, hw⟩; subst w')
      refine (S6.out _).mono ?_
      rintro e w2 ⟨rfl, hw⟩
      subst w2
      go_wp2_with fail
      refine (S7.out _).mono ?_
      rintro e w2 ⟨rfl, hw⟩
      subst w2
      go_wp2_with fail
      go_end0
      exact ⟨rfl, HE1.out hq.out, ((But.refl _ _).set _ _).set _ _⟩
  · have hq := hide (show ¬ b0 / 64 = 1 by omega)
    have h7 : True := trivial
    rw [show decide (b0 / 64 % 2 = 1) = false by simp; omega] at S6
    clear h6 h7
    go_enter Try.func11, Try.ntmps11
    go_wp2_with (go_at_call 18; refine (split_any _ _).mono ?_; rintro e w' ⟨rfl, hw⟩; subst w')
    refine (S6.out _).mono ?_
    rintro e w2 ⟨rfl, hw⟩
    subst w2
    go_wp2_with fail
    go_end0
    exact ⟨rfl, HE2.out hq.out, (But.refl _ _).set _ _⟩
theorem chw_5 {w : World} {b : Nat} {f : Nat → Int} (h : HasF 27 w b 244 (iv f)) {k : Nat} (hk : k < 6) (ok : okP f) (b0 : Int) (hb0 : 0 ≤ b0) (hb1 : b0 ≤ 255) : Calls Try.prog 11 #[.pointer (some ⟨b, 4 + k * 40, none⟩), .int .i64 (k : Int), .int .i64 5, .int .i64 b0] w fun e w' => e = Ending.returned (.tuple #[]) ∧ HasF 27 w' b 244 (iv (chW f k 5 b0)) ∧ But b w w' := by
  obtain ⟨x0, x1, x2, x3, x4, x5, x6, x7, x8⟩ := okP_at ok hk
  have c0 := c_cell0 h hk
  have HH := hide h
  have HL := hide h.lt
  have c2 := c_cell h hk 2 (by decide)
  have z2 := h.frozen (4 + k * 40 + 2)
  have HE : Hid (HasF 27 (w.setCell ⟨b, 4 + k * 40 + 2, none⟩ (.int .i64 b0)) b 244 (iv (chW f k 5 b0))) := hide (h.up _ _)
  clear h x8
  generalize ch f k 0 = y at *
  generalize ch f k 2 = y2 at *
  generalize 4 + k * 40 = o at *
  go_enter Try.func11, Try.ntmps11
  go_wp2_with (go_at_call 18; refine (split_any _ _).mono ?_; rintro e w' ⟨rfl, hw⟩; subst w')
  go_end0
  exact ⟨rfl, HE.out, (But.refl _ _).set _ _⟩
theorem chw_6 {w : World} {b : Nat} {f : Nat → Int} (h : HasF 27 w b 244 (iv f)) {k : Nat} (hk : k < 6) (ok : okP f) (b0 : Int) (hb0 : 0 ≤ b0) (hb1 : b0 ≤ 255) : Calls Try.prog 11 #[.pointer (some ⟨b, 4 + k * 40, none⟩), .int .i64 (k : Int), .int .i64 6, .int .i64 b0] w fun e w' => e = Ending.returned (.tuple #[]) ∧ HasF 27 w' b 244 (iv (chW f k 6 b0)) ∧ But b w w' := by
  obtain ⟨x0, x1, x2, x3, x4, x5, x6, x7, x8⟩ := okP_at ok hk
  have c0 := c_cell0 h hk
  have HH := hide h
  have HL := hide h.lt
  have KT := hide (take_any h hk ok (b0 % 32))
  have mk := mask_31 b0
  have HE : Hid (chW f k 6 b0 = takeF f k (b0 % 32)) := hide rfl
  rw [← HE.out] at KT
  clear h x8 ok
  generalize ch f k 0 = y at *
  generalize b0 % 32 = v at *
  generalize 4 + k * 40 = o at *
  go_enter Try.func11, Try.ntmps11
  go_wp2_with (first
    | (go_at_call 18; refine (split_any _ _).mono ?_; rintro e w' ⟨rfl, hw⟩; subst w')
    | (go_at_call 21; refine KT.out.mono ?_; rintro e w2 ⟨rfl, h2, b2⟩; have H2 := hide h2; have B2 := hide b2; clear h2 b2))
  go_end0
  exact ⟨rfl, H2.out, B2.out⟩
theorem chw_7 {w : World} {b : Nat} {f : Nat → Int} (h : HasF 27 w b 244 (iv f)) {k : Nat} (hk : k < 6) (ok : okP f) (b0 : Int) (hb0 : 0 ≤ b0) (hb1 : b0 ≤ 255) : Calls Try.prog 11 #[.pointer (some ⟨b, 4 + k * 40, none⟩), .int .i64 (k : Int), .int .i64 7, .int .i64 b0] w fun e w' => e = Ending.returned (.tuple #[]) ∧ HasF 27 w' b 244 (iv (chW f k 7 b0)) ∧ But b w w' := by
  obtain ⟨x0, x1, x2, x3, x4, x5, x6, x7, x8⟩ := okP_at ok hk
  have c0 := c_cell0 h hk
  have HH := hide h
  have HL := hide h.lt
  have c3 := c_cell h hk 3 (by decide)
  have z3 := h.frozen (4 + k * 40 + 3)
  by_cases h4 : 4 ≤ k
  · have HE : Hid (HasF 27 (w.setCell ⟨b, 4 + k * 40 + 3, none⟩ (.int .i64 b0)) b 244 (iv (chW f k 7 b0))) := hide (by
      have q : chW f k 7 b0 = up f (4 + k * 40 + 3) b0 := by unfold chW; simp [h4]
      rw [q]
      exact h.up _ _)
    clear h x8
    generalize ch f k 0 = y at *
    generalize ch f k 3 = y3 at *
    generalize 4 + k * 40 = o at *
    go_enter Try.func11, Try.ntmps11
    go_wp2_with (go_at_call 18; refine (split_any _ _).mono ?_; rintro e w' ⟨rfl, hw⟩; subst w')
    go_end0
    exact ⟨rfl, HE.out, (But.refl _ _).set _ _⟩
  · have HE : Hid (HasF 27 w b 244 (iv (chW f k 7 b0))) := hide (by
      have q : chW f k 7 b0 = f := by unfold chW; simp [h4]
      rw [q]
      exact h)
    clear h x8
    generalize ch f k 0 = y at *
    generalize ch f k 3 = y3 at *
    generalize 4 + k * 40 = o at *
    go_enter Try.func11, Try.ntmps11
    go_wp2_with (go_at_call 18; refine (split_any _ _).mono ?_; rintro e w' ⟨rfl, hw⟩; subst w')
    go_end0
    exact ⟨rfl, HE.out, But.refl _ _⟩
theorem chw_no {w : World} {b : Nat} {f : Nat → Int} (h : HasF 27 w b 244 (iv f)) {k : Nat} (hk : k < 6) (ok : okP f) (b0 : Int) (hb0 : 0 ≤ b0) (hb1 : b0 ≤ 255) (at_ : Int) (h2 : ¬ at_ = 2) (h3 : ¬ at_ = 3) (h4 : ¬ at_ = 4) (h5 : ¬ at_ = 5) (h6 : ¬ at_ = 6) (h7 : ¬ at_ = 7) : Calls Try.prog 11 #[.pointer (some ⟨b, 4 + k * 40, none⟩), .int .i64 (k : Int), .int .i64 at_, .int .i64 b0] w fun e w' => e = Ending.returned (.tuple #[]) ∧ HasF 27 w' b 244 (iv (chW f k at_ b0)) ∧ But b w w' := by
  obtain ⟨x0, x1, x2, x3, x4, x5, x6, x7, x8⟩ := okP_at ok hk
  have c0 := c_cell0 h hk
  have HH := hide h
  have HL := hide h.lt
  have HE : Hid (HasF 27 w b 244 (iv (chW f k at_ b0))) := hide (by
    have q : chW f k at_ b0 = f := by unfold chW; simp [h2, h3, h4, h5, h6, h7]
    rw [q]
    exact h)
  clear h x8
  generalize ch f k 0 = y at *
  generalize 4 + k * 40 = o at *
  go_enter Try.func11, Try.ntmps11
  go_wp2_with (go_at_call 18; refine (split_any _ _).mono ?_; rintro e w' ⟨rfl, hw⟩; subst w')
  go_end0
  exact ⟨rfl, HE.out, But.refl _ _⟩
theorem chw_any {w : World} {b : Nat} {f : Nat → Int} (h : HasF 27 w b 244 (iv f)) {k : Nat} (hk : k < 6) (ok : okP f) (b0 : Int) (hb0 : 0 ≤ b0) (hb1 : b0 ≤ 255) (at_ : Int) : Calls Try.prog 11 #[.pointer (some ⟨b, 4 + k * 40, none⟩), .int .i64 (k : Int), .int .i64 at_, .int .i64 b0] w fun e w' => e = Ending.returned (.tuple #[]) ∧ HasF 27 w' b 244 (iv (chW f k at_ b0)) ∧ But b w w' := by
  by_cases h2 : at_ = 2
  · subst h2; exact chw_2 h hk ok b0 hb0 hb1
  by_cases h3 : at_ = 3
  · subst h3; exact chw_3 h hk ok b0 hb0 hb1
  by_cases h4 : at_ = 4
  · subst h4; exact chw_4 h hk ok b0 hb0 hb1
  by_cases h5 : at_ = 5
  · subst h5; exact chw_5 h hk ok b0 hb0 hb1
  by_cases h6 : at_ = 6
  · subst h6; exact chw_6 h hk ok b0 hb0 hb1
  by_cases h7 : at_ = 7
  · subst h7; exact chw_7 h hk ok b0 hb0 hb1
  exact chw_no h hk ok b0 hb0 hb1 at_ h2 h3 h4 h5 h6 h7
end Go.Proofs.Ytcpilhbinkamiaa
