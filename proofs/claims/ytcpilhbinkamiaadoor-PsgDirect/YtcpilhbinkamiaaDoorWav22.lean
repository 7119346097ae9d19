/- A sound of one channel, as it is written number by number, and how it goes on. -/
import Derived.Test.YtcpilhbinkamiaaDoorSamples22
import Derived.Test.YtcpilhbinkamiaaDoorWrite22
namespace Go.Proofs.YtcpilhbinkamiaaDoor
open Go.RowKit
set_option linter.unusedVariables false

def chanW (fq c bl ix ac : Int) (W : Nat → Int) (j : Nat) : Int := if j = 0 then fq else if j = 1 then c else if j = 2 then bl else if 4 ≤ j ∧ j < 36 then W (j - 4) else if j = 36 then ix else if j = 37 then ac else if j = 38 then 1 else 0
def wavF (k : Nat) (m fq c bl ix ac : Int) (W : Nat → Int) (i : Nat) : Int := if i = 0 then (k : Int) else if i = 1 then m else if i < 4 then 0 else if (i - 4) / 40 = k then chanW fq c bl ix ac W ((i - 4) % 40) else if (i - 4) / 40 < 6 ∧ (i - 4) % 40 = 38 then 1 else 0
theorem ch_wav {k : Nat} {m fq c bl ix ac : Int} {W : Nat → Int} (k' j : Nat) (hj : j < 40) : ch (wavF k m fq c bl ix ac W) k' j = if k' = k then chanW fq c bl ix ac W j else if k' < 6 ∧ j = 38 then 1 else 0 := by
  unfold ch wavF
  rw [if_neg (by omega), if_neg (by omega), if_neg (by omega), show (4 + k' * 40 + j - 4) / 40 = k' by omega, show (4 + k' * 40 + j - 4) % 40 = j by omega]
theorem ch_own {k : Nat} {m fq c bl ix ac : Int} {W : Nat → Int} (j : Nat) (hj : j < 40) : ch (wavF k m fq c bl ix ac W) k j = chanW fq c bl ix ac W j := by rw [ch_wav k j hj, if_pos rfl]
theorem put_fq {k : Nat} {m fq c bl ix ac : Int} {W : Nat → Int} (v : Int) : up (wavF k m fq c bl ix ac W) (4 + k * 40) v = wavF k m v c bl ix ac W := by
  funext i
  unfold up wavF
  by_cases h : i = (4+k*40)
  · subst h
    rw [if_pos rfl, if_neg (by omega), if_neg (by omega), if_neg (by omega), if_pos (by omega)]
    unfold chanW
    rw [show ((4+k*40) - 4) % 40 = 0 by omega]
    simp
  · rw [if_neg h]
    by_cases e : (i - 4) / 40 = k
    · rw [if_pos e, if_pos e]
      by_cases h3 : i < 4
      · rw [if_pos h3, if_pos h3]
      · rw [if_neg h3, if_neg h3]
        unfold chanW
        simp [show ¬ (i - 4) % 40 = 0 by omega]
    · rw [if_neg e, if_neg e]
theorem put_c {k : Nat} {m fq c bl ix ac : Int} {W : Nat → Int} (v : Int) : up (wavF k m fq c bl ix ac W) (4 + k * 40 + 1) v = wavF k m fq v bl ix ac W := by
  funext i
  unfold up wavF
  by_cases h : i = (4+k*40+1)
  · subst h
    rw [if_pos rfl, if_neg (by omega), if_neg (by omega), if_neg (by omega), if_pos (by omega)]
    unfold chanW
    rw [show ((4+k*40+1) - 4) % 40 = 1 by omega]
    simp
  · rw [if_neg h]
    by_cases e : (i - 4) / 40 = k
    · rw [if_pos e, if_pos e]
      by_cases h3 : i < 4
      · rw [if_pos h3, if_pos h3]
      · rw [if_neg h3, if_neg h3]
        unfold chanW
        simp [show ¬ (i - 4) % 40 = 1 by omega]
    · rw [if_neg e, if_neg e]
theorem put_bl {k : Nat} {m fq c bl ix ac : Int} {W : Nat → Int} (v : Int) : up (wavF k m fq c bl ix ac W) (4 + k * 40 + 2) v = wavF k m fq c v ix ac W := by
  funext i
  unfold up wavF
  by_cases h : i = (4+k*40+2)
  · subst h
    rw [if_pos rfl, if_neg (by omega), if_neg (by omega), if_neg (by omega), if_pos (by omega)]
    unfold chanW
    rw [show ((4+k*40+2) - 4) % 40 = 2 by omega]
    simp
  · rw [if_neg h]
    by_cases e : (i - 4) / 40 = k
    · rw [if_pos e, if_pos e]
      by_cases h3 : i < 4
      · rw [if_pos h3, if_pos h3]
      · rw [if_neg h3, if_neg h3]
        unfold chanW
        simp [show ¬ (i - 4) % 40 = 2 by omega]
    · rw [if_neg e, if_neg e]
theorem put_ix {k : Nat} {m fq c bl ix ac : Int} {W : Nat → Int} (v : Int) : up (wavF k m fq c bl ix ac W) (4 + k * 40 + 36) v = wavF k m fq c bl v ac W := by
  funext i
  unfold up wavF
  by_cases h : i = (4+k*40+36)
  · subst h
    rw [if_pos rfl, if_neg (by omega), if_neg (by omega), if_neg (by omega), if_pos (by omega)]
    unfold chanW
    rw [show ((4+k*40+36) - 4) % 40 = 36 by omega]
    simp
  · rw [if_neg h]
    by_cases e : (i - 4) / 40 = k
    · rw [if_pos e, if_pos e]
      by_cases h3 : i < 4
      · rw [if_pos h3, if_pos h3]
      · rw [if_neg h3, if_neg h3]
        unfold chanW
        simp [show ¬ (i - 4) % 40 = 36 by omega]
    · rw [if_neg e, if_neg e]
theorem put_ac {k : Nat} {m fq c bl ix ac : Int} {W : Nat → Int} (v : Int) : up (wavF k m fq c bl ix ac W) (4 + k * 40 + 37) v = wavF k m fq c bl ix v W := by
  funext i
  unfold up wavF
  by_cases h : i = (4+k*40+37)
  · subst h
    rw [if_pos rfl, if_neg (by omega), if_neg (by omega), if_neg (by omega), if_pos (by omega)]
    unfold chanW
    rw [show ((4+k*40+37) - 4) % 40 = 37 by omega]
    simp
  · rw [if_neg h]
    by_cases e : (i - 4) / 40 = k
    · rw [if_pos e, if_pos e]
      by_cases h3 : i < 4
      · rw [if_pos h3, if_pos h3]
      · rw [if_neg h3, if_neg h3]
        unfold chanW
        simp [show ¬ (i - 4) % 40 = 37 by omega]
    · rw [if_neg e, if_neg e]
theorem put_W {k : Nat} {m fq c bl ix ac : Int} {W : Nat → Int} (r : Nat) (hr : r < 32) (v : Int) : up (wavF k m fq c bl ix ac W) (4 + k * 40 + (4 + r)) v = wavF k m fq c bl ix ac (up W r v) := by
  funext i
  by_cases h : i = 4 + k * 40 + (4 + r)
  · subst h
    rw [up_same]
    unfold wavF
    rw [if_neg (by omega), if_neg (by omega), if_neg (by omega), if_pos (by omega)]
    unfold chanW
    rw [show (4 + k * 40 + (4 + r) - 4) % 40 = 4 + r by omega, if_neg (by omega), if_neg (by omega), if_neg (by omega), if_pos (by omega), show 4 + r - 4 = r by omega, up_same]
  · rw [up_other _ _ _ _ h]
    unfold wavF
    by_cases h3 : i < 4
    · rw [if_pos h3, if_pos h3]
    · rw [if_neg h3, if_neg h3]
      by_cases e : (i - 4) / 40 = k
      · rw [if_pos e, if_pos e]
        unfold chanW
        by_cases h4 : 4 ≤ (i - 4) % 40 ∧ (i - 4) % 40 < 36
        · rw [if_pos h4, if_pos h4, up_other _ _ _ _ (by omega)]
        · rw [if_neg h4, if_neg h4]
      · rw [if_neg e, if_neg e]
theorem put_m {k : Nat} {m fq c bl ix ac : Int} {W : Nat → Int} (v : Int) : up (wavF k m fq c bl ix ac W) 1 v = wavF k v fq c bl ix ac W := by
  funext i
  unfold up wavF
  by_cases h : i = 1
  · rw [if_pos h, if_neg (by omega), if_pos h]
  · rw [if_neg h, if_neg h, if_neg h]
theorem put_first {k : Nat} (hk : k < 6) : up freshF 0 (k : Int) = wavF k 0 0 0 0 0 0 (fun _ => 0) := by
  funext i
  unfold up wavF freshF freshTo chanW
  by_cases h : i = 0
  · rw [if_pos h, if_pos h]
  · rw [if_neg h, if_neg h]
    by_cases h1 : i = 1
    · rw [if_pos h1, if_neg (by omega)]
    · rw [if_neg h1]
      by_cases h3 : i < 4
      · rw [if_pos h3, if_neg (by omega)]
      · rw [if_neg h3]
        by_cases e : (i - 4) / 40 = k
        · rw [if_pos e]
          by_cases e38 : (i - 4) % 40 = 38
          · rw [if_pos (by omega)]
            simp [e38]
          · rw [if_neg (by omega)]
            simp [e38]
        · rw [if_neg e]
          by_cases e38 : (i - 4) / 40 < 6 ∧ (i - 4) % 40 = 38
          · rw [if_pos e38, if_pos (by omega)]
          · rw [if_neg e38, if_neg (by omega)]
theorem wav_0 {k : Nat} {m fq c bl ix ac : Int} {W : Nat → Int} : (wavF k m fq c bl ix ac W) 0 = (k : Int) := rfl
theorem wav_ok {k : Nat} {m fq c bl ix ac : Int} {W : Nat → Int} (hk : k < 6) (m0 : 0 ≤ m ∧ m ≤ 255) (f0 : 0 ≤ fq ∧ fq ≤ 4095) (c0 : 0 ≤ c ∧ c ≤ 255) (l0 : 0 ≤ bl ∧ bl ≤ 255) (i0 : 0 ≤ ix ∧ ix ≤ 31) (a0 : 0 ≤ ac ∧ ac ≤ 16777215) (W0 : ∀ j, j < 32 → 0 ≤ W j ∧ W j ≤ 31) : okP (wavF k m fq c bl ix ac W) := by
  unfold okP
  refine ⟨by rw [wav_0]; omega, m0, by simp [wavF], by simp [wavF], fun k' hk' => ?_⟩
  unfold okC
  rw [ch_wav k' 0 (by decide), ch_wav k' 1 (by decide), ch_wav k' 2 (by decide), ch_wav k' 3 (by decide), ch_wav k' 36 (by decide), ch_wav k' 37 (by decide), ch_wav k' 38 (by decide), ch_wav k' 39 (by decide)]
  by_cases e : k' = k
  · rw [if_pos e, if_pos e, if_pos e, if_pos e, if_pos e, if_pos e, if_pos e, if_pos e]
    refine ⟨f0, c0, l0, by simp [chanW], i0, a0, by simp [chanW], by simp [chanW], fun i hi => ?_⟩
    rw [ch_wav k' (4 + i) (by omega), if_pos e]
    unfold chanW
    rw [if_neg (by omega), if_neg (by omega), if_neg (by omega), if_pos (by omega), show 4 + i - 4 = i by omega]
    exact W0 i hi
  · rw [if_neg e, if_neg e, if_neg e, if_neg e, if_neg e, if_neg e, if_neg e, if_neg e]
    refine ⟨by simp, by simp, by simp, by simp, by simp, by simp, by simp [hk'], by simp, fun i hi => ?_⟩
    rw [ch_wav k' (4 + i) (by omega), if_neg e, if_neg (by omega)]
    decide
/-! ### Writes -/
theorem wrF_ch {k : Nat} {m fq c bl ix ac : Int} {W : Nat → Int} (hk : k < 6) (at_ b : Int) (h : 2 ≤ at_ ∧ at_ ≤ 7) : wrF (wavF k m fq c bl ix ac W) at_ b = chW (wavF k m fq c bl ix ac W) k at_ (b % 256) := by
  unfold wrF
  rw [if_neg (by omega), if_neg (by omega), if_neg (by omega), if_neg (by omega), wav_0, if_pos (by omega)]
  rfl
theorem wr_1 {k : Nat} {m fq c bl ix ac : Int} {W : Nat → Int} (b : Int) : wrF (wavF k m fq c bl ix ac W) 1 b = wavF k (b % 256) fq c bl ix ac W := put_m _
theorem wr_2 {k : Nat} {m fq c bl ix ac : Int} {W : Nat → Int} (hk : k < 6) (hf : 0 ≤ fq ∧ fq ≤ 255) (b : Int) : wrF (wavF k m fq c bl ix ac W) 2 b = wavF k m (b % 256) c bl ix ac W := by
  rw [wrF_ch hk 2 b (by decide)]
  show up _ _ (ch (wavF k m fq c bl ix ac W) k 0 / 256 * 256 + b % 256) = _
  rw [put_fq, ch_own 0 (by decide), show chanW fq c bl ix ac W 0 = fq from rfl, show fq / 256 * 256 + b % 256 = b % 256 by omega]
theorem wr_5 {k : Nat} {m fq c bl ix ac : Int} {W : Nat → Int} (hk : k < 6) (b : Int) : wrF (wavF k m fq c bl ix ac W) 5 b = wavF k m fq c (b % 256) ix ac W := by
  rw [wrF_ch hk 5 b (by decide)]
  exact put_bl _
theorem wr_4 {k : Nat} {m fq c bl ix ac : Int} {W : Nat → Int} (hk : k < 6) (b : Int) : wrF (wavF k m fq c bl ix ac W) 4 b = wavF k m fq (b % 256) bl (if b % 256 / 64 = 1 then 0 else ix) ac W := by
  rw [wrF_ch hk 4 b (by decide)]
  show (if b % 256 / 64 = 1 then up (up (wavF k m fq c bl ix ac W) _ _) _ 0 else up (wavF k m fq c bl ix ac W) _ _) = _
  rw [put_c, put_ix]
  split <;> rfl
theorem wr_6 {k : Nat} {m fq c bl ix ac : Int} {W : Nat → Int} (hk : k < 6) (b : Int) (hc : ¬ c / 64 % 2 = 1) (r : Nat) (hr : r < 32) (hi : ix = (r : Int)) : wrF (wavF k m fq c bl ix ac W) 6 b = wavF k m fq c bl ((ix + 1) % 32) ac (up W r (b % 256 % 32)) := by
  rw [wrF_ch hk 6 b (by decide)]
  show takeF (wavF k m fq c bl ix ac W) k (b % 256 % 32) = _
  unfold takeF
  rw [ch_own 1 (by decide), show chanW fq c bl ix ac W 1 = c from rfl, if_neg hc, ch_own 36 (by decide), show chanW fq c bl ix ac W 36 = ix from rfl, hi, show ((r : Int)).toNat = r by omega, put_W r hr, put_ix]
theorem wr_6d {k : Nat} {m fq c bl ix ac : Int} {W : Nat → Int} (hk : k < 6) (b : Int) (hc : c / 64 % 2 = 1) : wrF (wavF k m fq c bl ix ac W) 6 b = up (wavF k m fq c bl ix ac W) (4 + k * 40 + 39) (b % 256 % 32) := by
  rw [wrF_ch hk 6 b (by decide)]
  show takeF (wavF k m fq c bl ix ac W) k (b % 256 % 32) = _
  unfold takeF
  rw [ch_own 1 (by decide), show chanW fq c bl ix ac W 1 = c from rfl, if_pos hc]
/-! ### It goes on -/
theorem wav_off {k : Nat} {m fq c bl ix ac : Int} {W : Nat → Int} (k' : Nat) (h : ¬ k' = k) : soOf (wavF k m fq c bl ix ac W) k' = false := by
  unfold soOf
  rw [ch_wav k' 1 (by decide), if_neg h]
  simp
theorem wav_on {k : Nat} {m fq c bl ix ac : Int} {W : Nat → Int} (h : 128 ≤ c) : soOf (wavF k m fq c bl ix ac W) k = true := by
  unfold soOf
  rw [ch_own 1 (by decide)]
  simp [chanW, h]
theorem wav_lfo {k : Nat} {m fq c bl ix ac : Int} {W : Nat → Int} : lfoOf (wavF k m fq c bl ix ac W) = 0 := rfl
theorem wav_ny {k : Nat} {m fq c bl ix ac : Int} {W : Nat → Int} : nyOf (wavF k m fq c bl ix ac W) k = false := by
  unfold nyOf
  rw [ch_own 3 (by decide)]
  simp [chanW]
theorem off_on {f : Nat → Int} {k : Nat} (h : soOf f k = false) : onK f k = f := by
  unfold onK onP goOf
  rw [h]
  simp
theorem wav_per {k : Nat} {m fq c bl ix ac : Int} {W : Nat → Int} : perK (wavF k m fq c bl ix ac W) k = 6 * orL fq 4096 := by
  unfold perK
  rw [wav_ny, wav_lfo, ch_own 0 (by decide)]
  simp [chanW]
theorem wav_onK {k : Nat} {m fq c bl ix ac : Int} {W : Nat → Int} (h : c / 64 = 2) : onK (wavF k m fq c bl ix ac W) k = wavF k m fq c bl ((ix + (ac + 455) / (6 * orL fq 4096)) % 32) ((ac + 455) % (6 * orL fq 4096)) W := by
  have hd : drOf (wavF k m fq c bl ix ac W) k = false := by
    unfold drOf
    rw [ch_own 1 (by decide)]
    simp [chanW, h]
  unfold onK onP
  rw [if_pos (by unfold goOf; rw [wav_on (by omega), hd]; rfl), wav_ny, wav_per, ch_own 37 (by decide), ch_own 36 (by decide)]
  simp only [Bool.false_eq_true, if_false]
  rw [put_ac, put_ix]
  rfl
theorem wav_step {k : Nat} {m fq c bl ix ac : Int} {W : Nat → Int} (hk : k < 6) (h : c / 64 = 2) : stepF (wavF k m fq c bl ix ac W) = wavF k m fq c bl ((ix + (ac + 455) / (6 * orL fq 4096)) % 32) ((ac + 455) % (6 * orL fq 4096)) W := by
  unfold stepF
  rcases (show k = 0 ∨ k = 1 ∨ k = 2 ∨ k = 3 ∨ k = 4 ∨ k = 5 by omega) with rfl | rfl | rfl | rfl | rfl | rfl
  · rw [off_on (wav_off 1 (by decide)), wav_onK h, off_on (wav_off 2 (by decide)), off_on (wav_off 3 (by decide)), off_on (wav_off 4 (by decide)), off_on (wav_off 5 (by decide))]
  · rw [wav_onK h, off_on (wav_off 0 (by decide)), off_on (wav_off 2 (by decide)), off_on (wav_off 3 (by decide)), off_on (wav_off 4 (by decide)), off_on (wav_off 5 (by decide))]
  · rw [off_on (wav_off 1 (by decide)), off_on (wav_off 0 (by decide)), wav_onK h, off_on (wav_off 3 (by decide)), off_on (wav_off 4 (by decide)), off_on (wav_off 5 (by decide))]
  · rw [off_on (wav_off 1 (by decide)), off_on (wav_off 0 (by decide)), off_on (wav_off 2 (by decide)), wav_onK h, off_on (wav_off 4 (by decide)), off_on (wav_off 5 (by decide))]
  · rw [off_on (wav_off 1 (by decide)), off_on (wav_off 0 (by decide)), off_on (wav_off 2 (by decide)), off_on (wav_off 3 (by decide)), wav_onK h, off_on (wav_off 5 (by decide))]
  · rw [off_on (wav_off 1 (by decide)), off_on (wav_off 0 (by decide)), off_on (wav_off 2 (by decide)), off_on (wav_off 3 (by decide)), off_on (wav_off 4 (by decide)), wav_onK h]
theorem div_step {x p : Int} (hp : 0 < p) : (x + 455) / p = x / p + (x % p + 455) / p ∧ (x % p + 455) % p = (x + 455) % p := by
  have e : x + 455 = (x % p + 455) + p * (x / p) := by
    have := Int.emod_add_mul_ediv x p
    omega
  constructor
  · rw [e, Int.add_mul_ediv_left _ _ (Int.ne_of_gt hp)]
    have h2 : (x % p + 455 + p * (x / p)) = x + 455 := e.symm
    omega
  · rw [e, Int.add_mul_emod_self_left]
theorem wav_it {k : Nat} {m fq c bl : Int} {W : Nat → Int} (hk : k < 6) (h : c / 64 = 2) (hf : 0 < orL fq 4096) : ∀ n : Nat, itF (wavF k m fq c bl 0 0 W) n = wavF k m fq c bl ((n : Int) * 455 / (6 * orL fq 4096) % 32) ((n : Int) * 455 % (6 * orL fq 4096)) W
  | 0 => by
    show _ = wavF k m fq c bl (0 * 455 / _ % 32) (0 * 455 % _) W
    simp [itF]
  | n + 1 => by
    show stepF (itF _ n) = _
    rw [wav_it hk h hf n, wav_step hk h]
    obtain ⟨d1, d2⟩ := div_step (x := (n : Int) * 455) (p := 6 * orL fq 4096) (by omega)
    have e : ((n + 1 : Nat) : Int) * 455 = (n : Int) * 455 + 455 := by omega
    rw [e, d2, d1]
    congr 1
    omega
theorem wav_left {k : Nat} {m fq c bl ix ac : Int} {W : Nat → Int} (hk : k < 6) (h : c / 64 = 2) (r : Nat) (hr : r < 32) (hi : ix = (r : Int)) : leftOf (wavF k m fq c bl ix ac W) = (W r - 16) * gainOf c (bl / 16) (m / 16) ∧ rightOf (wavF k m fq c bl ix ac W) = (W r - 16) * gainOf c (bl % 16) (m % 16) := by
  have hd : drOf (wavF k m fq c bl ix ac W) k = false := by
    unfold drOf
    rw [ch_own 1 (by decide)]
    simp [chanW, h]
  have hv : valK (wavF k m fq c bl ix ac W) k = W r := by
    unfold valK
    rw [hd, wav_ny, ch_own 36 (by decide)]
    simp only [Bool.false_eq_true, if_false]
    rw [show chanW fq c bl ix ac W 36 = ix from rfl, hi, show ((r : Int)).toNat = r by omega, ch_own (4 + r) (by omega)]
    unfold chanW
    rw [if_neg (by omega), if_neg (by omega), if_neg (by omega), if_pos (by omega), show 4 + r - 4 = r by omega]
  have hh : heOf (wavF k m fq c bl ix ac W) k = true := by
    unfold heOf
    rw [wav_on (by omega), wav_lfo]
    simp
  have lk : leftK (wavF k m fq c bl ix ac W) k = (W r - 16) * gainOf c (bl / 16) (m / 16) := by
    unfold leftK glOf
    rw [hh, hv, ch_own 1 (by decide), ch_own 2 (by decide)]
    rfl
  have rk : rightK (wavF k m fq c bl ix ac W) k = (W r - 16) * gainOf c (bl % 16) (m % 16) := by
    unfold rightK grOf
    rw [hh, hv, ch_own 1 (by decide), ch_own 2 (by decide)]
    rfl
  have l0 : ∀ k', ¬ k' = k → leftK (wavF k m fq c bl ix ac W) k' = 0 := fun k' hk' => by unfold leftK heOf; rw [wav_off k' hk']; simp
  have r0 : ∀ k', ¬ k' = k → rightK (wavF k m fq c bl ix ac W) k' = 0 := fun k' hk' => by unfold rightK heOf; rw [wav_off k' hk']; simp
  unfold leftOf rightOf
  simp only [sumTo]
  rcases (show k = 0 ∨ k = 1 ∨ k = 2 ∨ k = 3 ∨ k = 4 ∨ k = 5 by omega) with rfl | rfl | rfl | rfl | rfl | rfl
  · rw [lk, rk, l0 1 (by decide), l0 2 (by decide), l0 3 (by decide), l0 4 (by decide), l0 5 (by decide), r0 1 (by decide), r0 2 (by decide), r0 3 (by decide), r0 4 (by decide), r0 5 (by decide)]; omega
  · rw [lk, rk, l0 0 (by decide), l0 2 (by decide), l0 3 (by decide), l0 4 (by decide), l0 5 (by decide), r0 0 (by decide), r0 2 (by decide), r0 3 (by decide), r0 4 (by decide), r0 5 (by decide)]; omega
  · rw [lk, rk, l0 1 (by decide), l0 0 (by decide), l0 3 (by decide), l0 4 (by decide), l0 5 (by decide), r0 1 (by decide), r0 0 (by decide), r0 3 (by decide), r0 4 (by decide), r0 5 (by decide)]; omega
  · rw [lk, rk, l0 1 (by decide), l0 2 (by decide), l0 0 (by decide), l0 4 (by decide), l0 5 (by decide), r0 1 (by decide), r0 2 (by decide), r0 0 (by decide), r0 4 (by decide), r0 5 (by decide)]; omega
  · rw [lk, rk, l0 1 (by decide), l0 2 (by decide), l0 3 (by decide), l0 0 (by decide), l0 5 (by decide), r0 1 (by decide), r0 2 (by decide), r0 3 (by decide), r0 0 (by decide), r0 5 (by decide)]; omega
  · rw [lk, rk, l0 1 (by decide), l0 2 (by decide), l0 3 (by decide), l0 4 (by decide), l0 0 (by decide), r0 1 (by decide), r0 2 (by decide), r0 3 (by decide), r0 4 (by decide), r0 0 (by decide)]; omega
end Go.Proofs.YtcpilhbinkamiaaDoor
