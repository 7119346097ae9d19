/- What VceBack's rounds do, as contracts: colours that are written one behind the other, and read. -/
import Derived.Test.YtlphndfkjmellaaLaw12
namespace Go.Proofs.Ytlphndfkjmellaa
open Go.RowKit
set_option linter.unusedVariables false

/-- The place behind k rounds. -/
def adr (A : Int) (k : Nat) : Int := (A + k) % 512
/-- The table behind k rounds. -/
def wrTo (A : Int) (zs : List Int) : Nat → Nat → Int
  | 0 => fun _ => 0
  | k + 1 => upd (wrTo A zs k) (adr A k).toNat (zs.getD k 0 % 512)
theorem adr_next (A : Int) (k : Nat) : ((((adr A k).toNat : Nat) : Int) + 1) % 512 = adr A (k + 1) := by unfold adr; omega
theorem adr_in (A : Int) (k : Nat) : adr A k % 512 = (((adr A k).toNat : Nat) : Int) := by unfold adr; omega
theorem adr_zero (A : Int) (h0 : 0 ≤ A) (h1 : A < 512) : adr A 0 = A := by unfold adr; omega
theorem wrTo_at (A : Int) (zs : List Int) : ∀ m, m ≤ 100 → ∀ k, k < m → wrTo A zs m (adr A k).toNat = zs.getD k 0 % 512
  | 0, _, k, h => by omega
  | m + 1, hm, k, h => by
    show upd (wrTo A zs m) (adr A m).toNat (zs.getD m 0 % 512) (adr A k).toNat = _
    by_cases e : k = m
    · subst e
      simp [upd]
    · have d : (adr A k).toNat ≠ (adr A m).toNat := by unfold adr; omega
      simp only [upd, d, if_false]
      exact wrTo_at A zs m (by omega) k (by omega)
theorem upd_upd (f : Nat → Int) (i : Nat) (x y : Int) : upd (upd f i x) i y = upd f i y := by
  funext j
  unfold upd
  split <;> rfl
/-- A round of writes: two contracts, what lies between them under a letter. -/
theorem puts (A : Int) (zs : List Int) (k : Nat) : ∃ G : Nat → Int, (∀ w, Calls Try.prog 7 #[.agg (rowV 0 (adr A k) (wrTo A zs k)), .int .i64 4, .int .i64 (zs.getD k 0)] w fun e w' => e = .returned (.agg (rowV 0 (adr A k) G)) ∧ Below w.heap.size w w') ∧ (∀ w, Calls Try.prog 7 #[.agg (rowV 0 (adr A k) G), .int .i64 5, .int .i64 (zs.getD k 0 / 256)] w fun e w' => e = .returned (.agg (rowV 0 (adr A (k + 1)) (wrTo A zs (k + 1)))) ∧ Below w.heap.size w w') := by
  have ha := adr_in A k
  have hn := adr_next A k
  obtain ⟨i, hi⟩ : ∃ i, i = (adr A k).toNat := ⟨_, rfl⟩
  obtain ⟨z, hz⟩ : ∃ z, z = zs.getD k 0 := ⟨_, rfl⟩
  obtain ⟨f, hf⟩ : ∃ f, f = wrTo A zs k := ⟨_, rfl⟩
  have hs : wrTo A zs (k + 1) = upd f i (z % 512) := by rw [hi, hz, hf]; rfl
  rw [hs, ← hz, ← hf]
  rw [← hi] at ha hn
  obtain ⟨x, hx⟩ : ∃ x, z % 256 + 256 * (f i % 512 / 256) = x := ⟨_, rfl⟩
  have he : (i : Int) = adr A k := by rw [hi]; unfold adr; omega
  refine ⟨upd f i x, fun w => ?_, fun w => ?_⟩
  · have h4 := write_4 0 (adr A k) z x f i ha hx w
    rw [he] at h4
    exact h4
  have h5 := write_5 0 (adr A k) (z / 256) (z % 512) (upd f i x) i ha (adr A (k + 1)) hn (by simp only [upd, if_true]; omega) w
  rw [upd_upd] at h5
  exact h5
/-- The place is laid anew. -/
theorem laid (from_ : Int) (a : Int) (f : Nat → Int) : ∃ x, (∀ w, Calls Try.prog 7 #[.agg (rowV 0 a f), .int .i64 2, .int .i64 from_] w fun e w' => e = .returned (.agg (rowV 0 x f)) ∧ Below w.heap.size w w') ∧ (∀ w, Calls Try.prog 7 #[.agg (rowV 0 x f), .int .i64 3, .int .i64 (from_ / 256)] w fun e w' => e = .returned (.agg (rowV 0 (from_ % 512) f)) ∧ Below w.heap.size w w') := by
  obtain ⟨i, hi⟩ : ∃ i : Nat, a % 512 = (i : Int) := ⟨(a % 512).toNat, by omega⟩
  obtain ⟨x, hx⟩ : ∃ x, from_ % 256 + 256 * ((i : Int) % 512 / 256) = x := ⟨_, rfl⟩
  refine ⟨x, fun w => write_2 0 a from_ x f i hi hx w, fun w => ?_⟩
  obtain ⟨j, hj⟩ : ∃ j : Nat, x % 512 = (j : Int) := ⟨(x % 512).toNat, by omega⟩
  exact write_3 0 x (from_ / 256) (from_ % 512) f j hj (by omega) w
/-- A round of reads. -/
theorem gets (A from_ : Int) (hA : from_ % 512 = A) (zs : List Int) (m k : Nat) (hm : m ≤ 100) (hk : k < m) (T : Nat → Int) (hT : T = wrTo A zs m) (z : Int) (hz : z = zs.getD k 0) :
    (∀ w, Calls Try.prog 8 #[.agg (rowV 0 (adr A k) T), .int .i64 4] w fun e w' => e = .returned (.tuple #[.int .i64 (z % 256), .agg (rowV 0 (adr A k) T)]) ∧ Below w.heap.size w w') ∧ (∀ w, Calls Try.prog 8 #[.agg (rowV 0 (adr A k) T), .int .i64 5] w fun e w' => e = .returned (.tuple #[.int .i64 (254 + z / 256 % 2), .agg (rowV 0 (adr A (k + 1)) T)]) ∧ Below w.heap.size w w') ∧
    (∀ a q, q % 512 = (from_ + k) % 512 → ∀ w, Calls Try.prog 9 #[.agg (rowV 0 a T), .int .i64 q] w fun e w' => e = .returned (.int .i64 (z % 512)) ∧ Below w.heap.size w w') := by
  have ha := adr_in A k
  have hn := adr_next A k
  have ht := wrTo_at A zs m hm k hk
  rw [← hT, ← hz] at ht
  obtain ⟨i, hi⟩ : ∃ i, i = (adr A k).toNat := ⟨_, rfl⟩
  rw [← hi] at ha hn ht
  refine ⟨fun w => ?_, fun w => ?_, fun a q hq w => ?_⟩
  · have h := read_4 0 (adr A k) T i ha w
    rw [ht, show z % 512 % 256 = z % 256 by omega] at h
    exact h
  · have h := read_5 0 (adr A k) T i ha (adr A (k + 1)) hn w
    rw [ht, show z % 512 % 512 / 256 = z / 256 % 2 by omega] at h
    exact h
  · have h := colour_at 0 a q T w i (by rw [hq, ← ha]; unfold adr; omega)
    rw [ht, show z % 512 % 512 = z % 512 by omega] at h
    exact h
theorem or_254 (q : Int) (h : q = 0 ∨ q = 1) : bits .or .i64 254 q = 254 + q := by
  rcases h with rfl | rfl
  · decide +kernel
  · decide +kernel
end Go.Proofs.Ytlphndfkjmellaa
