/- What a card tells, whatever is asked: by its bytes. -/
import Derived.Test.YthelklkfcllddaaGreatDoorTopCardsJ06
namespace Go.Proofs.YthelklkfcllddaaGreatDoor.C3
set_option maxRecDepth 20000
open Go.RowKit
set_option linter.unusedVariables false
def byteOf (bs : List Int) (p q : Int) : Int := if 0 ≤ p ∧ p < ((bs.length / 8192 : Nat) : Int) ∧ 0 ≤ q ∧ q < 8192 then bs.getD (p * 8192 + q).toNat 0 else 255
theorem byte_any (c : Nat) (bs : List Int) (p q : Int) (w : World) {B : Nat} (h : IsCard B w c bs) (hl : bs.length < 4611686018427387904) :
    Calls Tryz.prog 53 #[.pointer (some ⟨c, 0, none⟩), .int .i64 p, .int .i64 q] w fun e w' => e = .returned (.int .i64 (byteOf bs p q)) ∧ w' = w := by
  obtain ⟨d, _, _, hc, hb⟩ := h
  by_cases k : 0 ≤ p ∧ p < ((bs.length / 8192 : Nat) : Int) ∧ 0 ≤ q ∧ q < 8192
  · have e : byteOf bs p q = bs.getD (p * 8192 + q).toNat 0 := by unfold byteOf; rw [if_pos k]
    rw [e]
    obtain ⟨p, rfl⟩ := Int.eq_ofNat_of_zero_le k.1
    obtain ⟨q, rfl⟩ := Int.eq_ofNat_of_zero_le k.2.2.1
    have e2 : ((p : Int) * 8192 + (q : Int)).toNat = p * 8192 + q := by omega
    rw [e2]
    obtain ⟨hz, z0, z1⟩ := hb.cell (p * 8192 + q) (by omega)
    exact byte_in ⟨c, 0, none⟩ d 0 bs.length bs.length p q _ w hl hc (by omega) (by omega) (by rw [Nat.zero_add]; exact hz) z0 z1
  · have e : byteOf bs p q = 255 := by unfold byteOf; rw [if_neg k]
    rw [e]
    exact byte_out ⟨c, 0, none⟩ _ bs.length bs.length p q w hl hc (by omega)
theorem Bytes.row {T : TypeId} {w : World} {g : Nat} {bs : List Int} (h : Bytes T w g bs) : ∀ i, i < bs.length → w.cell? ⟨g, 0 + i, none⟩ = some (.int .u8 (bs.getD i 0)) :=
  fun i hi => by rw [Nat.zero_add]; exact (h.cell i hi).1
theorem load_own (g n : Nat) (bs : List Int) (w : World) (hb : Bytes 5 w g bs) (hn : bs.length = n) (h1 : n ≤ 10000000) (hT : HasTab w) (hE : HasErr w) :
    Calls Tryz.prog 4 #[.slice (some ⟨g, 0, none⟩) n n] w fun e w' => ((errOf (n - fromOf n) ≠ 0 ∧ e = .returned (.tuple #[.pointer none, .int .i64 (errOf (n - fromOf n))])) ∨
      (errOf (n - fromOf n) = 0 ∧ ∃ c, e = .returned (.tuple #[.pointer (some ⟨c, 0, none⟩), .int .i64 0]) ∧ IsCard w.heap.size w' c (bs.drop (fromOf n)))) ∧ Below w.heap.size w w' := by
  subst hn
  exact load_any g 0 bs.length bs w (Bytes.row hb) hb.2 h1 (Nat.le_refl _) (by omega) hb.lt hT hE
end Go.Proofs.YthelklkfcllddaaGreatDoor.C3
