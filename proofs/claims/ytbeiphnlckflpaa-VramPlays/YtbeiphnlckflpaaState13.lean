/- Video memory as one state; what a call of the law's own does with it: numbers alone. -/
import Derived.Test.YtbeiphnlckflpaaBack13
namespace Go.Proofs.Ytbeiphnlckflpaa
open Go.RowKit
set_option linter.unusedVariables false

/-- Words, write place, read place, step, low byte, buffer. -/
def St : Type := (Nat → Int) × Int × Int × Int × Int × Int
def stOf (f : Nat → Int) (wr rd st lo bu : Int) : St := (f, wr, rd, st, lo, bu)
def HasS (w : World) (b : Nat) (S : St) : Prop := HasM w b true S.1 S.2.1 S.2.2.1 S.2.2.2.1 S.2.2.2.2.1 S.2.2.2.2.2
def IsWord (n : Int) : Prop := 0 ≤ n ∧ n < 65536
def Good (S : St) : Prop := (∀ j, IsWord (S.1 j)) ∧ IsWord S.2.1 ∧ IsWord S.2.2.1 ∧ IsWord S.2.2.2.1 ∧ (0 ≤ S.2.2.2.2.1 ∧ S.2.2.2.2.1 < 256) ∧ IsWord S.2.2.2.2.2
theorem isWord_mod (n : Int) : IsWord (n % 65536) := by unfold IsWord; omega
theorem isWord_at {f : Nat → Int} (h : ∀ j, IsWord (f j)) (n : Int) : IsWord (wordAt f n) := by
  unfold wordAt
  split
  · exact h _
  · unfold IsWord; omega
theorem isWord_poke {f : Nat → Int} (h : ∀ j, IsWord (f j)) (n x : Int) : ∀ j, IsWord (pokeAt f n x j) := by
  intro j
  unfold pokeAt
  split
  · unfold upd
    split
    · exact isWord_mod x
    · exact h j
  · exact h j
def newS : St := stOf (fun _ => 0) 0 0 1 0 0
theorem good_new : Good newS := by
  refine ⟨fun j => ?_, ?_, ?_, ?_, ?_, ?_⟩
  · show IsWord 0
    unfold IsWord; omega
  all_goals (show _ ∧ _; simp [newS, stOf])
/-- A call: 0 SetWrite, 1 SetRead, 2 SetStep, 3 Put, 4 Get, 5 Poke. -/
def stepS (S : St) (k n x : Int) (hi : Bool) : St :=
  if k = 0 then stOf S.1 (n % 65536) S.2.2.1 S.2.2.2.1 S.2.2.2.2.1 S.2.2.2.2.2
  else if k = 1 then stOf S.1 S.2.1 (n % 65536) S.2.2.2.1 S.2.2.2.2.1 (wordAt S.1 (n % 65536))
  else if k = 2 then stOf S.1 S.2.1 S.2.2.1 (n % 65536) S.2.2.2.2.1 S.2.2.2.2.2
  else if k = 3 then (if hi = true then stOf (pokeAt S.1 S.2.1 (S.2.2.2.2.1 % 256 + 256 * (n % 256))) ((S.2.1 + S.2.2.2.1) % 65536) S.2.2.1 S.2.2.2.1 S.2.2.2.2.1 S.2.2.2.2.2 else stOf S.1 S.2.1 S.2.2.1 S.2.2.2.1 (n % 256) S.2.2.2.2.2)
  else if k = 4 then (if hi = true then stOf S.1 S.2.1 ((S.2.2.1 + S.2.2.2.1) % 65536) S.2.2.2.1 S.2.2.2.2.1 (wordAt S.1 ((S.2.2.1 + S.2.2.2.1) % 65536)) else S)
  else if k = 5 then stOf (pokeAt S.1 n x) S.2.1 S.2.2.1 S.2.2.2.1 S.2.2.2.2.1 S.2.2.2.2.2
  else S
/-- What the law's call tells. -/
def tellS (S : St) (k n x : Int) (hi : Bool) : Int := if k = 4 then (if hi = true then S.2.2.2.2.2 / 256 % 256 else S.2.2.2.2.2 % 256) else wordAt (stepS S k n x hi).1 n
theorem stepS_no (S : St) (k n x : Int) (hi : Bool) (h0 : ¬ k = 0) (h1 : ¬ k = 1) (h2 : ¬ k = 2) (h3 : ¬ k = 3) (h4 : ¬ k = 4) (h5 : ¬ k = 5) : stepS S k n x hi = S := by
  unfold stepS
  rw [if_neg h0, if_neg h1, if_neg h2, if_neg h3, if_neg h4, if_neg h5]
theorem tellS_no (S : St) (k n x : Int) (hi : Bool) (h0 : ¬ k = 0) (h1 : ¬ k = 1) (h2 : ¬ k = 2) (h3 : ¬ k = 3) (h4 : ¬ k = 4) (h5 : ¬ k = 5) : tellS S k n x hi = wordAt S.1 n := by
  unfold tellS
  rw [if_neg h4, stepS_no S k n x hi h0 h1 h2 h3 h4 h5]
theorem good_step {S : St} (h : Good S) (k n x : Int) (hi : Bool) : Good (stepS S k n x hi) := by
  obtain ⟨hf, hw, hr, hs, hl, hb⟩ := h
  unfold stepS
  split
  · exact ⟨hf, isWord_mod n, hr, hs, hl, hb⟩
  split
  · exact ⟨hf, hw, isWord_mod n, hs, hl, isWord_at hf _⟩
  split
  · exact ⟨hf, hw, hr, isWord_mod n, hl, hb⟩
  split
  · split
    · exact ⟨isWord_poke hf _ _, isWord_mod _, hr, hs, hl, hb⟩
    · exact ⟨hf, hw, hr, hs, ⟨by show 0 ≤ n % 256; omega, by show n % 256 < 256; omega⟩, hb⟩
  split
  · split
    · exact ⟨hf, hw, isWord_mod _, hs, hl, isWord_at hf _⟩
    · exact ⟨hf, hw, hr, hs, hl, hb⟩
  split
  · exact ⟨isWord_poke hf _ _, hw, hr, hs, hl, hb⟩
  · exact ⟨hf, hw, hr, hs, hl, hb⟩
end Go.Proofs.Ytbeiphnlckflpaa
