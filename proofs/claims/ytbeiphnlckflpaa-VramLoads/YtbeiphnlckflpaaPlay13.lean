/- VramLoads' own closure 'play': its contract at video memory that a call made. -/
import Derived.Test.YtbeiphnlckflpaaState13
namespace Go.Proofs.Ytbeiphnlckflpaa
open Go.RowKit
set_option linter.unusedVariables false

theorem play_0 (b : Nat) (f : Nat → Int) (wr rd st lo bu : Int) (w : World) (h : HasM w b true f wr rd st lo bu) (n x : Int) (hi : Bool) : Calls Try.prog 24 #[.pointer (some ⟨b, 0, none⟩), .agg #[.int .i64 0, .int .i64 n, .int .i64 x, .bool hi]] w fun e w' => e = .returned (.int .i64 (wordAt f n)) ∧ HasM w' b true f (n % 65536) rd st lo bu ∧ Only b w w' := by
  have hne : w.heap.size ≠ b := fun e => by have := h.lt; omega
  have H1 := hide (h.next ((Below.refl _ w).alloc (Nat.le_refl _) (.cells #[.int .i64 0, .int .i64 n, .int .i64 x, .bool hi] 28)))
  have O1 := hide (Only.of (b := b) ((Below.refl _ w).alloc (Nat.le_refl _) (.cells #[.int .i64 0, .int .i64 n, .int .i64 x, .bool hi] 28)))
  have A1 := hide (show (w.alloc (.cells #[.int .i64 0, .int .i64 n, .int .i64 x, .bool hi] 28)).heap[w.heap.size]? = some (.cells #[.int .i64 0, .int .i64 n, .int .i64 x, .bool hi] 28 (0, 0)) from heap_alloc_new _ _)
  clear h
  go_enter Try.func24, Try.ntmps24
  go_wp2_with fail
  refine (setWrite_is b _ _ _ _ _ _ _ H1.out n _ rfl).mono ?_
  rintro e w2 ⟨rfl, h2, o2⟩
  have H2 := hide h2
  have O2 := hide (O1.out.trans o2)
  have cn := (cell_of_row w2 _ 1 _ _ _ (o2.obj A1.out hne)).trans rfl
  clear h2 o2 H1 O1 A1
  go_wp2_with fail
  refine (word_is b _ _ _ _ _ _ _ H2.out n _ rfl).mono ?_
  rintro e w3 ⟨rfl, hw⟩
  subst w3
  go_wp2_with fail
  go_ret
  exact ⟨rfl, H2.out, O2.out⟩
theorem play_1 (b : Nat) (f : Nat → Int) (wr rd st lo bu : Int) (w : World) (h : HasM w b true f wr rd st lo bu) (n x : Int) (hi : Bool) : Calls Try.prog 24 #[.pointer (some ⟨b, 0, none⟩), .agg #[.int .i64 1, .int .i64 n, .int .i64 x, .bool hi]] w fun e w' => e = .returned (.int .i64 (wordAt f n)) ∧ HasM w' b true f wr (n % 65536) st lo (wordAt f (n % 65536)) ∧ Only b w w' := by
  have hne : w.heap.size ≠ b := fun e => by have := h.lt; omega
  have H1 := hide (h.next ((Below.refl _ w).alloc (Nat.le_refl _) (.cells #[.int .i64 1, .int .i64 n, .int .i64 x, .bool hi] 28)))
  have O1 := hide (Only.of (b := b) ((Below.refl _ w).alloc (Nat.le_refl _) (.cells #[.int .i64 1, .int .i64 n, .int .i64 x, .bool hi] 28)))
  have A1 := hide (show (w.alloc (.cells #[.int .i64 1, .int .i64 n, .int .i64 x, .bool hi] 28)).heap[w.heap.size]? = some (.cells #[.int .i64 1, .int .i64 n, .int .i64 x, .bool hi] 28 (0, 0)) from heap_alloc_new _ _)
  clear h
  go_enter Try.func24, Try.ntmps24
  go_wp2_with fail
  refine (setRead_is b _ _ _ _ _ _ _ H1.out n _ _ rfl rfl).mono ?_
  rintro e w2 ⟨rfl, h2, o2⟩
  have H2 := hide h2
  have O2 := hide (O1.out.trans o2)
  have cn := (cell_of_row w2 _ 1 _ _ _ (o2.obj A1.out hne)).trans rfl
  clear h2 o2 H1 O1 A1
  go_wp2_with fail
  refine (word_is b _ _ _ _ _ _ _ H2.out n _ rfl).mono ?_
  rintro e w3 ⟨rfl, hw⟩
  subst w3
  go_wp2_with fail
  go_ret
  exact ⟨rfl, H2.out, O2.out⟩
theorem play_2 (b : Nat) (f : Nat → Int) (wr rd st lo bu : Int) (w : World) (h : HasM w b true f wr rd st lo bu) (n x : Int) (hi : Bool) : Calls Try.prog 24 #[.pointer (some ⟨b, 0, none⟩), .agg #[.int .i64 2, .int .i64 n, .int .i64 x, .bool hi]] w fun e w' => e = .returned (.int .i64 (wordAt f n)) ∧ HasM w' b true f wr rd (n % 65536) lo bu ∧ Only b w w' := by
  have hne : w.heap.size ≠ b := fun e => by have := h.lt; omega
  have H1 := hide (h.next ((Below.refl _ w).alloc (Nat.le_refl _) (.cells #[.int .i64 2, .int .i64 n, .int .i64 x, .bool hi] 28)))
  have O1 := hide (Only.of (b := b) ((Below.refl _ w).alloc (Nat.le_refl _) (.cells #[.int .i64 2, .int .i64 n, .int .i64 x, .bool hi] 28)))
  have A1 := hide (show (w.alloc (.cells #[.int .i64 2, .int .i64 n, .int .i64 x, .bool hi] 28)).heap[w.heap.size]? = some (.cells #[.int .i64 2, .int .i64 n, .int .i64 x, .bool hi] 28 (0, 0)) from heap_alloc_new _ _)
  clear h
  go_enter Try.func24, Try.ntmps24
  go_wp2_with fail
  refine (setStep_is b _ _ _ _ _ _ _ H1.out n _ rfl).mono ?_
  rintro e w2 ⟨rfl, h2, o2⟩
  have H2 := hide h2
  have O2 := hide (O1.out.trans o2)
  have cn := (cell_of_row w2 _ 1 _ _ _ (o2.obj A1.out hne)).trans rfl
  clear h2 o2 H1 O1 A1
  go_wp2_with fail
  refine (word_is b _ _ _ _ _ _ _ H2.out n _ rfl).mono ?_
  rintro e w3 ⟨rfl, hw⟩
  subst w3
  go_wp2_with fail
  go_ret
  exact ⟨rfl, H2.out, O2.out⟩
theorem play_3h (b : Nat) (f : Nat → Int) (wr rd st lo bu : Int) (w : World) (h : HasM w b true f wr rd st lo bu) (n x : Int) (hi : Bool) (hw : IsWord wr) (hs : IsWord st) : Calls Try.prog 24 #[.pointer (some ⟨b, 0, none⟩), .agg #[.int .i64 3, .int .i64 n, .int .i64 x, .bool true]] w fun e w' => e = .returned (.int .i64 (wordAt (pokeAt f wr (lo % 256 + 256 * (n % 256))) n)) ∧ HasM w' b true (pokeAt f wr (lo % 256 + 256 * (n % 256))) ((wr + st) % 65536) rd st lo bu ∧ Only b w w' := by
  have hne : w.heap.size ≠ b := fun e => by have := h.lt; omega
  have H1 := hide (h.next ((Below.refl _ w).alloc (Nat.le_refl _) (.cells #[.int .i64 3, .int .i64 n, .int .i64 x, .bool true] 28)))
  have O1 := hide (Only.of (b := b) ((Below.refl _ w).alloc (Nat.le_refl _) (.cells #[.int .i64 3, .int .i64 n, .int .i64 x, .bool true] 28)))
  have A1 := hide (show (w.alloc (.cells #[.int .i64 3, .int .i64 n, .int .i64 x, .bool true] 28)).heap[w.heap.size]? = some (.cells #[.int .i64 3, .int .i64 n, .int .i64 x, .bool true] 28 (0, 0)) from heap_alloc_new _ _)
  clear h
  go_enter Try.func24, Try.ntmps24
  go_wp2_with fail
  refine (putHigh_is b _ _ _ _ _ _ _ H1.out n _ _ _ rfl rfl hw.1 hw.2 hs.1 hs.2 rfl).mono ?_
  rintro e w2 ⟨rfl, h2, o2⟩
  have H2 := hide h2
  have O2 := hide (O1.out.trans o2)
  have cn := (cell_of_row w2 _ 1 _ _ _ (o2.obj A1.out hne)).trans rfl
  clear h2 o2 H1 O1 A1
  go_wp2_with fail
  refine (word_is b _ _ _ _ _ _ _ H2.out n _ rfl).mono ?_
  rintro e w3 ⟨rfl, hw⟩
  subst w3
  go_wp2_with fail
  go_ret
  exact ⟨rfl, H2.out, O2.out⟩
theorem play_3l (b : Nat) (f : Nat → Int) (wr rd st lo bu : Int) (w : World) (h : HasM w b true f wr rd st lo bu) (n x : Int) (hi : Bool) : Calls Try.prog 24 #[.pointer (some ⟨b, 0, none⟩), .agg #[.int .i64 3, .int .i64 n, .int .i64 x, .bool false]] w fun e w' => e = .returned (.int .i64 (wordAt f n)) ∧ HasM w' b true f wr rd st (n % 256) bu ∧ Only b w w' := by
  have hne : w.heap.size ≠ b := fun e => by have := h.lt; omega
  have H1 := hide (h.next ((Below.refl _ w).alloc (Nat.le_refl _) (.cells #[.int .i64 3, .int .i64 n, .int .i64 x, .bool false] 28)))
  have O1 := hide (Only.of (b := b) ((Below.refl _ w).alloc (Nat.le_refl _) (.cells #[.int .i64 3, .int .i64 n, .int .i64 x, .bool false] 28)))
  have A1 := hide (show (w.alloc (.cells #[.int .i64 3, .int .i64 n, .int .i64 x, .bool false] 28)).heap[w.heap.size]? = some (.cells #[.int .i64 3, .int .i64 n, .int .i64 x, .bool false] 28 (0, 0)) from heap_alloc_new _ _)
  clear h
  go_enter Try.func24, Try.ntmps24
  go_wp2_with fail
  refine (putLow_is b _ _ _ _ _ _ _ H1.out n _ rfl).mono ?_
  rintro e w2 ⟨rfl, h2, o2⟩
  have H2 := hide h2
  have O2 := hide (O1.out.trans o2)
  have cn := (cell_of_row w2 _ 1 _ _ _ (o2.obj A1.out hne)).trans rfl
  clear h2 o2 H1 O1 A1
  go_wp2_with fail
  refine (word_is b _ _ _ _ _ _ _ H2.out n _ rfl).mono ?_
  rintro e w3 ⟨rfl, hw⟩
  subst w3
  go_wp2_with fail
  go_ret
  exact ⟨rfl, H2.out, O2.out⟩
theorem play_4h (b : Nat) (f : Nat → Int) (wr rd st lo bu : Int) (w : World) (h : HasM w b true f wr rd st lo bu) (n x : Int) (hi : Bool) (hr : IsWord rd) (hs : IsWord st) : Calls Try.prog 24 #[.pointer (some ⟨b, 0, none⟩), .agg #[.int .i64 4, .int .i64 n, .int .i64 x, .bool true]] w fun e w' => e = .returned (.int .i64 (bu / 256 % 256)) ∧ HasM w' b true f wr ((rd + st) % 65536) st lo (wordAt f ((rd + st) % 65536)) ∧ Only b w w' := by
  have hne : w.heap.size ≠ b := fun e => by have := h.lt; omega
  have H1 := hide (h.next ((Below.refl _ w).alloc (Nat.le_refl _) (.cells #[.int .i64 4, .int .i64 n, .int .i64 x, .bool true] 28)))
  have O1 := hide (Only.of (b := b) ((Below.refl _ w).alloc (Nat.le_refl _) (.cells #[.int .i64 4, .int .i64 n, .int .i64 x, .bool true] 28)))
  have A1 := hide (show (w.alloc (.cells #[.int .i64 4, .int .i64 n, .int .i64 x, .bool true] 28)).heap[w.heap.size]? = some (.cells #[.int .i64 4, .int .i64 n, .int .i64 x, .bool true] 28 (0, 0)) from heap_alloc_new _ _)
  clear h
  go_enter Try.func24, Try.ntmps24
  go_wp2_with fail
  refine (getHigh_is b _ _ _ _ _ _ _ H1.out _ _ hr.1 hr.2 hs.1 hs.2 rfl rfl).mono ?_
  rintro e w2 ⟨rfl, h2, o2⟩
  have H2 := hide h2
  have O2 := hide (O1.out.trans o2)
  clear h2 o2 H1 O1 A1
  go_wp2_with fail
  go_ret
  exact ⟨rfl, H2.out, O2.out⟩
theorem play_4l (b : Nat) (f : Nat → Int) (wr rd st lo bu : Int) (w : World) (h : HasM w b true f wr rd st lo bu) (n x : Int) (hi : Bool) : Calls Try.prog 24 #[.pointer (some ⟨b, 0, none⟩), .agg #[.int .i64 4, .int .i64 n, .int .i64 x, .bool false]] w fun e w' => e = .returned (.int .i64 (bu % 256)) ∧ HasM w' b true f wr rd st lo bu ∧ Only b w w' := by
  have hne : w.heap.size ≠ b := fun e => by have := h.lt; omega
  have H1 := hide (h.next ((Below.refl _ w).alloc (Nat.le_refl _) (.cells #[.int .i64 4, .int .i64 n, .int .i64 x, .bool false] 28)))
  have O1 := hide (Only.of (b := b) ((Below.refl _ w).alloc (Nat.le_refl _) (.cells #[.int .i64 4, .int .i64 n, .int .i64 x, .bool false] 28)))
  have A1 := hide (show (w.alloc (.cells #[.int .i64 4, .int .i64 n, .int .i64 x, .bool false] 28)).heap[w.heap.size]? = some (.cells #[.int .i64 4, .int .i64 n, .int .i64 x, .bool false] 28 (0, 0)) from heap_alloc_new _ _)
  clear h
  go_enter Try.func24, Try.ntmps24
  go_wp2_with fail
  refine (getLow_is b _ _ _ _ _ _ _ H1.out).mono ?_
  rintro e w2 ⟨rfl, hw⟩
  subst w2
  go_wp2_with fail
  go_ret
  exact ⟨rfl, H1.out, O1.out⟩
theorem play_5 (b : Nat) (f : Nat → Int) (wr rd st lo bu : Int) (w : World) (h : HasM w b true f wr rd st lo bu) (n x : Int) (hi : Bool) : Calls Try.prog 24 #[.pointer (some ⟨b, 0, none⟩), .agg #[.int .i64 5, .int .i64 n, .int .i64 x, .bool hi]] w fun e w' => e = .returned (.int .i64 (wordAt (pokeAt f n x) n)) ∧ HasM w' b true (pokeAt f n x) wr rd st lo bu ∧ Only b w w' := by
  have hne : w.heap.size ≠ b := fun e => by have := h.lt; omega
  have H1 := hide (h.next ((Below.refl _ w).alloc (Nat.le_refl _) (.cells #[.int .i64 5, .int .i64 n, .int .i64 x, .bool hi] 28)))
  have O1 := hide (Only.of (b := b) ((Below.refl _ w).alloc (Nat.le_refl _) (.cells #[.int .i64 5, .int .i64 n, .int .i64 x, .bool hi] 28)))
  have A1 := hide (show (w.alloc (.cells #[.int .i64 5, .int .i64 n, .int .i64 x, .bool hi] 28)).heap[w.heap.size]? = some (.cells #[.int .i64 5, .int .i64 n, .int .i64 x, .bool hi] 28 (0, 0)) from heap_alloc_new _ _)
  clear h
  go_enter Try.func24, Try.ntmps24
  go_wp2_with fail
  refine (poke_is b _ _ _ _ _ _ _ H1.out n x _ rfl).mono ?_
  rintro e w2 ⟨rfl, h2, o2⟩
  have H2 := hide h2
  have O2 := hide (O1.out.trans o2)
  have cn := (cell_of_row w2 _ 1 _ _ _ (o2.obj A1.out hne)).trans rfl
  clear h2 o2 H1 O1 A1
  go_wp2_with fail
  refine (word_is b _ _ _ _ _ _ _ H2.out n _ rfl).mono ?_
  rintro e w3 ⟨rfl, hw⟩
  subst w3
  go_wp2_with fail
  go_ret
  exact ⟨rfl, H2.out, O2.out⟩
theorem play_no (b : Nat) (f : Nat → Int) (wr rd st lo bu : Int) (w : World) (h : HasM w b true f wr rd st lo bu) (n x : Int) (hi : Bool) (k : Int) (h0 : ¬ k = 0) (h1 : ¬ k = 1) (h2 : ¬ k = 2) (h3 : ¬ k = 3) (h4 : ¬ k = 4) (h5 : ¬ k = 5) : Calls Try.prog 24 #[.pointer (some ⟨b, 0, none⟩), .agg #[.int .i64 k, .int .i64 n, .int .i64 x, .bool hi]] w fun e w' => e = .returned (.int .i64 (wordAt f n)) ∧ HasM w' b true f wr rd st lo bu ∧ Only b w w' := by
  have hne : w.heap.size ≠ b := fun e => by have := h.lt; omega
  have H1 := hide (h.next ((Below.refl _ w).alloc (Nat.le_refl _) (.cells #[.int .i64 k, .int .i64 n, .int .i64 x, .bool hi] 28)))
  have O1 := hide (Only.of (b := b) ((Below.refl _ w).alloc (Nat.le_refl _) (.cells #[.int .i64 k, .int .i64 n, .int .i64 x, .bool hi] 28)))
  have A1 := hide (show (w.alloc (.cells #[.int .i64 k, .int .i64 n, .int .i64 x, .bool hi] 28)).heap[w.heap.size]? = some (.cells #[.int .i64 k, .int .i64 n, .int .i64 x, .bool hi] 28 (0, 0)) from heap_alloc_new _ _)
  clear h
  go_enter Try.func24, Try.ntmps24
  go_wp2_with fail
  refine (word_is b _ _ _ _ _ _ _ H1.out n _ rfl).mono ?_
  rintro e w3 ⟨rfl, hw⟩
  subst w3
  go_wp2_with fail
  go_ret
  exact ⟨rfl, H1.out, O1.out⟩
theorem play_is (b : Nat) (S : St) (hS : Good S) (w : World) (h : HasS w b S) (k n x : Int) (hi : Bool) : Calls Try.prog 24 #[.pointer (some ⟨b, 0, none⟩), .agg #[.int .i64 k, .int .i64 n, .int .i64 x, .bool hi]] w fun e w' => e = .returned (.int .i64 (tellS S k n x hi)) ∧ HasS w' b (stepS S k n x hi) ∧ Only b w w' := by
  obtain ⟨f, wr, rd, st, lo, bu⟩ := S
  obtain ⟨hf, hw, hr, hs, hl, hb⟩ := hS
  have h : HasM w b true f wr rd st lo bu := h
  by_cases h0 : k = 0
  · subst h0; exact play_0 b f wr rd st lo bu w h n x hi
  by_cases h1 : k = 1
  · subst h1; exact play_1 b f wr rd st lo bu w h n x hi
  by_cases h2 : k = 2
  · subst h2; exact play_2 b f wr rd st lo bu w h n x hi
  by_cases h3 : k = 3
  · subst h3
    cases hi
    · exact play_3l b f wr rd st lo bu w h n x false
    · exact play_3h b f wr rd st lo bu w h n x true hw hs
  by_cases h4 : k = 4
  · subst h4
    cases hi
    · exact play_4l b f wr rd st lo bu w h n x false
    · exact play_4h b f wr rd st lo bu w h n x true hr hs
  by_cases h5 : k = 5
  · subst h5; exact play_5 b f wr rd st lo bu w h n x hi
  · rw [tellS_no (f, wr, rd, st, lo, bu) k n x hi h0 h1 h2 h3 h4 h5, stepS_no (f, wr, rd, st, lo, bu) k n x hi h0 h1 h2 h3 h4 h5]
    exact play_no b f wr rd st lo bu w h n x hi k h0 h1 h2 h3 h4 h5
end Go.Proofs.Ytbeiphnlckflpaa
