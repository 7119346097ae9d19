/- Package vram: the contract of Words at video memory that a call made: the walk. -/
import Derived.Test.YtnoggfnidaifkaaGreatDoorConsoleNobodyJ06
import Derived.Test.YtnoggfnidaifkaaGreatDoorConsoleNobodyJ01
namespace Go.Proofs.YtnoggfnidaifkaaGreatDoor.W13
set_option maxRecDepth 20000
open Go.RowKit
set_option linter.unusedVariables false
theorem words_c (b : Nat) (f : Nat → Int) (wr rd st lo bu : Int) (w : World) (h : HasM w b true f wr rd st lo bu) (at_ n p : Int) (hp : at_ % 65536 = p) (h0 : 0 ≤ n) (h1 : n ≤ 65536) (hlt : ¬ p < 32768) (hn : ¬ 65536 - p < n) : Calls Tryz.prog 77 #[.pointer (some ⟨b, 0, none⟩), .int .i64 at_, .int .i64 n] w fun e w' => e = .returned (.slice (some ⟨w.heap.size, 0, none⟩) n.toNat n.toNat) ∧ w'.heap[w.heap.size]? = some (.cells (toldL f p n.toNat).toArray 3 (0, 0)) ∧ Below w.heap.size w w' := by
  have c0 := h.c0
  have hp0 : 0 ≤ p := by omega
  have hp1 : p < 65536 := by omega
  have hm := make_ints n h0 h1
  have cf := cut_all b
  have HZ := hide (show (w.alloc (.cells (zerosL n.toNat).toArray 3)).heap[w.heap.size]? = some (.cells (zerosL n.toNat).toArray 3 (0, 0)) from heap_alloc_new _ _)
  have BZ := hide ((Below.refl _ w).alloc (Nat.le_refl _) (.cells (zerosL n.toNat).toArray 3))
  have H := hide h
  clear h
  go_enter Tryz.func77, Tryz.ntmps77
  go_wp2_with (first | (go_at_call 121; refine (missing_is b true _ c0).mono ?_; rintro e w' ⟨rfl, hw⟩; subst w') | (go_at_call 24; refine (word_any _ _).mono ?_; rintro e w' ⟨rfl, hw⟩; subst w'))
  go_ret
  exact ⟨rfl, by rw [← told_c f p n.toNat (by omega) (by omega)]; exact HZ.out, BZ.out⟩
theorem words_a (b : Nat) (f : Nat → Int) (wr rd st lo bu : Int) (w : World) (h : HasM w b true f wr rd st lo bu) (at_ n p : Int) (hp : at_ % 65536 = p) (h0 : 0 ≤ n) (h1 : n ≤ 65536) (hlt : p < 32768) (hn : ¬ 65536 - p < n) : Calls Tryz.prog 77 #[.pointer (some ⟨b, 0, none⟩), .int .i64 at_, .int .i64 n] w fun e w' => e = .returned (.slice (some ⟨w.heap.size, 0, none⟩) n.toNat n.toNat) ∧ w'.heap[w.heap.size]? = some (.cells (toldL f p n.toNat).toArray 3 (0, 0)) ∧ Below w.heap.size w w' := by
  have c0 := h.c0
  have hp0 : 0 ≤ p := by omega
  have hp1 : p < 65536 := by omega
  have hm := make_ints n h0 h1
  have cf := cut_all b
  have HZ := hide (show (w.alloc (.cells (zerosL n.toNat).toArray 3)).heap[w.heap.size]? = some (.cells (zerosL n.toNat).toArray 3 (0, 0)) from heap_alloc_new _ _)
  have BZ := hide ((Below.refl _ w).alloc (Nat.le_refl _) (.cells (zerosL n.toNat).toArray 3))
  have H := hide h
  clear h
  go_enter Tryz.func77, Tryz.ntmps77
  have cp := cut_from b p hp0 hlt
  have HA := hide (HZ.out)
  obtain ⟨X, hX⟩ : ∃ X, X = partL f p.toNat (min n.toNat (32768 - p.toNat)) := ⟨_, rfl⟩
  have XL : Hid (X.length = Nat.min (32768 - p.toNat) n.toNat) := by rw [hX]; exact (partL_length _ _ _).trans (Nat.min_comm _ _)
  have XO := hide (show ∀ v ∈ X, v.oneCell' = true by rw [hX]; exact partL_one _ _ _)
  have XF := hide (show 0 + X.length ≤ (zerosL n.toNat).length by rw [hX, partL_length, zerosL_length]; omega)
  have XS := hide (show ∀ j v, X[j]? = some v → (w.alloc (.cells (zerosL n.toNat).toArray 3)).cell? (Addr.add ⟨b, 1 + p.toNat, none⟩ j) = some v by rw [hX]; exact (H.out.next BZ.out).part p.toNat _ (by omega))
  have HX := hide hX
  clear hX
  go_wp2_with (first
    | (go_at_call 121; refine (missing_is b true _ c0).mono ?_; rintro e w' ⟨rfl, hw⟩; subst w')
    | (go_at_call 24; refine (word_any _ _).mono ?_; rintro e w' ⟨rfl, hw⟩; subst w')
    | (refine wpList_copy_splice rfl (.tmp 26) (.tmp 31) 97 97 rfl 3 Tryz.underlying97 (by kernel_rfl) _ _ _ _ _ _ rfl rfl w.heap.size 0 (zerosL n.toNat) 3 HZ.out X XL.out (fun _ => ⟨rfl, _, rfl, XS.out⟩) XF.out XO.out w.heap.size w BZ.out (Nat.le_refl _) ?_; intro w2 hg2 hb2))
  clear HZ BZ XS HA
  go_ret
  exact ⟨rfl, by rw [← told_a f p n.toNat (by omega) hlt (by omega), ← HX.out]; exact hg2.out, hb2⟩
theorem words_d (b : Nat) (f : Nat → Int) (wr rd st lo bu : Int) (w : World) (h : HasM w b true f wr rd st lo bu) (at_ n p : Int) (hp : at_ % 65536 = p) (h0 : 0 ≤ n) (h1 : n ≤ 65536) (hlt : ¬ p < 32768) (hn : 65536 - p < n) : Calls Tryz.prog 77 #[.pointer (some ⟨b, 0, none⟩), .int .i64 at_, .int .i64 n] w fun e w' => e = .returned (.slice (some ⟨w.heap.size, 0, none⟩) n.toNat n.toNat) ∧ w'.heap[w.heap.size]? = some (.cells (toldL f p n.toNat).toArray 3 (0, 0)) ∧ Below w.heap.size w w' := by
  have c0 := h.c0
  have hp0 : 0 ≤ p := by omega
  have hp1 : p < 65536 := by omega
  have hm := make_ints n h0 h1
  have cf := cut_all b
  have HZ := hide (show (w.alloc (.cells (zerosL n.toNat).toArray 3)).heap[w.heap.size]? = some (.cells (zerosL n.toNat).toArray 3 (0, 0)) from heap_alloc_new _ _)
  have BZ := hide ((Below.refl _ w).alloc (Nat.le_refl _) (.cells (zerosL n.toNat).toArray 3))
  have H := hide h
  clear h
  go_enter Tryz.func77, Tryz.ntmps77
  have cr := cut_row w.heap.size n.toNat (65536 - p) (by omega) (by omega)
  go_wp2_with (first | (go_at_call 121; refine (missing_is b true _ c0).mono ?_; rintro e w' ⟨rfl, hw⟩; subst w') | (go_at_call 24; refine (word_any _ _).mono ?_; rintro e w' ⟨rfl, hw⟩; subst w'))
  obtain ⟨w2, hw2⟩ : ∃ w2, w2 = w.alloc (.cells (zerosL n.toNat).toArray 3) := ⟨_, rfl⟩
  rw [← hw2] at HZ BZ ⊢
  clear hw2
  have hb2 := BZ.out
  have hg2 := HZ
  haveI := kept_some w2
  refine wp_region_kept_shut _ _ (show _ = [_, _, _, _, _, _, _] ++ [_] from rfl) (by kernel_rfl) (by kernel_rfl) (by kernel_rfl) ?_
  repeat (go_big_quiet_step (fail))
  refine wpQuiet_nil ?_
  rintro _ ⟨wk, rfl⟩
  obtain ⟨Y, hY⟩ : ∃ Y, Y = partL f 0 (min (n.toNat - (65536 - p).toNat) 32768) := ⟨_, rfl⟩
  have YL : Hid (Y.length = Nat.min 32768 (n.toNat - (65536 - p).toNat)) := by rw [hY]; exact (partL_length _ _ _).trans (Nat.min_comm _ _)
  have YO := hide (show ∀ v ∈ Y, v.oneCell' = true by rw [hY]; exact partL_one _ _ _)
  have BK := hide (bnext hb2 wk.below)
  have YS := hide (show ∀ j v, Y[j]? = some v → wk.val.cell? (Addr.add ⟨b, 1, none⟩ j) = some v by rw [hY]; exact (H.out.next BK.out).part 0 _ (by omega))
  have KR := hide ((wk.below.block w.heap.size (lt_of_block hg2.out)).trans hg2.out)
  have YF := hide (show (65536 - p).toNat + Y.length ≤ (zerosL n.toNat).length by rw [hY, partL_length]; rw [zerosL_length]; omega)
  have HY := hide hY
  clear hY
  go_wp2_with (first
    | (refine wpList_copy_splice rfl (.tmp 40) (.tmp 44) 97 97 rfl 3 Tryz.underlying97 (by kernel_rfl) _ _ _ _ _ _ rfl rfl w.heap.size (65536 - p).toNat (zerosL n.toNat) 3 KR.out Y YL.out (fun _ => ⟨rfl, _, rfl, YS.out⟩) YF.out YO.out w.heap.size w BK.out (Nat.le_refl _) ?_; intro w3 hg3 hb3))
  go_ret
  exact ⟨rfl, by rw [← told_d f p n.toNat (by omega) hp1 (by omega) (by omega), ← HY.out]; exact hg3.out, hb3⟩
theorem words_b (b : Nat) (f : Nat → Int) (wr rd st lo bu : Int) (w : World) (h : HasM w b true f wr rd st lo bu) (at_ n p : Int) (hp : at_ % 65536 = p) (h0 : 0 ≤ n) (h1 : n ≤ 65536) (hlt : p < 32768) (hn : 65536 - p < n) : Calls Tryz.prog 77 #[.pointer (some ⟨b, 0, none⟩), .int .i64 at_, .int .i64 n] w fun e w' => e = .returned (.slice (some ⟨w.heap.size, 0, none⟩) n.toNat n.toNat) ∧ w'.heap[w.heap.size]? = some (.cells (toldL f p n.toNat).toArray 3 (0, 0)) ∧ Below w.heap.size w w' := by
  have c0 := h.c0
  have hp0 : 0 ≤ p := by omega
  have hp1 : p < 65536 := by omega
  have hm := make_ints n h0 h1
  have cf := cut_all b
  have HZ := hide (show (w.alloc (.cells (zerosL n.toNat).toArray 3)).heap[w.heap.size]? = some (.cells (zerosL n.toNat).toArray 3 (0, 0)) from heap_alloc_new _ _)
  have BZ := hide ((Below.refl _ w).alloc (Nat.le_refl _) (.cells (zerosL n.toNat).toArray 3))
  have H := hide h
  clear h
  go_enter Tryz.func77, Tryz.ntmps77
  have cr := cut_row w.heap.size n.toNat (65536 - p) (by omega) (by omega)
  have cp := cut_from b p hp0 hlt
  have HA := hide (HZ.out)
  obtain ⟨X, hX⟩ : ∃ X, X = partL f p.toNat (min n.toNat (32768 - p.toNat)) := ⟨_, rfl⟩
  have XL : Hid (X.length = Nat.min (32768 - p.toNat) n.toNat) := by rw [hX]; exact (partL_length _ _ _).trans (Nat.min_comm _ _)
  have XO := hide (show ∀ v ∈ X, v.oneCell' = true by rw [hX]; exact partL_one _ _ _)
  have XF := hide (show 0 + X.length ≤ (zerosL n.toNat).length by rw [hX, partL_length, zerosL_length]; omega)
  have XS := hide (show ∀ j v, X[j]? = some v → (w.alloc (.cells (zerosL n.toNat).toArray 3)).cell? (Addr.add ⟨b, 1 + p.toNat, none⟩ j) = some v by rw [hX]; exact (H.out.next BZ.out).part p.toNat _ (by omega))
  have HX := hide hX
  clear hX
  go_wp2_with (first
    | (go_at_call 121; refine (missing_is b true _ c0).mono ?_; rintro e w' ⟨rfl, hw⟩; subst w')
    | (go_at_call 24; refine (word_any _ _).mono ?_; rintro e w' ⟨rfl, hw⟩; subst w')
    | (refine wpList_copy_splice rfl (.tmp 26) (.tmp 31) 97 97 rfl 3 Tryz.underlying97 (by kernel_rfl) _ _ _ _ _ _ rfl rfl w.heap.size 0 (zerosL n.toNat) 3 HZ.out X XL.out (fun _ => ⟨rfl, _, rfl, XS.out⟩) XF.out XO.out w.heap.size w BZ.out (Nat.le_refl _) ?_; intro w2 hg2 hb2))
  clear HZ BZ XS HA
  haveI := kept_some w2
  refine wp_region_kept_shut _ _ (show _ = [_, _, _, _, _, _, _] ++ [_] from rfl) (by kernel_rfl) (by kernel_rfl) (by kernel_rfl) ?_
  repeat (go_big_quiet_step (fail))
  refine wpQuiet_nil ?_
  rintro _ ⟨wk, rfl⟩
  obtain ⟨Y, hY⟩ : ∃ Y, Y = partL f 0 (min (n.toNat - (65536 - p).toNat) 32768) := ⟨_, rfl⟩
  have YL : Hid (Y.length = Nat.min 32768 (n.toNat - (65536 - p).toNat)) := by rw [hY]; exact (partL_length _ _ _).trans (Nat.min_comm _ _)
  have YO := hide (show ∀ v ∈ Y, v.oneCell' = true by rw [hY]; exact partL_one _ _ _)
  have BK := hide (bnext hb2 wk.below)
  have YS := hide (show ∀ j v, Y[j]? = some v → wk.val.cell? (Addr.add ⟨b, 1, none⟩ j) = some v by rw [hY]; exact (H.out.next BK.out).part 0 _ (by omega))
  have KR := hide ((wk.below.block w.heap.size (lt_of_block hg2.out)).trans hg2.out)
  have YF := hide (show (65536 - p).toNat + Y.length ≤ (splice (zerosL n.toNat) 0 X).length by rw [hY, partL_length]; rw [length_splice _ _ _ XF.out, zerosL_length]; omega)
  have HY := hide hY
  clear hY
  go_wp2_with (first
    | (refine wpList_copy_splice rfl (.tmp 40) (.tmp 44) 97 97 rfl 3 Tryz.underlying97 (by kernel_rfl) _ _ _ _ _ _ rfl rfl w.heap.size (65536 - p).toNat (splice (zerosL n.toNat) 0 X) 3 KR.out Y YL.out (fun _ => ⟨rfl, _, rfl, YS.out⟩) YF.out YO.out w.heap.size w BK.out (Nat.le_refl _) ?_; intro w3 hg3 hb3))
  go_ret
  exact ⟨rfl, by rw [← told_b f p n.toNat (by omega) hlt (by omega) (by omega), ← HY.out, ← HX.out]; exact hg3.out, hb3⟩
theorem words_is (b : Nat) (f : Nat → Int) (wr rd st lo bu : Int) (w : World) (h : HasM w b true f wr rd st lo bu) (at_ n p : Int) (hp : at_ % 65536 = p) (h0 : 0 ≤ n) (h1 : n ≤ 65536) : Calls Tryz.prog 77 #[.pointer (some ⟨b, 0, none⟩), .int .i64 at_, .int .i64 n] w fun e w' => e = .returned (.slice (some ⟨w.heap.size, 0, none⟩) n.toNat n.toNat) ∧ w'.heap[w.heap.size]? = some (.cells (toldL f p n.toNat).toArray 3 (0, 0)) ∧ Below w.heap.size w w' := by
  by_cases hlt : p < 32768
  · by_cases hn : 65536 - p < n
    · exact words_b b f wr rd st lo bu w h at_ n p hp h0 h1 hlt hn
    · exact words_a b f wr rd st lo bu w h at_ n p hp h0 h1 hlt hn
  · by_cases hn : 65536 - p < n
    · exact words_d b f wr rd st lo bu w h at_ n p hp h0 h1 hlt hn
    · exact words_c b f wr rd st lo bu w h at_ n p hp h0 h1 hlt hn
end Go.Proofs.YtnoggfnidaifkaaGreatDoor.W13
