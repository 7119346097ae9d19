/- Package vram: the contracts of SetRead, Put, Get at video memory that a call made. -/
import Derived.Test.YtbeiphnlckflpaaVram13
import Derived.Test.YtbeiphnlckflpaaLastAny
namespace Go.Proofs.Ytbeiphnlckflpaa
open Go.RowKit
set_option linter.unusedVariables false

theorem setRead_is (b : Nat) (f : Nat → Int) (wr rd st lo bu : Int) (w : World) (h : HasM w b true f wr rd st lo bu) (n x y : Int) (hx : n % 65536 = x) (hy : wordAt f x = y) : Calls Try.prog 11 #[.pointer (some ⟨b, 0, none⟩), .int .i64 n] w fun e w' => e = .returned (.tuple #[]) ∧ HasM w' b true f wr x st lo y ∧ Only b w w' := by
  have c0 := h.c0
  have c2 := h.c2
  have z2 := h.frozen 32770
  have H := hide h
  have HY := hide hy
  clear h hy
  go_enter Try.func11, Try.ntmps11
  go_wp2_with (first | (go_at_call 26; refine (missing_is b true _ c0).mono ?_; rintro e w' ⟨rfl, hw⟩; subst w') | (go_at_call 27; refine (word_any _ _).mono ?_; rintro e w' ⟨rfl, hw⟩; subst w'))
  have H2 := hide (H.out.set2 x)
  have O2 := hide ((Only.refl b w).set 32770 (.int .i64 x))
  obtain ⟨w2, hw2⟩ : ∃ w2, w2 = w.setCell ⟨b, 32770, none⟩ (.int .i64 x) := ⟨_, rfl⟩
  rw [← hw2] at H2 O2 ⊢
  clear hw2 H c0 c2 z2
  refine (word_is b f _ _ _ _ _ _ H2.out x y HY.out).mono ?_
  rintro e w' ⟨rfl, hw⟩
  subst w'
  have c5 := H2.out.c5
  have z5 := H2.out.frozen 32773
  go_wp2
  go_end0
  exact ⟨rfl, H2.out.set5 y, O2.out.set _ _⟩
theorem putLow_is (b : Nat) (f : Nat → Int) (wr rd st lo bu : Int) (w : World) (h : HasM w b true f wr rd st lo bu) (n x : Int) (hx : n % 256 = x) : Calls Try.prog 14 #[.pointer (some ⟨b, 0, none⟩), .bool false, .int .i64 n] w fun e w' => e = .returned (.tuple #[]) ∧ HasM w' b true f wr rd st x bu ∧ Only b w w' := by
  have c0 := h.c0
  have c4 := h.c4
  have z4 := h.frozen 32772
  have H := hide h
  clear h
  go_enter Try.func14, Try.ntmps14
  go_wp2_with (first | (go_at_call 26; refine (missing_is b true _ c0).mono ?_; rintro e w' ⟨rfl, hw⟩; subst w') | (go_at_call 29; refine (byte_any _ _).mono ?_; rintro e w' ⟨rfl, hw⟩; subst w'))
  refine bodyPost_ret (results_none rfl _ _ _) rfl ?_
  exact ⟨rfl, H.out.set4 x, (Only.refl b w).set _ _⟩
theorem ret_val {a c : Int} (h : a = c) : Ending.returned (.int .i64 a) = .returned (.int .i64 c) := by rw [h]
theorem putHigh_is (b : Nat) (f : Nat → Int) (wr rd st lo bu : Int) (w : World) (h : HasM w b true f wr rd st lo bu) (n x y : Int) (F : Nat → Int) (hx : lo % 256 + 256 * (n % 256) = x) (hF : pokeAt f wr x = F) (hw0 : 0 ≤ wr) (hw1 : wr < 65536) (hs0 : 0 ≤ st) (hs1 : st < 65536) (hy : (wr + st) % 65536 = y) :
    Calls Try.prog 14 #[.pointer (some ⟨b, 0, none⟩), .bool true, .int .i64 n] w fun e w' => e = .returned (.tuple #[]) ∧ HasM w' b true F y rd st lo bu ∧ Only b w w' := by
  have c0 := h.c0
  have k1 := kept_cell h.c1 h.lt
  have k4 := kept_cell h.c4 h.lt
  have H := hide h
  have HF := hide hF
  have HX := hide hx
  have HY := hide hy
  clear h hF hx hy
  go_enter Try.func14, Try.ntmps14
  go_wp2_with (first | (go_at_call 26; refine (missing_is b true _ c0).mono ?_; rintro e w' ⟨rfl, hw⟩; subst w'))
  haveI := kept_some w
  refine wp_region_kept_shut _ _ (show _ = [_, _, _, _, _, _, _, _, _, _, _] ++ [_] from rfl) (by kernel_rfl) (by kernel_rfl) (by kernel_rfl) ?_
  repeat (go_big_quiet_step ((first | (go_at_call 30; exact kept_call ((join_any _ _ _).mono (fun _ _ hh => ⟨hh.1.trans (ret_val HX.out), hh.2⟩))))))
  refine wpQuiet_nil ?_
  rintro _ ⟨wk, rfl⟩
  clear c0 k1 k4
  go_wp2_with fail
  refine (poke_is b f _ _ _ _ _ _ (H.out.next wk.below) wr x F HF.out).mono ?_
  rintro e w2 ⟨rfl, h2, o2⟩
  have H2 := hide h2
  have O2 := hide ((Only.of (b := b) wk.below).trans o2)
  have k1 := kept_cell h2.c1 h2.lt
  have k3 := kept_cell h2.c3 h2.lt
  clear h2 o2 H
  go_wp2_with fail
  haveI := kept_some w2
  refine wp_region_kept_shut _ _ (show _ = [_, _, _, _, _, _, _, _, _, _] ++ [_] from rfl) (by kernel_rfl) (by kernel_rfl) (by kernel_rfl) ?_
  repeat (go_big_quiet_step (fail))
  refine wpQuiet_nil ?_
  rintro _ ⟨wj, rfl⟩
  clear k1 k3
  go_wp2_with fail
  refine (setWrite_is b F _ _ _ _ _ _ (H2.out.next wj.below) (wr + st) y HY.out).mono ?_
  rintro e w3 ⟨rfl, h3, o3⟩
  go_wp2_with fail
  go_end0
  exact ⟨rfl, h3, (O2.out.trans (Only.of wj.below)).trans o3⟩
theorem getLow_is (b : Nat) (f : Nat → Int) (wr rd st lo bu : Int) (w : World) (h : HasM w b true f wr rd st lo bu) : Calls Try.prog 16 #[.pointer (some ⟨b, 0, none⟩), .bool false] w fun e w' => e = .returned (.int .i64 (bu % 256)) ∧ w' = w := by
  have c0 := h.c0
  have c5 := h.c5
  clear h
  go_enter Try.func16, Try.ntmps16
  go_wp2_with (first | (go_at_call 26; refine (missing_is b true _ c0).mono ?_; rintro e w' ⟨rfl, hw⟩; subst w') | (go_at_call 34; refine (split_any _ _).mono ?_; rintro e w' ⟨rfl, hw⟩; subst w'))
  go_ret
  exact ⟨rfl, rfl⟩
theorem getHigh_is (b : Nat) (f : Nat → Int) (wr rd st lo bu : Int) (w : World) (h : HasM w b true f wr rd st lo bu) (x y : Int) (hr0 : 0 ≤ rd) (hr1 : rd < 65536) (hs0 : 0 ≤ st) (hs1 : st < 65536) (hx : (rd + st) % 65536 = x) (hy : wordAt f x = y) :
    Calls Try.prog 16 #[.pointer (some ⟨b, 0, none⟩), .bool true] w fun e w' => e = .returned (.int .i64 (bu / 256 % 256)) ∧ HasM w' b true f wr x st lo y ∧ Only b w w' := by
  have c0 := h.c0
  have c5 := h.c5
  have k2 := kept_cell h.c2 h.lt
  have k3 := kept_cell h.c3 h.lt
  have H := hide h
  have HX := hide hx
  have HY := hide hy
  clear h hx hy
  go_enter Try.func16, Try.ntmps16
  go_wp2_with (first | (go_at_call 26; refine (missing_is b true _ c0).mono ?_; rintro e w' ⟨rfl, hw⟩; subst w') | (go_at_call 34; refine (split_any _ _).mono ?_; rintro e w' ⟨rfl, hw⟩; subst w'))
  haveI := kept_some w
  refine wp_region_kept_shut _ _ (show _ = [_, _, _, _, _, _, _, _, _, _] ++ [_] from rfl) (by kernel_rfl) (by kernel_rfl) (by kernel_rfl) ?_
  repeat (go_big_quiet_step (fail))
  refine wpQuiet_nil ?_
  rintro _ ⟨wj, rfl⟩
  clear k2 k3 c0 c5
  go_wp2_with fail
  refine (setRead_is b f _ _ _ _ _ _ (H.out.next wj.below) (rd + st) x y HX.out HY.out).mono ?_
  rintro e w3 ⟨rfl, h3, o3⟩
  go_wp2_with fail
  go_ret
  exact ⟨rfl, h3, (Only.of wj.below).trans o3⟩
end Go.Proofs.Ytbeiphnlckflpaa
