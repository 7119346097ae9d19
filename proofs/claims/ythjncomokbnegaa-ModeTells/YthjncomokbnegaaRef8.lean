/- Contracts of the document's answer for layer 8, and that the program's are the same, for each mode. -/
import Derived.Test.YthjncomokbnegaaMode
namespace Go.Proofs.Ythjncomokbnegaa
open Go.RowKit
set_option linter.unusedVariables false

theorem rzero_any (n : Int) (w : World) : Calls Try.prog 17 #[.int .i64 n] w fun e w' => e = .returned (.int .i64 (zOf n 0)) ∧ w' = w := by
  have h : zOf n 0 = 8192 + n % 256 := by unfold zOf; omega
  have H := hide h
  clear h
  go_enter Try.func17, Try.ntmps17
  go_wp2_with (go_at_call 25; refine (rbyte_any _ _).mono ?_; rintro e w' ⟨rfl, rfl⟩)
  go_ret
  exact ⟨ret_int H.out.symm, rfl⟩
theorem radd_any (a b : Int) (w : World) : Calls Try.prog 18 #[.int .i64 a, .int .i64 b] w fun e w' => e = .returned (.int .i64 (wOf a b)) ∧ w' = w := by
  go_enter Try.func18, Try.ntmps18
  go_wp2_with (go_at_call 19; refine (rword_any _ _).mono ?_; rintro e w' ⟨rfl, rfl⟩)
  go_ret
  exact ⟨rfl, rfl⟩
theorem rword_0 (n : Int) (w : World) : Calls Try.prog 19 #[.int .i64 n] w fun e w' => e = .returned (.int .i64 (wOf n 0)) ∧ w' = w := by
  have c := rword_any n w
  have h : n % 65536 = wOf n 0 := by unfold wOf; omega
  rw [h] at c
  exact c
theorem z_w (a b : Int) : zOf (wOf a b) 0 = zOf a b := by unfold zOf wOf; omega

theorem rpointer_6 (x o : Int) (w : World) : Calls Try.prog 8 #[.int .i64 6, .int .i64 x, .int .i64 o] w fun e w' => e = .returned (.tuple #[.int .i64 (zOf o x), .bool true, .bool true]) ∧ w' = w := by
  have h := z_w o x
  go_enter Try.func8, Try.ntmps8
  go_wp2_with (first | (go_at_call 17; refine (rzero_any _ _).mono ?_; rintro e w' ⟨rfl, rfl⟩) | (go_at_call 18; refine (radd_any _ _ _).mono ?_; rintro e w' ⟨rfl, rfl⟩) | (go_at_call 19; refine (rword_0 _ _).mono ?_; rintro e w' ⟨rfl, rfl⟩))
  go_ret3
  exact ⟨rfl, rfl⟩
theorem rpointer_7 (x o : Int) (w : World) : Calls Try.prog 8 #[.int .i64 7, .int .i64 x, .int .i64 o] w fun e w' => e = .returned (.tuple #[.int .i64 (zOf o 0), .bool true, .bool true]) ∧ w' = w := by
  have h := z_w o x
  go_enter Try.func8, Try.ntmps8
  go_wp2_with (first | (go_at_call 17; refine (rzero_any _ _).mono ?_; rintro e w' ⟨rfl, rfl⟩) | (go_at_call 18; refine (radd_any _ _ _).mono ?_; rintro e w' ⟨rfl, rfl⟩) | (go_at_call 19; refine (rword_0 _ _).mono ?_; rintro e w' ⟨rfl, rfl⟩))
  go_ret3
  exact ⟨rfl, rfl⟩
theorem rpointer_8 (x o : Int) (w : World) : Calls Try.prog 8 #[.int .i64 8, .int .i64 x, .int .i64 o] w fun e w' => e = .returned (.tuple #[.int .i64 (zOf o 0), .bool true, .bool true]) ∧ w' = w := by
  have h := z_w o x
  go_enter Try.func8, Try.ntmps8
  go_wp2_with (first | (go_at_call 17; refine (rzero_any _ _).mono ?_; rintro e w' ⟨rfl, rfl⟩) | (go_at_call 18; refine (radd_any _ _ _).mono ?_; rintro e w' ⟨rfl, rfl⟩) | (go_at_call 19; refine (rword_0 _ _).mono ?_; rintro e w' ⟨rfl, rfl⟩))
  go_ret3
  exact ⟨rfl, rfl⟩
theorem rpointer_12 (x o : Int) (w : World) : Calls Try.prog 8 #[.int .i64 12, .int .i64 x, .int .i64 o] w fun e w' => e = .returned (.tuple #[.int .i64 (wOf o 0), .bool false, .bool true]) ∧ w' = w := by
  have h := z_w o x
  go_enter Try.func8, Try.ntmps8
  go_wp2_with (first | (go_at_call 17; refine (rzero_any _ _).mono ?_; rintro e w' ⟨rfl, rfl⟩) | (go_at_call 18; refine (radd_any _ _ _).mono ?_; rintro e w' ⟨rfl, rfl⟩) | (go_at_call 19; refine (rword_0 _ _).mono ?_; rintro e w' ⟨rfl, rfl⟩))
  go_ret3
  exact ⟨rfl, rfl⟩
theorem rpointer_13 (x o : Int) (w : World) : Calls Try.prog 8 #[.int .i64 13, .int .i64 x, .int .i64 o] w fun e w' => e = .returned (.tuple #[.int .i64 (wOf o x), .bool false, .bool true]) ∧ w' = w := by
  have h := z_w o x
  go_enter Try.func8, Try.ntmps8
  go_wp2_with (first | (go_at_call 17; refine (rzero_any _ _).mono ?_; rintro e w' ⟨rfl, rfl⟩) | (go_at_call 18; refine (radd_any _ _ _).mono ?_; rintro e w' ⟨rfl, rfl⟩) | (go_at_call 19; refine (rword_0 _ _).mono ?_; rintro e w' ⟨rfl, rfl⟩))
  go_ret3
  exact ⟨rfl, rfl⟩
theorem rpointer_no (m x o : Int) (w : World) (h6 : m ≠ 6) (h7 : m ≠ 7) (h8 : m ≠ 8) (h12 : m ≠ 12) (h13 : m ≠ 13) : Calls Try.prog 8 #[.int .i64 m, .int .i64 x, .int .i64 o] w fun e w' => e = .returned (.tuple #[.int .i64 0, .bool false, .bool false]) ∧ w' = w := by
  go_enter Try.func8, Try.ntmps8
  go_wp2
  go_ret3
  exact ⟨rfl, rfl⟩
theorem raddress_3 (x y o p : Int) (w : World) : Calls Try.prog 10 #[.int .i64 3, .int .i64 x, .int .i64 y, .int .i64 o, .int .i64 p] w fun e w' => e = .returned (.tuple #[.int .i64 (zOf o 0), .bool true]) ∧ w' = w := by
  have h1 := z_w o x
  have h2 := z_w o y
  go_enter Try.func10, Try.ntmps10
  go_wp2_with (first | (go_at_call 17; refine (rzero_any _ _).mono ?_; rintro e w' ⟨rfl, rfl⟩) | (go_at_call 18; refine (radd_any _ _ _).mono ?_; rintro e w' ⟨rfl, rfl⟩) | (go_at_call 19; refine (rword_0 _ _).mono ?_; rintro e w' ⟨rfl, rfl⟩))
  go_ret2
  exact ⟨rfl, rfl⟩
theorem raddress_15 (x y o p : Int) (w : World) : Calls Try.prog 10 #[.int .i64 15, .int .i64 x, .int .i64 y, .int .i64 o, .int .i64 p] w fun e w' => e = .returned (.tuple #[.int .i64 (zOf o 0), .bool true]) ∧ w' = w := by
  have h1 := z_w o x
  have h2 := z_w o y
  go_enter Try.func10, Try.ntmps10
  go_wp2_with (first | (go_at_call 17; refine (rzero_any _ _).mono ?_; rintro e w' ⟨rfl, rfl⟩) | (go_at_call 18; refine (radd_any _ _ _).mono ?_; rintro e w' ⟨rfl, rfl⟩) | (go_at_call 19; refine (rword_0 _ _).mono ?_; rintro e w' ⟨rfl, rfl⟩))
  go_ret2
  exact ⟨rfl, rfl⟩
theorem raddress_17 (x y o p : Int) (w : World) : Calls Try.prog 10 #[.int .i64 17, .int .i64 x, .int .i64 y, .int .i64 o, .int .i64 p] w fun e w' => e = .returned (.tuple #[.int .i64 (zOf o 0), .bool true]) ∧ w' = w := by
  have h1 := z_w o x
  have h2 := z_w o y
  go_enter Try.func10, Try.ntmps10
  go_wp2_with (first | (go_at_call 17; refine (rzero_any _ _).mono ?_; rintro e w' ⟨rfl, rfl⟩) | (go_at_call 18; refine (radd_any _ _ _).mono ?_; rintro e w' ⟨rfl, rfl⟩) | (go_at_call 19; refine (rword_0 _ _).mono ?_; rintro e w' ⟨rfl, rfl⟩))
  go_ret2
  exact ⟨rfl, rfl⟩
theorem raddress_4 (x y o p : Int) (w : World) : Calls Try.prog 10 #[.int .i64 4, .int .i64 x, .int .i64 y, .int .i64 o, .int .i64 p] w fun e w' => e = .returned (.tuple #[.int .i64 (zOf o x), .bool true]) ∧ w' = w := by
  have h1 := z_w o x
  have h2 := z_w o y
  go_enter Try.func10, Try.ntmps10
  go_wp2_with (first | (go_at_call 17; refine (rzero_any _ _).mono ?_; rintro e w' ⟨rfl, rfl⟩) | (go_at_call 18; refine (radd_any _ _ _).mono ?_; rintro e w' ⟨rfl, rfl⟩) | (go_at_call 19; refine (rword_0 _ _).mono ?_; rintro e w' ⟨rfl, rfl⟩))
  go_ret2
  exact ⟨rfl, rfl⟩
theorem raddress_18 (x y o p : Int) (w : World) : Calls Try.prog 10 #[.int .i64 18, .int .i64 x, .int .i64 y, .int .i64 o, .int .i64 p] w fun e w' => e = .returned (.tuple #[.int .i64 (zOf o x), .bool true]) ∧ w' = w := by
  have h1 := z_w o x
  have h2 := z_w o y
  go_enter Try.func10, Try.ntmps10
  go_wp2_with (first | (go_at_call 17; refine (rzero_any _ _).mono ?_; rintro e w' ⟨rfl, rfl⟩) | (go_at_call 18; refine (radd_any _ _ _).mono ?_; rintro e w' ⟨rfl, rfl⟩) | (go_at_call 19; refine (rword_0 _ _).mono ?_; rintro e w' ⟨rfl, rfl⟩))
  go_ret2
  exact ⟨rfl, rfl⟩
theorem raddress_5 (x y o p : Int) (w : World) : Calls Try.prog 10 #[.int .i64 5, .int .i64 x, .int .i64 y, .int .i64 o, .int .i64 p] w fun e w' => e = .returned (.tuple #[.int .i64 (zOf o y), .bool true]) ∧ w' = w := by
  have h1 := z_w o x
  have h2 := z_w o y
  go_enter Try.func10, Try.ntmps10
  go_wp2_with (first | (go_at_call 17; refine (rzero_any _ _).mono ?_; rintro e w' ⟨rfl, rfl⟩) | (go_at_call 18; refine (radd_any _ _ _).mono ?_; rintro e w' ⟨rfl, rfl⟩) | (go_at_call 19; refine (rword_0 _ _).mono ?_; rintro e w' ⟨rfl, rfl⟩))
  go_ret2
  exact ⟨rfl, rfl⟩
theorem raddress_9 (x y o p : Int) (w : World) : Calls Try.prog 10 #[.int .i64 9, .int .i64 x, .int .i64 y, .int .i64 o, .int .i64 p] w fun e w' => e = .returned (.tuple #[.int .i64 (wOf o 0), .bool true]) ∧ w' = w := by
  have h1 := z_w o x
  have h2 := z_w o y
  go_enter Try.func10, Try.ntmps10
  go_wp2_with (first | (go_at_call 17; refine (rzero_any _ _).mono ?_; rintro e w' ⟨rfl, rfl⟩) | (go_at_call 18; refine (radd_any _ _ _).mono ?_; rintro e w' ⟨rfl, rfl⟩) | (go_at_call 19; refine (rword_0 _ _).mono ?_; rintro e w' ⟨rfl, rfl⟩))
  go_ret2
  exact ⟨rfl, rfl⟩
theorem raddress_19 (x y o p : Int) (w : World) : Calls Try.prog 10 #[.int .i64 19, .int .i64 x, .int .i64 y, .int .i64 o, .int .i64 p] w fun e w' => e = .returned (.tuple #[.int .i64 (wOf o 0), .bool true]) ∧ w' = w := by
  have h1 := z_w o x
  have h2 := z_w o y
  go_enter Try.func10, Try.ntmps10
  go_wp2_with (first | (go_at_call 17; refine (rzero_any _ _).mono ?_; rintro e w' ⟨rfl, rfl⟩) | (go_at_call 18; refine (radd_any _ _ _).mono ?_; rintro e w' ⟨rfl, rfl⟩) | (go_at_call 19; refine (rword_0 _ _).mono ?_; rintro e w' ⟨rfl, rfl⟩))
  go_ret2
  exact ⟨rfl, rfl⟩
theorem raddress_10 (x y o p : Int) (w : World) : Calls Try.prog 10 #[.int .i64 10, .int .i64 x, .int .i64 y, .int .i64 o, .int .i64 p] w fun e w' => e = .returned (.tuple #[.int .i64 (wOf o x), .bool true]) ∧ w' = w := by
  have h1 := z_w o x
  have h2 := z_w o y
  go_enter Try.func10, Try.ntmps10
  go_wp2_with (first | (go_at_call 17; refine (rzero_any _ _).mono ?_; rintro e w' ⟨rfl, rfl⟩) | (go_at_call 18; refine (radd_any _ _ _).mono ?_; rintro e w' ⟨rfl, rfl⟩) | (go_at_call 19; refine (rword_0 _ _).mono ?_; rintro e w' ⟨rfl, rfl⟩))
  go_ret2
  exact ⟨rfl, rfl⟩
theorem raddress_20 (x y o p : Int) (w : World) : Calls Try.prog 10 #[.int .i64 20, .int .i64 x, .int .i64 y, .int .i64 o, .int .i64 p] w fun e w' => e = .returned (.tuple #[.int .i64 (wOf o x), .bool true]) ∧ w' = w := by
  have h1 := z_w o x
  have h2 := z_w o y
  go_enter Try.func10, Try.ntmps10
  go_wp2_with (first | (go_at_call 17; refine (rzero_any _ _).mono ?_; rintro e w' ⟨rfl, rfl⟩) | (go_at_call 18; refine (radd_any _ _ _).mono ?_; rintro e w' ⟨rfl, rfl⟩) | (go_at_call 19; refine (rword_0 _ _).mono ?_; rintro e w' ⟨rfl, rfl⟩))
  go_ret2
  exact ⟨rfl, rfl⟩
theorem raddress_11 (x y o p : Int) (w : World) : Calls Try.prog 10 #[.int .i64 11, .int .i64 x, .int .i64 y, .int .i64 o, .int .i64 p] w fun e w' => e = .returned (.tuple #[.int .i64 (wOf o y), .bool true]) ∧ w' = w := by
  have h1 := z_w o x
  have h2 := z_w o y
  go_enter Try.func10, Try.ntmps10
  go_wp2_with (first | (go_at_call 17; refine (rzero_any _ _).mono ?_; rintro e w' ⟨rfl, rfl⟩) | (go_at_call 18; refine (radd_any _ _ _).mono ?_; rintro e w' ⟨rfl, rfl⟩) | (go_at_call 19; refine (rword_0 _ _).mono ?_; rintro e w' ⟨rfl, rfl⟩))
  go_ret2
  exact ⟨rfl, rfl⟩
theorem raddress_6 (x y o p : Int) (w : World) : Calls Try.prog 10 #[.int .i64 6, .int .i64 x, .int .i64 y, .int .i64 o, .int .i64 p] w fun e w' => e = .returned (.tuple #[.int .i64 (wOf p 0), .bool true]) ∧ w' = w := by
  have h1 := z_w o x
  have h2 := z_w o y
  go_enter Try.func10, Try.ntmps10
  go_wp2_with (first | (go_at_call 17; refine (rzero_any _ _).mono ?_; rintro e w' ⟨rfl, rfl⟩) | (go_at_call 18; refine (radd_any _ _ _).mono ?_; rintro e w' ⟨rfl, rfl⟩) | (go_at_call 19; refine (rword_0 _ _).mono ?_; rintro e w' ⟨rfl, rfl⟩))
  go_ret2
  exact ⟨rfl, rfl⟩
theorem raddress_8 (x y o p : Int) (w : World) : Calls Try.prog 10 #[.int .i64 8, .int .i64 x, .int .i64 y, .int .i64 o, .int .i64 p] w fun e w' => e = .returned (.tuple #[.int .i64 (wOf p 0), .bool true]) ∧ w' = w := by
  have h1 := z_w o x
  have h2 := z_w o y
  go_enter Try.func10, Try.ntmps10
  go_wp2_with (first | (go_at_call 17; refine (rzero_any _ _).mono ?_; rintro e w' ⟨rfl, rfl⟩) | (go_at_call 18; refine (radd_any _ _ _).mono ?_; rintro e w' ⟨rfl, rfl⟩) | (go_at_call 19; refine (rword_0 _ _).mono ?_; rintro e w' ⟨rfl, rfl⟩))
  go_ret2
  exact ⟨rfl, rfl⟩
theorem raddress_12 (x y o p : Int) (w : World) : Calls Try.prog 10 #[.int .i64 12, .int .i64 x, .int .i64 y, .int .i64 o, .int .i64 p] w fun e w' => e = .returned (.tuple #[.int .i64 (wOf p 0), .bool true]) ∧ w' = w := by
  have h1 := z_w o x
  have h2 := z_w o y
  go_enter Try.func10, Try.ntmps10
  go_wp2_with (first | (go_at_call 17; refine (rzero_any _ _).mono ?_; rintro e w' ⟨rfl, rfl⟩) | (go_at_call 18; refine (radd_any _ _ _).mono ?_; rintro e w' ⟨rfl, rfl⟩) | (go_at_call 19; refine (rword_0 _ _).mono ?_; rintro e w' ⟨rfl, rfl⟩))
  go_ret2
  exact ⟨rfl, rfl⟩
theorem raddress_13 (x y o p : Int) (w : World) : Calls Try.prog 10 #[.int .i64 13, .int .i64 x, .int .i64 y, .int .i64 o, .int .i64 p] w fun e w' => e = .returned (.tuple #[.int .i64 (wOf p 0), .bool true]) ∧ w' = w := by
  have h1 := z_w o x
  have h2 := z_w o y
  go_enter Try.func10, Try.ntmps10
  go_wp2_with (first | (go_at_call 17; refine (rzero_any _ _).mono ?_; rintro e w' ⟨rfl, rfl⟩) | (go_at_call 18; refine (radd_any _ _ _).mono ?_; rintro e w' ⟨rfl, rfl⟩) | (go_at_call 19; refine (rword_0 _ _).mono ?_; rintro e w' ⟨rfl, rfl⟩))
  go_ret2
  exact ⟨rfl, rfl⟩
theorem raddress_7 (x y o p : Int) (w : World) : Calls Try.prog 10 #[.int .i64 7, .int .i64 x, .int .i64 y, .int .i64 o, .int .i64 p] w fun e w' => e = .returned (.tuple #[.int .i64 (wOf p y), .bool true]) ∧ w' = w := by
  have h1 := z_w o x
  have h2 := z_w o y
  go_enter Try.func10, Try.ntmps10
  go_wp2_with (first | (go_at_call 17; refine (rzero_any _ _).mono ?_; rintro e w' ⟨rfl, rfl⟩) | (go_at_call 18; refine (radd_any _ _ _).mono ?_; rintro e w' ⟨rfl, rfl⟩) | (go_at_call 19; refine (rword_0 _ _).mono ?_; rintro e w' ⟨rfl, rfl⟩))
  go_ret2
  exact ⟨rfl, rfl⟩
theorem raddress_no (m x y o p : Int) (w : World) (h3 : m ≠ 3) (h4 : m ≠ 4) (h5 : m ≠ 5) (h6 : m ≠ 6) (h7 : m ≠ 7) (h8 : m ≠ 8) (h9 : m ≠ 9) (h10 : m ≠ 10) (h11 : m ≠ 11) (h12 : m ≠ 12) (h13 : m ≠ 13) (h15 : m ≠ 15) (h17 : m ≠ 17) (h18 : m ≠ 18) (h19 : m ≠ 19) (h20 : m ≠ 20) :
    Calls Try.prog 10 #[.int .i64 m, .int .i64 x, .int .i64 y, .int .i64 o, .int .i64 p] w fun e w' => e = .returned (.tuple #[.int .i64 0, .bool false]) ∧ w' = w := by
  go_enter Try.func10, Try.ntmps10
  go_wp2
  go_ret2
  exact ⟨rfl, rfl⟩
theorem rtarget_any (p o : Int) (w : World) : Calls Try.prog 12 #[.int .i64 p, .int .i64 o] w fun e w' => e = .returned (.int .i64 (wOf p (signOf o))) ∧ w' = w := by
  go_enter Try.func12, Try.ntmps12
  go_wp2_with (first | (go_at_call 18; refine (radd_any _ _ _).mono ?_; rintro e w' ⟨rfl, rfl⟩) | (go_at_call 21; refine (rsigned_any _ _).mono ?_; rintro e w' ⟨rfl, rfl⟩))
  go_ret
  exact ⟨rfl, rfl⟩
theorem rafter_yes (o : Int) (w : World) : Calls Try.prog 14 #[.int .i64 o, .bool true] w fun e w' => e = .returned (.int .i64 (zOf o 1)) ∧ w' = w := by
  have h := z_w o 1
  go_enter Try.func14, Try.ntmps14
  go_wp2_with (first | (go_at_call 17; refine (rzero_any _ _).mono ?_; rintro e w' ⟨rfl, rfl⟩) | (go_at_call 18; refine (radd_any _ _ _).mono ?_; rintro e w' ⟨rfl, rfl⟩) | (go_at_call 19; refine (rword_0 _ _).mono ?_; rintro e w' ⟨rfl, rfl⟩))
  go_ret
  exact ⟨rfl, rfl⟩
theorem rafter_not (o : Int) (w : World) : Calls Try.prog 14 #[.int .i64 o, .bool false] w fun e w' => e = .returned (.int .i64 (wOf o 1)) ∧ w' = w := by
  go_enter Try.func14, Try.ntmps14
  go_wp2_with (first | (go_at_call 17; refine (rzero_any _ _).mono ?_; rintro e w' ⟨rfl, rfl⟩) | (go_at_call 18; refine (radd_any _ _ _).mono ?_; rintro e w' ⟨rfl, rfl⟩) | (go_at_call 19; refine (rword_0 _ _).mono ?_; rintro e w' ⟨rfl, rfl⟩))
  go_ret
  exact ⟨rfl, rfl⟩

/-! ### The same answer, whatever it is -/
theorem after_both (o : Int) (h : Bool) : ∃ v : Int,
    (∀ w, Calls Try.prog 13 #[.int .i64 o, .bool h] w fun e w' => e = .returned (.int .i64 v) ∧ Below w.heap.size w w') ∧
    (∀ w, Calls Try.prog 14 #[.int .i64 o, .bool h] w fun e w' => e = .returned (.int .i64 v) ∧ w' = w) := by
  cases h
  · exact ⟨_, after_not o, rafter_not o⟩
  · exact ⟨_, after_yes o, rafter_yes o⟩
theorem pointer_both (m x o : Int) : ∃ (a : Int) (b h : Bool),
    (∀ w, Calls Try.prog 7 #[.int .i64 m, .int .i64 x, .int .i64 o] w fun e w' => e = .returned (.tuple #[.int .i64 a, .bool b, .bool h]) ∧ Below w.heap.size w w') ∧
    (∀ w, Calls Try.prog 8 #[.int .i64 m, .int .i64 x, .int .i64 o] w fun e w' => e = .returned (.tuple #[.int .i64 a, .bool b, .bool h]) ∧ w' = w) := by
  by_cases h6 : m = 6
  · subst h6; exact ⟨_, _, _, pointer_6 x o, rpointer_6 x o⟩
  by_cases h7 : m = 7
  · subst h7; exact ⟨_, _, _, pointer_7 x o, rpointer_7 x o⟩
  by_cases h8 : m = 8
  · subst h8; exact ⟨_, _, _, pointer_8 x o, rpointer_8 x o⟩
  by_cases h12 : m = 12
  · subst h12; exact ⟨_, _, _, pointer_12 x o, rpointer_12 x o⟩
  by_cases h13 : m = 13
  · subst h13; exact ⟨_, _, _, pointer_13 x o, rpointer_13 x o⟩
  exact ⟨_, _, _, fun w => pointer_no m x o w h6 h7 h8 h12 h13, fun w => rpointer_no m x o w h6 h7 h8 h12 h13⟩
theorem address_both (m x y o p : Int) : ∃ (c : Int) (h : Bool),
    (∀ w, Calls Try.prog 9 #[.int .i64 m, .agg #[.int .i64 x, .int .i64 y], .int .i64 o, .int .i64 p] w fun e w' => e = .returned (.tuple #[.int .i64 c, .bool h]) ∧ Below w.heap.size w w') ∧
    (∀ w, Calls Try.prog 10 #[.int .i64 m, .int .i64 x, .int .i64 y, .int .i64 o, .int .i64 p] w fun e w' => e = .returned (.tuple #[.int .i64 c, .bool h]) ∧ w' = w) := by
  by_cases h3 : m = 3
  · subst h3; exact ⟨_, _, address_3 x y o p, raddress_3 x y o p⟩
  by_cases h4 : m = 4
  · subst h4; exact ⟨_, _, address_4 x y o p, raddress_4 x y o p⟩
  by_cases h5 : m = 5
  · subst h5; exact ⟨_, _, address_5 x y o p, raddress_5 x y o p⟩
  by_cases h6 : m = 6
  · subst h6; exact ⟨_, _, address_6 x y o p, raddress_6 x y o p⟩
  by_cases h7 : m = 7
  · subst h7; exact ⟨_, _, address_7 x y o p, raddress_7 x y o p⟩
  by_cases h8 : m = 8
  · subst h8; exact ⟨_, _, address_8 x y o p, raddress_8 x y o p⟩
  by_cases h9 : m = 9
  · subst h9; exact ⟨_, _, address_9 x y o p, raddress_9 x y o p⟩
  by_cases h10 : m = 10
  · subst h10; exact ⟨_, _, address_10 x y o p, raddress_10 x y o p⟩
  by_cases h11 : m = 11
  · subst h11; exact ⟨_, _, address_11 x y o p, raddress_11 x y o p⟩
  by_cases h12 : m = 12
  · subst h12; exact ⟨_, _, address_12 x y o p, raddress_12 x y o p⟩
  by_cases h13 : m = 13
  · subst h13; exact ⟨_, _, address_13 x y o p, raddress_13 x y o p⟩
  by_cases h15 : m = 15
  · subst h15; exact ⟨_, _, address_15 x y o p, raddress_15 x y o p⟩
  by_cases h17 : m = 17
  · subst h17; exact ⟨_, _, address_17 x y o p, raddress_17 x y o p⟩
  by_cases h18 : m = 18
  · subst h18; exact ⟨_, _, address_18 x y o p, raddress_18 x y o p⟩
  by_cases h19 : m = 19
  · subst h19; exact ⟨_, _, address_19 x y o p, raddress_19 x y o p⟩
  by_cases h20 : m = 20
  · subst h20; exact ⟨_, _, address_20 x y o p, raddress_20 x y o p⟩
  exact ⟨_, _, fun w => address_no m x y o p w h3 h4 h5 h6 h7 h8 h9 h10 h11 h12 h13 h15 h17 h18 h19 h20, fun w => raddress_no m x y o p w h3 h4 h5 h6 h7 h8 h9 h10 h11 h12 h13 h15 h17 h18 h19 h20⟩
end Go.Proofs.Ythjncomokbnegaa
