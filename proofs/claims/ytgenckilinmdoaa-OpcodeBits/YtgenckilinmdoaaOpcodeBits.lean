/- The instructions of one bit stand in their columns, with the bit's number: RMB and SMB in 7, BBR and BBS in f. -/
import Derived.Test.YtgenckilinmdoaaOpOf
import Derived.OpenShut
import Derived.ShutString
import Derived.ChangeOld
import Derived.Below
namespace Go.Proofs.Ytgenckilinmdoaa
open Go.ChangeShapes Go.WideShapes Go.ChangeAt Go.RowKit
open Go.ChangeMaps (open_string shut_string)
set_option linter.unusedVariables false
set_option maxRecDepth 20000
theorem own : ownKnob Try.prog.godebug = none := by kernel_rfl

theorem bits_0 (a0 : Int) (w : World) (ea : bits .and .i64 a0 7 = 0) : Calls Try.prog 5 #[.int .i64 a0] w fun e w' => e = .returned (.bool true) ∧ Below w.heap.size w w' := by
  have c1 := hide (fun w => (show Calls Try.prog 10 #[.int .i64 7] w fun e w' => e = .returned (.agg #[.string ⟨#[82, 77, 66, 48]⟩, .int .i64 3, .int .i64 2, .int .i64 7]) ∧ Below w.heap.size w w' from of_byte 7 (by omega) w))
  have c2 := hide (fun w => (show Calls Try.prog 10 #[.int .i64 135] w fun e w' => e = .returned (.agg #[.string ⟨#[83, 77, 66, 48]⟩, .int .i64 3, .int .i64 2, .int .i64 7]) ∧ Below w.heap.size w w' from of_byte 135 (by omega) w))
  have c3 := hide (fun w => (show Calls Try.prog 10 #[.int .i64 15] w fun e w' => e = .returned (.agg #[.string ⟨#[66, 66, 82, 48]⟩, .int .i64 15, .int .i64 3, .int .i64 6]) ∧ Below w.heap.size w w' from of_byte 15 (by omega) w))
  have c4 := hide (fun w => (show Calls Try.prog 10 #[.int .i64 143] w fun e w' => e = .returned (.agg #[.string ⟨#[66, 66, 83, 48]⟩, .int .i64 15, .int .i64 3, .int .i64 6]) ∧ Below w.heap.size w w' from of_byte 143 (by omega) w))
  have ex : ByteArray.extract ⟨#[48, 49, 50, 51, 52, 53, 54, 55]⟩ 0 1 = ⟨#[48]⟩ := by kernel_rfl
  have s1 : (⟨#[82, 77, 66]⟩ : ByteArray) ++ (⟨#[48]⟩ : ByteArray) = ⟨#[82, 77, 66, 48]⟩ := by kernel_rfl
  have s2 : (⟨#[83, 77, 66]⟩ : ByteArray) ++ (⟨#[48]⟩ : ByteArray) = ⟨#[83, 77, 66, 48]⟩ := by kernel_rfl
  have s3 : (⟨#[66, 66, 82]⟩ : ByteArray) ++ (⟨#[48]⟩ : ByteArray) = ⟨#[66, 66, 82, 48]⟩ := by kernel_rfl
  have s4 : (⟨#[66, 66, 83]⟩ : ByteArray) ++ (⟨#[48]⟩ : ByteArray) = ⟨#[66, 66, 83, 48]⟩ := by kernel_rfl
  go_enter Try.func5, Try.ntmps5
  go_wp2_with fail
  refine (c1.out _).mono ?_
  rintro e w1 ⟨rfl, b1⟩
  go_wp2_with fail
  refine (c2.out _).mono ?_
  rintro e w2 ⟨rfl, b2⟩
  go_wp2_with fail
  refine (c3.out _).mono ?_
  rintro e w3 ⟨rfl, b3⟩
  go_wp2_with fail
  refine (c4.out _).mono ?_
  rintro e w4 ⟨rfl, b4⟩
  have B4 := hide (bnext (bnext (bnext b1 b2) b3) b4)
  clear b1 b2 b3 b4 c1 c2 c3 c4
  go_wp2
  go_ret
  exact ⟨rfl, ((((B4.out.alloc B4.out.size _).alloc (by simp; have := B4.out.size; omega) _).alloc (by simp; have := B4.out.size; omega) _).alloc (by simp; have := B4.out.size; omega) _)⟩
theorem bits_1 (a0 : Int) (w : World) (ea : bits .and .i64 a0 7 = 1) : Calls Try.prog 5 #[.int .i64 a0] w fun e w' => e = .returned (.bool true) ∧ Below w.heap.size w w' := by
  have c1 := hide (fun w => (show Calls Try.prog 10 #[.int .i64 23] w fun e w' => e = .returned (.agg #[.string ⟨#[82, 77, 66, 49]⟩, .int .i64 3, .int .i64 2, .int .i64 7]) ∧ Below w.heap.size w w' from of_byte 23 (by omega) w))
  have c2 := hide (fun w => (show Calls Try.prog 10 #[.int .i64 151] w fun e w' => e = .returned (.agg #[.string ⟨#[83, 77, 66, 49]⟩, .int .i64 3, .int .i64 2, .int .i64 7]) ∧ Below w.heap.size w w' from of_byte 151 (by omega) w))
  have c3 := hide (fun w => (show Calls Try.prog 10 #[.int .i64 31] w fun e w' => e = .returned (.agg #[.string ⟨#[66, 66, 82, 49]⟩, .int .i64 15, .int .i64 3, .int .i64 6]) ∧ Below w.heap.size w w' from of_byte 31 (by omega) w))
  have c4 := hide (fun w => (show Calls Try.prog 10 #[.int .i64 159] w fun e w' => e = .returned (.agg #[.string ⟨#[66, 66, 83, 49]⟩, .int .i64 15, .int .i64 3, .int .i64 6]) ∧ Below w.heap.size w w' from of_byte 159 (by omega) w))
  have ex : ByteArray.extract ⟨#[48, 49, 50, 51, 52, 53, 54, 55]⟩ 1 2 = ⟨#[49]⟩ := by kernel_rfl
  have s1 : (⟨#[82, 77, 66]⟩ : ByteArray) ++ (⟨#[49]⟩ : ByteArray) = ⟨#[82, 77, 66, 49]⟩ := by kernel_rfl
  have s2 : (⟨#[83, 77, 66]⟩ : ByteArray) ++ (⟨#[49]⟩ : ByteArray) = ⟨#[83, 77, 66, 49]⟩ := by kernel_rfl
  have s3 : (⟨#[66, 66, 82]⟩ : ByteArray) ++ (⟨#[49]⟩ : ByteArray) = ⟨#[66, 66, 82, 49]⟩ := by kernel_rfl
  have s4 : (⟨#[66, 66, 83]⟩ : ByteArray) ++ (⟨#[49]⟩ : ByteArray) = ⟨#[66, 66, 83, 49]⟩ := by kernel_rfl
  go_enter Try.func5, Try.ntmps5
  go_wp2_with fail
  refine (c1.out _).mono ?_
  rintro e w1 ⟨rfl, b1⟩
  go_wp2_with fail
  refine (c2.out _).mono ?_
  rintro e w2 ⟨rfl, b2⟩
  go_wp2_with fail
  refine (c3.out _).mono ?_
  rintro e w3 ⟨rfl, b3⟩
  go_wp2_with fail
  refine (c4.out _).mono ?_
  rintro e w4 ⟨rfl, b4⟩
  have B4 := hide (bnext (bnext (bnext b1 b2) b3) b4)
  clear b1 b2 b3 b4 c1 c2 c3 c4
  go_wp2
  go_ret
  exact ⟨rfl, ((((B4.out.alloc B4.out.size _).alloc (by simp; have := B4.out.size; omega) _).alloc (by simp; have := B4.out.size; omega) _).alloc (by simp; have := B4.out.size; omega) _)⟩
theorem bits_2 (a0 : Int) (w : World) (ea : bits .and .i64 a0 7 = 2) : Calls Try.prog 5 #[.int .i64 a0] w fun e w' => e = .returned (.bool true) ∧ Below w.heap.size w w' := by
  have c1 := hide (fun w => (show Calls Try.prog 10 #[.int .i64 39] w fun e w' => e = .returned (.agg #[.string ⟨#[82, 77, 66, 50]⟩, .int .i64 3, .int .i64 2, .int .i64 7]) ∧ Below w.heap.size w w' from of_byte 39 (by omega) w))
  have c2 := hide (fun w => (show Calls Try.prog 10 #[.int .i64 167] w fun e w' => e = .returned (.agg #[.string ⟨#[83, 77, 66, 50]⟩, .int .i64 3, .int .i64 2, .int .i64 7]) ∧ Below w.heap.size w w' from of_byte 167 (by omega) w))
  have c3 := hide (fun w => (show Calls Try.prog 10 #[.int .i64 47] w fun e w' => e = .returned (.agg #[.string ⟨#[66, 66, 82, 50]⟩, .int .i64 15, .int .i64 3, .int .i64 6]) ∧ Below w.heap.size w w' from of_byte 47 (by omega) w))
  have c4 := hide (fun w => (show Calls Try.prog 10 #[.int .i64 175] w fun e w' => e = .returned (.agg #[.string ⟨#[66, 66, 83, 50]⟩, .int .i64 15, .int .i64 3, .int .i64 6]) ∧ Below w.heap.size w w' from of_byte 175 (by omega) w))
  have ex : ByteArray.extract ⟨#[48, 49, 50, 51, 52, 53, 54, 55]⟩ 2 3 = ⟨#[50]⟩ := by kernel_rfl
  have s1 : (⟨#[82, 77, 66]⟩ : ByteArray) ++ (⟨#[50]⟩ : ByteArray) = ⟨#[82, 77, 66, 50]⟩ := by kernel_rfl
  have s2 : (⟨#[83, 77, 66]⟩ : ByteArray) ++ (⟨#[50]⟩ : ByteArray) = ⟨#[83, 77, 66, 50]⟩ := by kernel_rfl
  have s3 : (⟨#[66, 66, 82]⟩ : ByteArray) ++ (⟨#[50]⟩ : ByteArray) = ⟨#[66, 66, 82, 50]⟩ := by kernel_rfl
  have s4 : (⟨#[66, 66, 83]⟩ : ByteArray) ++ (⟨#[50]⟩ : ByteArray) = ⟨#[66, 66, 83, 50]⟩ := by kernel_rfl
  go_enter Try.func5, Try.ntmps5
  go_wp2_with fail
  refine (c1.out _).mono ?_
  rintro e w1 ⟨rfl, b1⟩
  go_wp2_with fail
  refine (c2.out _).mono ?_
  rintro e w2 ⟨rfl, b2⟩
  go_wp2_with fail
  refine (c3.out _).mono ?_
  rintro e w3 ⟨rfl, b3⟩
  go_wp2_with fail
  refine (c4.out _).mono ?_
  rintro e w4 ⟨rfl, b4⟩
  have B4 := hide (bnext (bnext (bnext b1 b2) b3) b4)
  clear b1 b2 b3 b4 c1 c2 c3 c4
  go_wp2
  go_ret
  exact ⟨rfl, ((((B4.out.alloc B4.out.size _).alloc (by simp; have := B4.out.size; omega) _).alloc (by simp; have := B4.out.size; omega) _).alloc (by simp; have := B4.out.size; omega) _)⟩
theorem bits_3 (a0 : Int) (w : World) (ea : bits .and .i64 a0 7 = 3) : Calls Try.prog 5 #[.int .i64 a0] w fun e w' => e = .returned (.bool true) ∧ Below w.heap.size w w' := by
  have c1 := hide (fun w => (show Calls Try.prog 10 #[.int .i64 55] w fun e w' => e = .returned (.agg #[.string ⟨#[82, 77, 66, 51]⟩, .int .i64 3, .int .i64 2, .int .i64 7]) ∧ Below w.heap.size w w' from of_byte 55 (by omega) w))
  have c2 := hide (fun w => (show Calls Try.prog 10 #[.int .i64 183] w fun e w' => e = .returned (.agg #[.string ⟨#[83, 77, 66, 51]⟩, .int .i64 3, .int .i64 2, .int .i64 7]) ∧ Below w.heap.size w w' from of_byte 183 (by omega) w))
  have c3 := hide (fun w => (show Calls Try.prog 10 #[.int .i64 63] w fun e w' => e = .returned (.agg #[.string ⟨#[66, 66, 82, 51]⟩, .int .i64 15, .int .i64 3, .int .i64 6]) ∧ Below w.heap.size w w' from of_byte 63 (by omega) w))
  have c4 := hide (fun w => (show Calls Try.prog 10 #[.int .i64 191] w fun e w' => e = .returned (.agg #[.string ⟨#[66, 66, 83, 51]⟩, .int .i64 15, .int .i64 3, .int .i64 6]) ∧ Below w.heap.size w w' from of_byte 191 (by omega) w))
  have ex : ByteArray.extract ⟨#[48, 49, 50, 51, 52, 53, 54, 55]⟩ 3 4 = ⟨#[51]⟩ := by kernel_rfl
  have s1 : (⟨#[82, 77, 66]⟩ : ByteArray) ++ (⟨#[51]⟩ : ByteArray) = ⟨#[82, 77, 66, 51]⟩ := by kernel_rfl
  have s2 : (⟨#[83, 77, 66]⟩ : ByteArray) ++ (⟨#[51]⟩ : ByteArray) = ⟨#[83, 77, 66, 51]⟩ := by kernel_rfl
  have s3 : (⟨#[66, 66, 82]⟩ : ByteArray) ++ (⟨#[51]⟩ : ByteArray) = ⟨#[66, 66, 82, 51]⟩ := by kernel_rfl
  have s4 : (⟨#[66, 66, 83]⟩ : ByteArray) ++ (⟨#[51]⟩ : ByteArray) = ⟨#[66, 66, 83, 51]⟩ := by kernel_rfl
  go_enter Try.func5, Try.ntmps5
  go_wp2_with fail
  refine (c1.out _).mono ?_
  rintro e w1 ⟨rfl, b1⟩
  go_wp2_with fail
  refine (c2.out _).mono ?_
  rintro e w2 ⟨rfl, b2⟩
  go_wp2_with fail
  refine (c3.out _).mono ?_
  rintro e w3 ⟨rfl, b3⟩
  go_wp2_with fail
  refine (c4.out _).mono ?_
  rintro e w4 ⟨rfl, b4⟩
  have B4 := hide (bnext (bnext (bnext b1 b2) b3) b4)
  clear b1 b2 b3 b4 c1 c2 c3 c4
  go_wp2
  go_ret
  exact ⟨rfl, ((((B4.out.alloc B4.out.size _).alloc (by simp; have := B4.out.size; omega) _).alloc (by simp; have := B4.out.size; omega) _).alloc (by simp; have := B4.out.size; omega) _)⟩
theorem bits_4 (a0 : Int) (w : World) (ea : bits .and .i64 a0 7 = 4) : Calls Try.prog 5 #[.int .i64 a0] w fun e w' => e = .returned (.bool true) ∧ Below w.heap.size w w' := by
  have c1 := hide (fun w => (show Calls Try.prog 10 #[.int .i64 71] w fun e w' => e = .returned (.agg #[.string ⟨#[82, 77, 66, 52]⟩, .int .i64 3, .int .i64 2, .int .i64 7]) ∧ Below w.heap.size w w' from of_byte 71 (by omega) w))
  have c2 := hide (fun w => (show Calls Try.prog 10 #[.int .i64 199] w fun e w' => e = .returned (.agg #[.string ⟨#[83, 77, 66, 52]⟩, .int .i64 3, .int .i64 2, .int .i64 7]) ∧ Below w.heap.size w w' from of_byte 199 (by omega) w))
  have c3 := hide (fun w => (show Calls Try.prog 10 #[.int .i64 79] w fun e w' => e = .returned (.agg #[.string ⟨#[66, 66, 82, 52]⟩, .int .i64 15, .int .i64 3, .int .i64 6]) ∧ Below w.heap.size w w' from of_byte 79 (by omega) w))
  have c4 := hide (fun w => (show Calls Try.prog 10 #[.int .i64 207] w fun e w' => e = .returned (.agg #[.string ⟨#[66, 66, 83, 52]⟩, .int .i64 15, .int .i64 3, .int .i64 6]) ∧ Below w.heap.size w w' from of_byte 207 (by omega) w))
  have ex : ByteArray.extract ⟨#[48, 49, 50, 51, 52, 53, 54, 55]⟩ 4 5 = ⟨#[52]⟩ := by kernel_rfl
  have s1 : (⟨#[82, 77, 66]⟩ : ByteArray) ++ (⟨#[52]⟩ : ByteArray) = ⟨#[82, 77, 66, 52]⟩ := by kernel_rfl
  have s2 : (⟨#[83, 77, 66]⟩ : ByteArray) ++ (⟨#[52]⟩ : ByteArray) = ⟨#[83, 77, 66, 52]⟩ := by kernel_rfl
  have s3 : (⟨#[66, 66, 82]⟩ : ByteArray) ++ (⟨#[52]⟩ : ByteArray) = ⟨#[66, 66, 82, 52]⟩ := by kernel_rfl
  have s4 : (⟨#[66, 66, 83]⟩ : ByteArray) ++ (⟨#[52]⟩ : ByteArray) = ⟨#[66, 66, 83, 52]⟩ := by kernel_rfl
  go_enter Try.func5, Try.ntmps5
  go_wp2_with fail
  refine (c1.out _).mono ?_
  rintro e w1 ⟨rfl, b1⟩
  go_wp2_with fail
  refine (c2.out _).mono ?_
  rintro e w2 ⟨rfl, b2⟩
  go_wp2_with fail
  refine (c3.out _).mono ?_
  rintro e w3 ⟨rfl, b3⟩
  go_wp2_with fail
  refine (c4.out _).mono ?_
  rintro e w4 ⟨rfl, b4⟩
  have B4 := hide (bnext (bnext (bnext b1 b2) b3) b4)
  clear b1 b2 b3 b4 c1 c2 c3 c4
  go_wp2
  go_ret
  exact ⟨rfl, ((((B4.out.alloc B4.out.size _).alloc (by simp; have := B4.out.size; omega) _).alloc (by simp; have := B4.out.size; omega) _).alloc (by simp; have := B4.out.size; omega) _)⟩
theorem bits_5 (a0 : Int) (w : World) (ea : bits .and .i64 a0 7 = 5) : Calls Try.prog 5 #[.int .i64 a0] w fun e w' => e = .returned (.bool true) ∧ Below w.heap.size w w' := by
  have c1 := hide (fun w => (show Calls Try.prog 10 #[.int .i64 87] w fun e w' => e = .returned (.agg #[.string ⟨#[82, 77, 66, 53]⟩, .int .i64 3, .int .i64 2, .int .i64 7]) ∧ Below w.heap.size w w' from of_byte 87 (by omega) w))
  have c2 := hide (fun w => (show Calls Try.prog 10 #[.int .i64 215] w fun e w' => e = .returned (.agg #[.string ⟨#[83, 77, 66, 53]⟩, .int .i64 3, .int .i64 2, .int .i64 7]) ∧ Below w.heap.size w w' from of_byte 215 (by omega) w))
  have c3 := hide (fun w => (show Calls Try.prog 10 #[.int .i64 95] w fun e w' => e = .returned (.agg #[.string ⟨#[66, 66, 82, 53]⟩, .int .i64 15, .int .i64 3, .int .i64 6]) ∧ Below w.heap.size w w' from of_byte 95 (by omega) w))
  have c4 := hide (fun w => (show Calls Try.prog 10 #[.int .i64 223] w fun e w' => e = .returned (.agg #[.string ⟨#[66, 66, 83, 53]⟩, .int .i64 15, .int .i64 3, .int .i64 6]) ∧ Below w.heap.size w w' from of_byte 223 (by omega) w))
  have ex : ByteArray.extract ⟨#[48, 49, 50, 51, 52, 53, 54, 55]⟩ 5 6 = ⟨#[53]⟩ := by kernel_rfl
  have s1 : (⟨#[82, 77, 66]⟩ : ByteArray) ++ (⟨#[53]⟩ : ByteArray) = ⟨#[82, 77, 66, 53]⟩ := by kernel_rfl
  have s2 : (⟨#[83, 77, 66]⟩ : ByteArray) ++ (⟨#[53]⟩ : ByteArray) = ⟨#[83, 77, 66, 53]⟩ := by kernel_rfl
  have s3 : (⟨#[66, 66, 82]⟩ : ByteArray) ++ (⟨#[53]⟩ : ByteArray) = ⟨#[66, 66, 82, 53]⟩ := by kernel_rfl
  have s4 : (⟨#[66, 66, 83]⟩ : ByteArray) ++ (⟨#[53]⟩ : ByteArray) = ⟨#[66, 66, 83, 53]⟩ := by kernel_rfl
  go_enter Try.func5, Try.ntmps5
  go_wp2_with fail
  refine (c1.out _).mono ?_
  rintro e w1 ⟨rfl, b1⟩
  go_wp2_with fail
  refine (c2.out _).mono ?_
  rintro e w2 ⟨rfl, b2⟩
  go_wp2_with fail
  refine (c3.out _).mono ?_
  rintro e w3 ⟨rfl, b3⟩
  go_wp2_with fail
  refine (c4.out _).mono ?_
  rintro e w4 ⟨rfl, b4⟩
  have B4 := hide (bnext (bnext (bnext b1 b2) b3) b4)
  clear b1 b2 b3 b4 c1 c2 c3 c4
  go_wp2
  go_ret
  exact ⟨rfl, ((((B4.out.alloc B4.out.size _).alloc (by simp; have := B4.out.size; omega) _).alloc (by simp; have := B4.out.size; omega) _).alloc (by simp; have := B4.out.size; omega) _)⟩
theorem bits_6 (a0 : Int) (w : World) (ea : bits .and .i64 a0 7 = 6) : Calls Try.prog 5 #[.int .i64 a0] w fun e w' => e = .returned (.bool true) ∧ Below w.heap.size w w' := by
  have c1 := hide (fun w => (show Calls Try.prog 10 #[.int .i64 103] w fun e w' => e = .returned (.agg #[.string ⟨#[82, 77, 66, 54]⟩, .int .i64 3, .int .i64 2, .int .i64 7]) ∧ Below w.heap.size w w' from of_byte 103 (by omega) w))
  have c2 := hide (fun w => (show Calls Try.prog 10 #[.int .i64 231] w fun e w' => e = .returned (.agg #[.string ⟨#[83, 77, 66, 54]⟩, .int .i64 3, .int .i64 2, .int .i64 7]) ∧ Below w.heap.size w w' from of_byte 231 (by omega) w))
  have c3 := hide (fun w => (show Calls Try.prog 10 #[.int .i64 111] w fun e w' => e = .returned (.agg #[.string ⟨#[66, 66, 82, 54]⟩, .int .i64 15, .int .i64 3, .int .i64 6]) ∧ Below w.heap.size w w' from of_byte 111 (by omega) w))
  have c4 := hide (fun w => (show Calls Try.prog 10 #[.int .i64 239] w fun e w' => e = .returned (.agg #[.string ⟨#[66, 66, 83, 54]⟩, .int .i64 15, .int .i64 3, .int .i64 6]) ∧ Below w.heap.size w w' from of_byte 239 (by omega) w))
  have ex : ByteArray.extract ⟨#[48, 49, 50, 51, 52, 53, 54, 55]⟩ 6 7 = ⟨#[54]⟩ := by kernel_rfl
  have s1 : (⟨#[82, 77, 66]⟩ : ByteArray) ++ (⟨#[54]⟩ : ByteArray) = ⟨#[82, 77, 66, 54]⟩ := by kernel_rfl
  have s2 : (⟨#[83, 77, 66]⟩ : ByteArray) ++ (⟨#[54]⟩ : ByteArray) = ⟨#[83, 77, 66, 54]⟩ := by kernel_rfl
  have s3 : (⟨#[66, 66, 82]⟩ : ByteArray) ++ (⟨#[54]⟩ : ByteArray) = ⟨#[66, 66, 82, 54]⟩ := by kernel_rfl
  have s4 : (⟨#[66, 66, 83]⟩ : ByteArray) ++ (⟨#[54]⟩ : ByteArray) = ⟨#[66, 66, 83, 54]⟩ := by kernel_rfl
  go_enter Try.func5, Try.ntmps5
  go_wp2_with fail
  refine (c1.out _).mono ?_
  rintro e w1 ⟨rfl, b1⟩
  go_wp2_with fail
  refine (c2.out _).mono ?_
  rintro e w2 ⟨rfl, b2⟩
  go_wp2_with fail
  refine (c3.out _).mono ?_
  rintro e w3 ⟨rfl, b3⟩
  go_wp2_with fail
  refine (c4.out _).mono ?_
  rintro e w4 ⟨rfl, b4⟩
  have B4 := hide (bnext (bnext (bnext b1 b2) b3) b4)
  clear b1 b2 b3 b4 c1 c2 c3 c4
  go_wp2
  go_ret
  exact ⟨rfl, ((((B4.out.alloc B4.out.size _).alloc (by simp; have := B4.out.size; omega) _).alloc (by simp; have := B4.out.size; omega) _).alloc (by simp; have := B4.out.size; omega) _)⟩
theorem bits_7 (a0 : Int) (w : World) (ea : bits .and .i64 a0 7 = 7) : Calls Try.prog 5 #[.int .i64 a0] w fun e w' => e = .returned (.bool true) ∧ Below w.heap.size w w' := by
  have c1 := hide (fun w => (show Calls Try.prog 10 #[.int .i64 119] w fun e w' => e = .returned (.agg #[.string ⟨#[82, 77, 66, 55]⟩, .int .i64 3, .int .i64 2, .int .i64 7]) ∧ Below w.heap.size w w' from of_byte 119 (by omega) w))
  have c2 := hide (fun w => (show Calls Try.prog 10 #[.int .i64 247] w fun e w' => e = .returned (.agg #[.string ⟨#[83, 77, 66, 55]⟩, .int .i64 3, .int .i64 2, .int .i64 7]) ∧ Below w.heap.size w w' from of_byte 247 (by omega) w))
  have c3 := hide (fun w => (show Calls Try.prog 10 #[.int .i64 127] w fun e w' => e = .returned (.agg #[.string ⟨#[66, 66, 82, 55]⟩, .int .i64 15, .int .i64 3, .int .i64 6]) ∧ Below w.heap.size w w' from of_byte 127 (by omega) w))
  have c4 := hide (fun w => (show Calls Try.prog 10 #[.int .i64 255] w fun e w' => e = .returned (.agg #[.string ⟨#[66, 66, 83, 55]⟩, .int .i64 15, .int .i64 3, .int .i64 6]) ∧ Below w.heap.size w w' from of_byte 255 (by omega) w))
  have ex : ByteArray.extract ⟨#[48, 49, 50, 51, 52, 53, 54, 55]⟩ 7 8 = ⟨#[55]⟩ := by kernel_rfl
  have s1 : (⟨#[82, 77, 66]⟩ : ByteArray) ++ (⟨#[55]⟩ : ByteArray) = ⟨#[82, 77, 66, 55]⟩ := by kernel_rfl
  have s2 : (⟨#[83, 77, 66]⟩ : ByteArray) ++ (⟨#[55]⟩ : ByteArray) = ⟨#[83, 77, 66, 55]⟩ := by kernel_rfl
  have s3 : (⟨#[66, 66, 82]⟩ : ByteArray) ++ (⟨#[55]⟩ : ByteArray) = ⟨#[66, 66, 82, 55]⟩ := by kernel_rfl
  have s4 : (⟨#[66, 66, 83]⟩ : ByteArray) ++ (⟨#[55]⟩ : ByteArray) = ⟨#[66, 66, 83, 55]⟩ := by kernel_rfl
  go_enter Try.func5, Try.ntmps5
  go_wp2_with fail
  refine (c1.out _).mono ?_
  rintro e w1 ⟨rfl, b1⟩
  go_wp2_with fail
  refine (c2.out _).mono ?_
  rintro e w2 ⟨rfl, b2⟩
  go_wp2_with fail
  refine (c3.out _).mono ?_
  rintro e w3 ⟨rfl, b3⟩
  go_wp2_with fail
  refine (c4.out _).mono ?_
  rintro e w4 ⟨rfl, b4⟩
  have B4 := hide (bnext (bnext (bnext b1 b2) b3) b4)
  clear b1 b2 b3 b4 c1 c2 c3 c4
  go_wp2
  go_ret
  exact ⟨rfl, ((((B4.out.alloc B4.out.size _).alloc (by simp; have := B4.out.size; omega) _).alloc (by simp; have := B4.out.size; omega) _).alloc (by simp; have := B4.out.size; omega) _)⟩

theorem opcodeBits_walk (a0 : Int) (w0 : (Lit.int .i64 a0).wf = true) (w : World) : Calls Try.prog 5 #[.int .i64 a0] w fun e w' => e = .returned (.bool true) ∧ Below w.heap.size w w' := by
  have ea := and_7 a0
  have hk : a0 % 8 = 0 ∨ a0 % 8 = 1 ∨ a0 % 8 = 2 ∨ a0 % 8 = 3 ∨ a0 % 8 = 4 ∨ a0 % 8 = 5 ∨ a0 % 8 = 6 ∨ a0 % 8 = 7 := by omega
  rcases hk with h | h | h | h | h | h | h | h
  · exact bits_0 a0 w (ea.trans h)
  · exact bits_1 a0 w (ea.trans h)
  · exact bits_2 a0 w (ea.trans h)
  · exact bits_3 a0 w (ea.trans h)
  · exact bits_4 a0 w (ea.trans h)
  · exact bits_5 a0 w (ea.trans h)
  · exact bits_6 a0 w (ea.trans h)
  · exact bits_7 a0 w (ea.trans h)

set_option maxRecDepth 100000 in
theorem opcodeBits_lifted (os : Os) (started : os.Started) (H : Type) (enc : TypeId × Value → H) :
    ReturnsInHanded {} Try.checked os 5 .any (Rows.opcodeBitsSpec.pre6 enc Try.prog Try.f5 Rows.opcodeBitsRow.domain false) (Rows.opcodeBitsSpec.post enc Try.prog Try.f5 false true false false) := by
  refine returnsInHanded_of_change (C := Try.checked) own started (by kernel_rfl) Try.func5
    (ChangeSpec.witness6 (enc := enc) (C := Try.checked) false ⟨#[], #[.int .i64 0], []⟩ 8 (by kernel_rfl) (by kernel_rfl) (by kernel_rfl) (by kernel_rfl)) ?_
  intro W base args ds gs before hval0 hW hcnd _
  have hval : ∀ (j : Nat) t v, Try.f5.params[j]? = some t → args[j]? = some v → Value.okWide Try.prog W .any base t v := hval0
  have hW' := hW
  obtain ⟨p, q, hA0, hV, rfl, hfz, hnd⟩ := hW
  have hA : DataW.TrodAll enc Try.prog W 0 (fun _ => true) true Try.f5.params.toList args.toList ds p := hA0
  rw [Try.params5] at hA hval
  obtain ⟨v0, vs0, d0, ds0, p0, q0, hargs, rfl, rfl, h0, r0⟩ := trodAll_cons hA
  obtain ⟨rfl, rfl, rfl⟩ := trodAll_nil r0
  obtain rfl : args = #[v0] := by cases args; simp_all
  obtain ⟨rfl, rfl⟩ := trodVars_none hV
  obtain ⟨a0, rfl, rfl, rfl, w0⟩ := open_int Try.underlying3 (hval 0 3 v0 rfl rfl) h0
  clear hA0 hval0
  refine (opcodeBits_walk a0 w0 W).mono fun e W' ⟨he, bel⟩ => ?_
  subst he
  exact ⟨_, rfl, _, _, _, [], _, [], hW', trodAll_mk1 (shut_bool Try.underlying4 _), (trodAll_cons_mk (shut_int Try.underlying3 w0) trodAll_mk0), rfl, bel.frame _, fun h => by cases h⟩

theorem opcodeBits_over : Rows.opcodeBitsRow.holds Try.pinned (OpenSpec.ofChange Rows.opcodeBitsSpec) :=
  OpenClaim.holds_of_wide 5 Try.f5 rfl rfl rfl rfl rfl rfl rfl ⟨rfl, rfl, rfl, rfl, rfl⟩ rfl rfl rfl rfl rfl (by kernel_rfl) Try.func5 (by kernel_rfl)
    (of_decide_eq_true (by kernel_rfl)) (by unfold Func.isWrapper; first | (rw [if_pos (by decide +kernel)]; kernel_rfl) | (rw [if_neg (by decide +kernel)]; exact ⟨rfl, rfl⟩))
    (fun os started H enc _ => opcodeBits_lifted os started H enc)

theorem opcodeBits_holds : Rows.OpcodeBitsSaid := opcodeBits_over
#print axioms opcodeBits_holds
end Go.Proofs.Ytgenckilinmdoaa
