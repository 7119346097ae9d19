/- Texts put together. -/
import Derived.Test.YtkpcpjneeinkdaaGreatDoorCpuBranchesJ40
import Derived.Test.YtkpcpjneeinkdaaGreatDoorCpuBranchesJ32
import Derived.Test.YtkpcpjneeinkdaaGreatDoorRows
import Derived.Test.YtkpcpjneeinkdaaGreatDoorCpuBranchesJ01
import Derived.ChangeSame
import Derived.ChangeVars
import Derived.JoinedOf
import Derived.RowKit
import Derived.RowKitTokens
import Derived.LaidLaws
import Derived.LaidHandle
import Derived.Stop.Joined
import Derived.Laws.Rows
import Derived.Laws.Tables
namespace Go.Proofs.YtkpcpjneeinkdaaGreatDoor.L25
open Go.Proofs.YtkpcpjneeinkdaaGreatDoor.A2 Go.Proofs.YtkpcpjneeinkdaaGreatDoor.B4 Go.Proofs.YtkpcpjneeinkdaaGreatDoor.C3 Go.Proofs.YtkpcpjneeinkdaaGreatDoor.G6 Go.Proofs.YtkpcpjneeinkdaaGreatDoor.I11 Go.Proofs.YtkpcpjneeinkdaaGreatDoor.J23 Go.Proofs.YtkpcpjneeinkdaaGreatDoor.K9 Go.Proofs.YtkpcpjneeinkdaaGreatDoor.L24 Go.Proofs.YtkpcpjneeinkdaaGreatDoor.M5 Go.Proofs.YtkpcpjneeinkdaaGreatDoor.N8 Go.Proofs.YtkpcpjneeinkdaaGreatDoor.O7 Go.Proofs.YtkpcpjneeinkdaaGreatDoor.P22 Go.Proofs.YtkpcpjneeinkdaaGreatDoor.R15 Go.Proofs.YtkpcpjneeinkdaaGreatDoor.T10 Go.Proofs.YtkpcpjneeinkdaaGreatDoor.V12 Go.Proofs.YtkpcpjneeinkdaaGreatDoor.W13
open Go.RowKit
set_option linter.unusedVariables false
set_option maxHeartbeats 1000000 in
theorem flag_BPL {w : World} {s b v c d : Nat} {bs : List Int} {nm : ByteArray} {I B : Nat → Int} {t : Bool} {Z : Nat → Nat → Int} (h : HasQ w s b v c d bs nm I B t Z) (nn : ByteArray) (j0 : (nn.toList == [66, 80, 76]) = true) : Calls Tryz.prog 57 #[.pointer (some ⟨s, 0, none⟩), .string nn] w fun e w' => e = Ending.returned (.tuple #[]) ∧ HasQ w' s b v c d bs nm I B t (brS I (hasF (Z 20 4) 128) false Z) ∧ OnlyE (EQ s b v) w w' := by
  have HE := hide h
  have KH := hide (has_is h 128)
  clear h
  set_option maxRecDepth 20000 in
  go_enter Tryz.func57, Tryz.ntmps57
  set_option maxRecDepth 20000 in
  go_wp2_with (first | (go_at_call 39; refine KH.out.mono ?_; rintro e w' ⟨rfl, hw⟩; subst w') | fail)
  refine (branchWhere_is HE.out _ _).mono ?_
  rintro e w1 ⟨rfl, h1, o1⟩
  have H1 := hide h1
  have O1 := hide o1
  clear h1 o1 HE
  set_option maxRecDepth 20000 in
  go_wp2
  refine bodyPost_end (P := Tryz.prog) (fn := Tryz.f57) (results_none rfl _ _ _) (by rfl) ?_
  exact ⟨rfl, H1.out, O1.out⟩
set_option maxHeartbeats 1000000 in
theorem flag_BMI {w : World} {s b v c d : Nat} {bs : List Int} {nm : ByteArray} {I B : Nat → Int} {t : Bool} {Z : Nat → Nat → Int} (h : HasQ w s b v c d bs nm I B t Z) (nn : ByteArray) (j0 : (nn.toList == [66, 80, 76]) = false) (j1 : (nn.toList == [66, 77, 73]) = true) : Calls Tryz.prog 57 #[.pointer (some ⟨s, 0, none⟩), .string nn] w fun e w' => e = Ending.returned (.tuple #[]) ∧ HasQ w' s b v c d bs nm I B t (brS I (hasF (Z 20 4) 128) true Z) ∧ OnlyE (EQ s b v) w w' := by
  have HE := hide h
  have KH := hide (has_is h 128)
  clear h
  set_option maxRecDepth 20000 in
  go_enter Tryz.func57, Tryz.ntmps57
  set_option maxRecDepth 20000 in
  go_wp2_with (first | (go_at_call 39; refine KH.out.mono ?_; rintro e w' ⟨rfl, hw⟩; subst w') | fail)
  refine (branchWhere_is HE.out _ _).mono ?_
  rintro e w1 ⟨rfl, h1, o1⟩
  have H1 := hide h1
  have O1 := hide o1
  clear h1 o1 HE
  set_option maxRecDepth 20000 in
  go_wp2
  refine bodyPost_end (P := Tryz.prog) (fn := Tryz.f57) (results_none rfl _ _ _) (by rfl) ?_
  exact ⟨rfl, H1.out, O1.out⟩
set_option maxHeartbeats 1000000 in
theorem flag_BVC {w : World} {s b v c d : Nat} {bs : List Int} {nm : ByteArray} {I B : Nat → Int} {t : Bool} {Z : Nat → Nat → Int} (h : HasQ w s b v c d bs nm I B t Z) (nn : ByteArray) (j0 : (nn.toList == [66, 80, 76]) = false) (j1 : (nn.toList == [66, 77, 73]) = false) (j2 : (nn.toList == [66, 86, 67]) = true) : Calls Tryz.prog 57 #[.pointer (some ⟨s, 0, none⟩), .string nn] w fun e w' => e = Ending.returned (.tuple #[]) ∧ HasQ w' s b v c d bs nm I B t (brS I (hasF (Z 20 4) 64) false Z) ∧ OnlyE (EQ s b v) w w' := by
  have HE := hide h
  have KH := hide (has_is h 64)
  clear h
  set_option maxRecDepth 20000 in
  go_enter Tryz.func57, Tryz.ntmps57
  set_option maxRecDepth 20000 in
  go_wp2_with (first | (go_at_call 39; refine KH.out.mono ?_; rintro e w' ⟨rfl, hw⟩; subst w') | fail)
  refine (branchWhere_is HE.out _ _).mono ?_
  rintro e w1 ⟨rfl, h1, o1⟩
  have H1 := hide h1
  have O1 := hide o1
  clear h1 o1 HE
  set_option maxRecDepth 20000 in
  go_wp2
  refine bodyPost_end (P := Tryz.prog) (fn := Tryz.f57) (results_none rfl _ _ _) (by rfl) ?_
  exact ⟨rfl, H1.out, O1.out⟩
set_option maxHeartbeats 1000000 in
theorem flag_BVS {w : World} {s b v c d : Nat} {bs : List Int} {nm : ByteArray} {I B : Nat → Int} {t : Bool} {Z : Nat → Nat → Int} (h : HasQ w s b v c d bs nm I B t Z) (nn : ByteArray) (j0 : (nn.toList == [66, 80, 76]) = false) (j1 : (nn.toList == [66, 77, 73]) = false) (j2 : (nn.toList == [66, 86, 67]) = false) (j3 : (nn.toList == [66, 86, 83]) = true) : Calls Tryz.prog 57 #[.pointer (some ⟨s, 0, none⟩), .string nn] w fun e w' => e = Ending.returned (.tuple #[]) ∧ HasQ w' s b v c d bs nm I B t (brS I (hasF (Z 20 4) 64) true Z) ∧ OnlyE (EQ s b v) w w' := by
  have HE := hide h
  have KH := hide (has_is h 64)
  clear h
  set_option maxRecDepth 20000 in
  go_enter Tryz.func57, Tryz.ntmps57
  set_option maxRecDepth 20000 in
  go_wp2_with (first | (go_at_call 39; refine KH.out.mono ?_; rintro e w' ⟨rfl, hw⟩; subst w') | fail)
  refine (branchWhere_is HE.out _ _).mono ?_
  rintro e w1 ⟨rfl, h1, o1⟩
  have H1 := hide h1
  have O1 := hide o1
  clear h1 o1 HE
  set_option maxRecDepth 20000 in
  go_wp2
  refine bodyPost_end (P := Tryz.prog) (fn := Tryz.f57) (results_none rfl _ _ _) (by rfl) ?_
  exact ⟨rfl, H1.out, O1.out⟩
set_option maxHeartbeats 1000000 in
theorem flag_BCC {w : World} {s b v c d : Nat} {bs : List Int} {nm : ByteArray} {I B : Nat → Int} {t : Bool} {Z : Nat → Nat → Int} (h : HasQ w s b v c d bs nm I B t Z) (nn : ByteArray) (j0 : (nn.toList == [66, 80, 76]) = false) (j1 : (nn.toList == [66, 77, 73]) = false) (j2 : (nn.toList == [66, 86, 67]) = false) (j3 : (nn.toList == [66, 86, 83]) = false) (j4 : (nn.toList == [66, 67, 67]) = true) : Calls Tryz.prog 57 #[.pointer (some ⟨s, 0, none⟩), .string nn] w fun e w' => e = Ending.returned (.tuple #[]) ∧ HasQ w' s b v c d bs nm I B t (brS I (hasF (Z 20 4) 1) false Z) ∧ OnlyE (EQ s b v) w w' := by
  have HE := hide h
  have KH := hide (has_is h 1)
  clear h
  set_option maxRecDepth 20000 in
  go_enter Tryz.func57, Tryz.ntmps57
  set_option maxRecDepth 20000 in
  go_wp2_with (first | (go_at_call 39; refine KH.out.mono ?_; rintro e w' ⟨rfl, hw⟩; subst w') | fail)
  refine (branchWhere_is HE.out _ _).mono ?_
  rintro e w1 ⟨rfl, h1, o1⟩
  have H1 := hide h1
  have O1 := hide o1
  clear h1 o1 HE
  set_option maxRecDepth 20000 in
  go_wp2
  refine bodyPost_end (P := Tryz.prog) (fn := Tryz.f57) (results_none rfl _ _ _) (by rfl) ?_
  exact ⟨rfl, H1.out, O1.out⟩
set_option maxHeartbeats 1000000 in
theorem flag_BCS {w : World} {s b v c d : Nat} {bs : List Int} {nm : ByteArray} {I B : Nat → Int} {t : Bool} {Z : Nat → Nat → Int} (h : HasQ w s b v c d bs nm I B t Z) (nn : ByteArray) (j0 : (nn.toList == [66, 80, 76]) = false) (j1 : (nn.toList == [66, 77, 73]) = false) (j2 : (nn.toList == [66, 86, 67]) = false) (j3 : (nn.toList == [66, 86, 83]) = false) (j4 : (nn.toList == [66, 67, 67]) = false) (j5 : (nn.toList == [66, 67, 83]) = true) : Calls Tryz.prog 57 #[.pointer (some ⟨s, 0, none⟩), .string nn] w fun e w' => e = Ending.returned (.tuple #[]) ∧ HasQ w' s b v c d bs nm I B t (brS I (hasF (Z 20 4) 1) true Z) ∧ OnlyE (EQ s b v) w w' := by
  have HE := hide h
  have KH := hide (has_is h 1)
  clear h
  set_option maxRecDepth 20000 in
  go_enter Tryz.func57, Tryz.ntmps57
  set_option maxRecDepth 20000 in
  go_wp2_with (first | (go_at_call 39; refine KH.out.mono ?_; rintro e w' ⟨rfl, hw⟩; subst w') | fail)
  refine (branchWhere_is HE.out _ _).mono ?_
  rintro e w1 ⟨rfl, h1, o1⟩
  have H1 := hide h1
  have O1 := hide o1
  clear h1 o1 HE
  set_option maxRecDepth 20000 in
  go_wp2
  refine bodyPost_end (P := Tryz.prog) (fn := Tryz.f57) (results_none rfl _ _ _) (by rfl) ?_
  exact ⟨rfl, H1.out, O1.out⟩
set_option maxHeartbeats 1000000 in
theorem flag_BNE {w : World} {s b v c d : Nat} {bs : List Int} {nm : ByteArray} {I B : Nat → Int} {t : Bool} {Z : Nat → Nat → Int} (h : HasQ w s b v c d bs nm I B t Z) (nn : ByteArray) (j0 : (nn.toList == [66, 80, 76]) = false) (j1 : (nn.toList == [66, 77, 73]) = false) (j2 : (nn.toList == [66, 86, 67]) = false) (j3 : (nn.toList == [66, 86, 83]) = false) (j4 : (nn.toList == [66, 67, 67]) = false) (j5 : (nn.toList == [66, 67, 83]) = false) (j6 : (nn.toList == [66, 78, 69]) = true) : Calls Tryz.prog 57 #[.pointer (some ⟨s, 0, none⟩), .string nn] w fun e w' => e = Ending.returned (.tuple #[]) ∧ HasQ w' s b v c d bs nm I B t (brS I (hasF (Z 20 4) 2) false Z) ∧ OnlyE (EQ s b v) w w' := by
  have HE := hide h
  have KH := hide (has_is h 2)
  clear h
  set_option maxRecDepth 20000 in
  go_enter Tryz.func57, Tryz.ntmps57
  set_option maxRecDepth 20000 in
  go_wp2_with (first | (go_at_call 39; refine KH.out.mono ?_; rintro e w' ⟨rfl, hw⟩; subst w') | fail)
  refine (branchWhere_is HE.out _ _).mono ?_
  rintro e w1 ⟨rfl, h1, o1⟩
  have H1 := hide h1
  have O1 := hide o1
  clear h1 o1 HE
  set_option maxRecDepth 20000 in
  go_wp2
  refine bodyPost_end (P := Tryz.prog) (fn := Tryz.f57) (results_none rfl _ _ _) (by rfl) ?_
  exact ⟨rfl, H1.out, O1.out⟩
set_option maxHeartbeats 1000000 in
theorem flag_BEQ {w : World} {s b v c d : Nat} {bs : List Int} {nm : ByteArray} {I B : Nat → Int} {t : Bool} {Z : Nat → Nat → Int} (h : HasQ w s b v c d bs nm I B t Z) (nn : ByteArray) (j0 : (nn.toList == [66, 80, 76]) = false) (j1 : (nn.toList == [66, 77, 73]) = false) (j2 : (nn.toList == [66, 86, 67]) = false) (j3 : (nn.toList == [66, 86, 83]) = false) (j4 : (nn.toList == [66, 67, 67]) = false) (j5 : (nn.toList == [66, 67, 83]) = false) (j6 : (nn.toList == [66, 78, 69]) = false) (j7 : (nn.toList == [66, 69, 81]) = true) : Calls Tryz.prog 57 #[.pointer (some ⟨s, 0, none⟩), .string nn] w fun e w' => e = Ending.returned (.tuple #[]) ∧ HasQ w' s b v c d bs nm I B t (brS I (hasF (Z 20 4) 2) true Z) ∧ OnlyE (EQ s b v) w w' := by
  have HE := hide h
  have KH := hide (has_is h 2)
  clear h
  set_option maxRecDepth 20000 in
  go_enter Tryz.func57, Tryz.ntmps57
  set_option maxRecDepth 20000 in
  go_wp2_with (first | (go_at_call 39; refine KH.out.mono ?_; rintro e w' ⟨rfl, hw⟩; subst w') | fail)
  refine (branchWhere_is HE.out _ _).mono ?_
  rintro e w1 ⟨rfl, h1, o1⟩
  have H1 := hide h1
  have O1 := hide o1
  clear h1 o1 HE
  set_option maxRecDepth 20000 in
  go_wp2
  refine bodyPost_end (P := Tryz.prog) (fn := Tryz.f57) (results_none rfl _ _ _) (by rfl) ?_
  exact ⟨rfl, H1.out, O1.out⟩
end Go.Proofs.YtkpcpjneeinkdaaGreatDoor.L25
namespace Go.Proofs.YtkpcpjneeinkdaaGreatDoor.K9
open Go.RowKit
set_option linter.unusedVariables false
theorem under_name {P : Program} {c : Code} {Q : Exit → Act → World → Prop} {a : Act} {w : World} (h : ∀ wa, wa = w → Code.wp P c Q a wa) : Code.wp P c Q a w := h w rfl
end Go.Proofs.YtkpcpjneeinkdaaGreatDoor.K9
namespace Go.Proofs.YtkpcpjneeinkdaaGreatDoor.K9
open Go.ChangeShapes Go.WideShapes Go.RowKit
set_option linter.unusedVariables false
def nameCells : Array Value := #[.string ⟨#[84, 73, 73]⟩, .string ⟨#[84, 68, 68]⟩, .string ⟨#[84, 73, 78]⟩, .string ⟨#[84, 73, 65]⟩, .string ⟨#[84, 65, 73]⟩]
def HasNames (w : World) : Prop := ∃ t fr, w.heap[2]? = some (.cells nameCells t fr)
abbrev laidPaths : List (String × DataW Unit) := [("phosphor/block.paths", Rows.laid_phosphor_block_paths)]
theorem Tryz.gPaths : Tryz.prog.globalNamed "phosphor/block.paths" = some 3 := by kernel_rfl
theorem Tryz.tPaths : (Tryz.prog.globals[3]?).map (·.type) = some 202 := by kernel_rfl
theorem paths_flat : flat Tryz.prog 40 202 Rows.laid_phosphor_block_paths = some pathCells.toList := by kernel_rfl
theorem Tryz.gNames : Tryz.prog.globalNamed "phosphor/block.names" = some 2 := by kernel_rfl
theorem Tryz.tNames : (Tryz.prog.globals[2]?).map (·.type) = some 201 := by kernel_rfl
theorem names_flat : flat Tryz.prog 40 201 Rows.laid_phosphor_block_names = some nameCells.toList := by kernel_rfl
theorem laid_paths {W : World} (h : laidMetH Tryz.prog laidPaths W) : HasPaths W := by
  have h : laidMet Tryz.prog laidPaths W := h
  obtain ⟨ps, ⟨g, t, cs, fuel, p, q, e1, e2, e3, e4, _, _⟩, _⟩ := h
  obtain rfl := Option.some.inj (Tryz.gPaths.symm.trans e1)
  obtain rfl := Option.some.inj (Tryz.tPaths.symm.trans e2)
  have hc := flat_at 40 fuel 202 _ _ _ _ paths_flat e4
  have hc2 : cs = pathCells := Array.toList_inj.1 hc
  subst hc2
  simp only [World.var?, Tryz.gPaths, Option.bind_some] at e3
  split at e3
  · rename_i cs' t' fr hh
    obtain rfl := Option.some.inj e3
    exact ⟨t', fr, hh⟩
  · cases e3
noncomputable def laidWorld (os : Os) : World :=
  let w0 := World.holding Tryz.prog os ⟨#[], #[], []⟩
  { w0 with heap := (w0.heap.modify 3 fun
      | .cells _ t frozen => .cells pathCells t frozen
      | o => o).modify 2 fun
      | .cells _ t frozen => .cells nameCells t frozen
      | o => o }
end Go.Proofs.YtkpcpjneeinkdaaGreatDoor.K9
namespace Go.Proofs.YtkpcpjneeinkdaaGreatDoor.K9
open Go.RowKit
set_option linter.unusedVariables false
theorem toList_eq {s y : ByteArray} (h : s.toList = y.toList) : s = y := by
  obtain ⟨⟨a⟩⟩ := s
  obtain ⟨⟨b⟩⟩ := y
  have k : (ByteArray.mk a.toArray).toList = (ByteArray.mk b.toArray).toList := h
  rw [ByteArray.toList_mk, ByteArray.toList_mk] at k
  rw [k]
theorem HasNames.pos {w : World} (h : HasNames w) : 2 < w.heap.size := by
  obtain ⟨t, fr, e⟩ := h
  exact lt_block e
theorem HasNames.next {w w' : World} (h : HasNames w) (b : Below w.heap.size w w') : HasNames w' := by
  have hp := h.pos
  obtain ⟨t, fr, e⟩ := h
  exact ⟨t, fr, (b.block 2 hp).trans e⟩
end Go.Proofs.YtkpcpjneeinkdaaGreatDoor.K9
