/- Texts put together. -/
import Derived.Test.YtoijhhbiknhlnaaGreatDoorCpuCallsJ35
import Derived.Test.YtoijhhbiknhlnaaGreatDoorCpuCallsJ36
import Derived.Deep.CutBlock
import Derived.Test.YtoijhhbiknhlnaaGreatDoorCpuCallsJ29
import Derived.Test.YtoijhhbiknhlnaaGreatDoorRows
import Derived.Test.YtoijhhbiknhlnaaGreatDoorCpuCallsJ01
import Derived.ChangeSame
import Derived.ChangeVars
import Derived.JoinedOf
import Derived.RowKit
import Derived.RowKitTokens
import Derived.LaidLaws
import Derived.LaidHandle
import Derived.Stop.Joined
import Derived.Laws.Rows
import Derived.Laws.Tables
namespace Go.Proofs.YtoijhhbiknhlnaaGreatDoor.L25
set_option maxRecDepth 20000
open A2 B4 C3 G6 I11 J23 K9 L24 M5 N8 O7 P22 R15 T10 V12 W13
open Go.RowKit
set_option linter.unusedVariables false
def rgOf (l : Int) : Nat := if l = 88 then 1 else if l = 89 then 2 else if l = 83 then 3 else 0
theorem rgOf_lt (l : Int) : rgOf l < 5 ∧ ¬ rgOf l = 4 ∧ rgOf l < 6 := by
  unfold rgOf
  repeat' split
  all_goals omega
theorem register_is (s : Nat) (l : Int) (w : World) : Calls Tryz.prog 44 #[.pointer (some ⟨s, 0, none⟩), .int .u8 l] w fun e w' => e = Ending.returned (.pointer (some ⟨s, rgOf l, none⟩)) ∧ w' = w := by
  by_cases h1 : l = 88
  · subst h1
    go_enter Tryz.func44, Tryz.ntmps44
    go_wp2
    go_ret
    exact ⟨rfl, rfl⟩
  by_cases h2 : l = 89
  · subst h2
    go_enter Tryz.func44, Tryz.ntmps44
    go_wp2
    go_ret
    exact ⟨rfl, rfl⟩
  by_cases h3 : l = 83
  · subst h3
    go_enter Tryz.func44, Tryz.ntmps44
    go_wp2
    go_ret
    exact ⟨rfl, rfl⟩
  rw [show rgOf l = 0 by unfold rgOf; rw [if_neg h1, if_neg h2, if_neg h3]]
  go_enter Tryz.func44, Tryz.ntmps44
  go_wp2
  go_ret
  exact ⟨rfl, rfl⟩
theorem nz_in (p x : Int) : IsByte (nzOf p x) := nzOf_byte p x
def ldS (Z : Nat → Nat → Int) (k : Nat) (x : Int) : Nat → Nat → Int := setR (setR Z k x) 4 (nzOf (Z 20 4) x)
theorem load_is {w : World} {s b v c d : Nat} {bs : List Int} {nm : ByteArray} {I B : Nat → Int} {t : Bool} {Z : Nat → Nat → Int} (h : HasQ w s b v c d bs nm I B t Z) (k : Nat) (hk : k < 5) (k4 : ¬ k = 4) (x : Int) (hx : IsByte x) : Calls Tryz.prog 43 #[.pointer (some ⟨s, 0, none⟩), .pointer (some ⟨s, k, none⟩), .int .i64 x] w fun e w' => e = Ending.returned (.tuple #[]) ∧ HasQ w' s b v c d bs nm I B t (ldS Z k x) ∧ OnlyE (EQ s b v) w w' := by
  have ck := h.reg k (by omega)
  have zk := h.frz k
  have h1 := h.putR k (by omega) x (gz_up (h.good 20) k hk _ hx.1 hx.2)
  have c4 : (w.setCell ⟨s, k, none⟩ (.int .i64 x)).cell? ⟨s, 4, none⟩ = some (.int .i64 (Z 20 4)) := by
    have q := h1.reg 4 (by decide)
    rw [setR_20, up_other _ _ _ _ (fun e => k4 e.symm)] at q
    exact q
  have z4 := h1.frz 4
  have n4 := nz_in (Z 20 4) x
  have H2 := hide (h1.putR 4 (by decide) (nzOf (Z 20 4) x) (gz_up (h1.good 20) 4 (by decide) _ n4.1 n4.2))
  have O2 := hide (eq_set (eq_set (eq_of (s := s) (b := b) (v := v) (Below.refl _ w)) k (.int .i64 x)) 4 (.int .i64 (nzOf (Z 20 4) x)))
  clear h h1 n4 hx
  go_enter Tryz.func43, Tryz.ntmps43
  go_wp2_with (first | (go_at_call 93; refine (nz_any _ _ _).mono ?_; rintro e w' ⟨rfl, rfl⟩))
  go_end0
  exact ⟨rfl, H2.out, O2.out⟩
def mV (bs : List Int) (I : Nat → Int) (Z : Nat → Nat → Int) : Int := if I 0 = 2 then I 3 else if I 0 = 1 then Z 20 0 else rV bs Z (I 6)
def mS (I : Nat → Int) (Z : Nat → Nat → Int) : Nat → Nat → Int := if I 0 = 2 then Z else if I 0 = 1 then Z else rS Z (I 6)
theorem m_is {w : World} {s b v c d : Nat} {bs : List Int} {nm : ByteArray} {I B : Nat → Int} {t : Bool} {Z : Nat → Nat → Int} (h : HasQ w s b v c d bs nm I B t Z) : Calls Tryz.prog 45 #[.pointer (some ⟨s, 0, none⟩)] w fun e w' => e = Ending.returned (.int .i64 (mV bs I Z)) ∧ HasQ w' s b v c d bs nm I B t (mS I Z) ∧ OnlyE (EQ s b v) w w' := by
  have HE := hide h
  have c11 := h.mode
  unfold mV mS
  by_cases h2 : I 0 = 2
  · rw [if_pos h2, if_pos h2]
    rw [h2] at c11
    have c20 := h.oper
    clear h h2
    go_enter Tryz.func45, Tryz.ntmps45
    go_wp2
    go_ret
    exact ⟨rfl, HE.out, eq_of (Below.refl _ _)⟩
  by_cases h1 : I 0 = 1
  · rw [if_neg h2, if_pos h1, if_neg h2, if_pos h1]
    rw [h1] at c11
    have c0 := h.reg 0 (by decide)
    clear h h1 h2
    go_enter Tryz.func45, Tryz.ntmps45
    go_wp2
    go_ret
    exact ⟨rfl, HE.out, eq_of (Below.refl _ _)⟩
  · rw [if_neg h2, if_neg h1, if_neg h2, if_neg h1]
    have c23 := h.plac
    clear h
    go_enter Tryz.func45, Tryz.ntmps45
    go_wp2_with fail
    refine (read_is HE.out (I 6)).mono ?_
    rintro e w1 ⟨rfl, h1', o1⟩
    have H1 := hide h1'
    have O1 := hide o1
    clear h1' o1 HE
    go_wp2
    go_ret
    exact ⟨rfl, H1.out, O1.out⟩
theorem mV_in {w : World} {s b v c d : Nat} {bs : List Int} {nm : ByteArray} {I B : Nat → Int} {t : Bool} {Z : Nat → Nat → Int} (h : HasQ w s b v c d bs nm I B t Z) (ho : I 0 = 2 → IsByte (I 3)) : IsByte (mV bs I Z) := by
  unfold mV
  split
  · rename_i e; exact ho e
  split
  · exact gz_reg h.good 0 (by decide)
  · exact rV_in h _
def rkV (op a m p : Int) : Int := (doOf op (a % 256) (m % 256) (p % 256)).1
def rkP (op a m p : Int) : Int := (doOf op (a % 256) (m % 256) (p % 256)).2
def rkS (Z : Nat → Nat → Int) (op a m : Int) : Nat → Nat → Int := setR Z 4 (rkP op a m (Z 20 4))
end Go.Proofs.YtoijhhbiknhlnaaGreatDoor.L25
namespace Go.Proofs.YtoijhhbiknhlnaaGreatDoor.L25
set_option maxRecDepth 20000
open A2 B4 C3 G6 I11 J23 K9 L24 M5 N8 O7 P22 R15 T10 V12 W13
open Go.RowKit
set_option linter.unusedVariables false
theorem str_is {a : ByteArray} {l : List UInt8} {r : Bool} (h : (a.data.toList == l) = r) : (a.toList == l) = r := by
  rw [ByteArray.toList_eq]
  exact h
end Go.Proofs.YtoijhhbiknhlnaaGreatDoor.L25
namespace Go.Proofs.YtoijhhbiknhlnaaGreatDoor.L25
set_option maxRecDepth 20000
open A2 B4 C3 G6 I11 J23 K9 L24 M5 N8 O7 P22 R15 T10 V12 W13
open Go.RowKit
set_option linter.unusedVariables false
def jsS (I : Nat → Int) (Z : Nat → Nat → Int) : Nat → Nat → Int := setR (pwS Z (Z 20 5 - 1)) 5 (I 6)
set_option maxHeartbeats 1000000 in
theorem jump_JSR {w : World} {s b v c d : Nat} {bs : List Int} {nm : ByteArray} {I B : Nat → Int} {t : Bool} {Z : Nat → Nat → Int} (h : HasQ w s b v c d bs nm I B t Z) (nn : ByteArray) (j0 : (nn.toList == [66, 82, 65]) = false) (j1 : (nn.toList == [74, 77, 80]) = false) (j2 : (nn.toList == [74, 83, 82]) = true) (hp : 0 ≤ I 6 ∧ I 6 < 65536) : Calls Tryz.prog 58 #[.pointer (some ⟨s, 0, none⟩), .string nn] w fun e w' => e = Ending.returned (.tuple #[]) ∧ HasQ w' s b v c d bs nm I B t (jsS I Z) ∧ OnlyE (EQ s b v) w w' := by
  have HP := hide hp
  clear hp
  have HE := hide h
  have c5 := h.reg 5 (by decide)
  have r5 := gz_pc h.good
  clear h
  go_enter Tryz.func58, Tryz.ntmps58
  go_wp2_with fail
  refine (pushWord_is HE.out (Z 20 5 - 1)).mono ?_
  rintro e w1 ⟨rfl, h1, o1⟩
  have c23 := h1.plac
  have c5 := h1.reg 5 (by decide)
  have z5 := h1.frz 5
  have H1 := hide (h1.putR 5 (by decide) (I 6) (gz_up5 (h1.good 20) _ HP.out.1 HP.out.2))
  have O1 := hide (eq_set o1 5 (.int .i64 (I 6)))
  clear h1 o1 HE
  go_wp2
  refine bodyPost_end (P := Tryz.prog) (fn := Tryz.f58) (results_none rfl _ _ _) (by rfl) ?_
  exact ⟨rfl, H1.out, O1.out⟩
def rsS (bs : List Int) (Z : Nat → Nat → Int) : Nat → Nat → Int := setR (plS (plS Z)) 5 ((plW bs Z + 1) % 65536)
set_option maxHeartbeats 1000000 in
theorem jump_RTS {w : World} {s b v c d : Nat} {bs : List Int} {nm : ByteArray} {I B : Nat → Int} {t : Bool} {Z : Nat → Nat → Int} (h : HasQ w s b v c d bs nm I B t Z) (nn : ByteArray) (j0 : (nn.toList == [66, 82, 65]) = false) (j1 : (nn.toList == [74, 77, 80]) = false) (j2 : (nn.toList == [74, 83, 82]) = false) (j3 : (nn.toList == [66, 83, 82]) = false) (j4 : (nn.toList == [82, 84, 83]) = true) : Calls Tryz.prog 58 #[.pointer (some ⟨s, 0, none⟩), .string nn] w fun e w' => e = Ending.returned (.tuple #[]) ∧ HasQ w' s b v c d bs nm I B t (rsS bs Z) ∧ OnlyE (EQ s b v) w w' := by
  have HE := hide h
  have JI := jn_in (plV bs Z) (plV bs (plS Z))
  clear h
  go_enter Tryz.func58, Tryz.ntmps58
  go_wp2_with fail
  refine (pullWord_is HE.out).mono ?_
  rintro e w1 ⟨rfl, h1, o1⟩
  have j1 : 0 ≤ plW bs Z ∧ plW bs Z < 65536 := JI
  have c5 := h1.reg 5 (by decide)
  have z5 := h1.frz 5
  have H1 := hide (h1.putR 5 (by decide) ((plW bs Z + 1) % 65536) (gz_up5 (h1.good 20) _ (by omega) (by omega)))
  have O1 := hide (eq_set o1 5 (.int .i64 ((plW bs Z + 1) % 65536)))
  clear h1 o1 HE JI
  go_wp2_with (first | (go_at_call 33; refine (word_any _ _).mono ?_; rintro e w' ⟨rfl, rfl⟩))
  refine bodyPost_end (P := Tryz.prog) (fn := Tryz.f58) (results_none rfl _ _ _) (by rfl) ?_
  exact ⟨rfl, H1.out, O1.out⟩
theorem plZ_good {Z : Nat → Nat → Int} (h : ∀ k, GZ k (Z k)) : ∀ k, GZ k (plZ Z k) := good_up h 20 _ (gz_up (h 20) 3 (by decide) _ (by omega) (by omega))
theorem plV_in {w : World} {s b v c d : Nat} {bs : List Int} {nm : ByteArray} {I B : Nat → Int} {t : Bool} {Z : Nat → Nat → Int} (h : HasQ w s b v c d bs nm I B t Z) : IsByte (plV bs Z) := rdV_in (plZ_good h.good) h.bytes _
set_option maxHeartbeats 1000000 in
theorem stack_PLA {w : World} {s b v c d : Nat} {bs : List Int} {nm : ByteArray} {I B : Nat → Int} {t : Bool} {Z : Nat → Nat → Int} (h : HasQ w s b v c d bs nm I B t Z) (nn : ByteArray) (j0 : (nn.toList == [80, 72, 80]) = false) (j1 : (nn.toList == [80, 76, 80]) = false) (j2 : (nn.toList == [80, 76, 65]) = true) (hz : 2 < nn.size) (lu : UInt8) (hl : nn[2] = lu) : Calls Tryz.prog 59 #[.pointer (some ⟨s, 0, none⟩), .string nn] w fun e w' => e = Ending.returned (.tuple #[]) ∧ HasQ w' s b v c d bs nm I B t (ldS (plS Z) (rgOf (lu.toNat : Int)) (plV bs Z)) ∧ OnlyE (EQ s b v) w w' := by
  have HE := hide h
  have PI := hide (plV_in h)
  have KR := hide (fun w => register_is s (lu.toNat : Int) w)
  have RL := hide (rgOf_lt (lu.toNat : Int))
  generalize hk : rgOf (lu.toNat : Int) = k at *
  clear h hk
  go_enter Tryz.func59, Tryz.ntmps59
  go_wp2_with (first | (go_at_call 44; refine (KR.out _).mono ?_; rintro e w' ⟨rfl, hw⟩; subst w') | fail)
  refine (pull_is HE.out).mono ?_
  rintro e w1 ⟨rfl, h1, o1⟩
  have H1 := hide h1
  have O1 := hide o1
  clear h1 o1 HE
  go_wp2_with fail
  refine (load_is H1.out k RL.out.1 RL.out.2.1 (plV bs Z) PI.out).mono ?_
  rintro e w2 ⟨rfl, h2, o2⟩
  have H2 := hide h2
  have O2 := hide (O1.out.trans o2)
  clear h2 o2 H1 O1
  go_wp2
  refine bodyPost_end (P := Tryz.prog) (fn := Tryz.f59) (results_none rfl _ _ _) (by rfl) ?_
  exact ⟨rfl, H2.out, O2.out⟩
set_option maxHeartbeats 1000000 in
theorem stack_PLX {w : World} {s b v c d : Nat} {bs : List Int} {nm : ByteArray} {I B : Nat → Int} {t : Bool} {Z : Nat → Nat → Int} (h : HasQ w s b v c d bs nm I B t Z) (nn : ByteArray) (j0 : (nn.toList == [80, 72, 80]) = false) (j1 : (nn.toList == [80, 76, 80]) = false) (j2 : (nn.toList == [80, 76, 65]) = false) (j3 : (nn.toList == [80, 76, 88]) = true) (hz : 2 < nn.size) (lu : UInt8) (hl : nn[2] = lu) : Calls Tryz.prog 59 #[.pointer (some ⟨s, 0, none⟩), .string nn] w fun e w' => e = Ending.returned (.tuple #[]) ∧ HasQ w' s b v c d bs nm I B t (ldS (plS Z) (rgOf (lu.toNat : Int)) (plV bs Z)) ∧ OnlyE (EQ s b v) w w' := by
  have HE := hide h
  have PI := hide (plV_in h)
  have KR := hide (fun w => register_is s (lu.toNat : Int) w)
  have RL := hide (rgOf_lt (lu.toNat : Int))
  generalize hk : rgOf (lu.toNat : Int) = k at *
  clear h hk
  go_enter Tryz.func59, Tryz.ntmps59
  go_wp2_with (first | (go_at_call 44; refine (KR.out _).mono ?_; rintro e w' ⟨rfl, hw⟩; subst w') | fail)
  refine (pull_is HE.out).mono ?_
  rintro e w1 ⟨rfl, h1, o1⟩
  have H1 := hide h1
  have O1 := hide o1
  clear h1 o1 HE
  go_wp2_with fail
  refine (load_is H1.out k RL.out.1 RL.out.2.1 (plV bs Z) PI.out).mono ?_
  rintro e w2 ⟨rfl, h2, o2⟩
  have H2 := hide h2
  have O2 := hide (O1.out.trans o2)
  clear h2 o2 H1 O1
  go_wp2
  refine bodyPost_end (P := Tryz.prog) (fn := Tryz.f59) (results_none rfl _ _ _) (by rfl) ?_
  exact ⟨rfl, H2.out, O2.out⟩
set_option maxHeartbeats 1000000 in
theorem stack_push {w : World} {s b v c d : Nat} {bs : List Int} {nm : ByteArray} {I B : Nat → Int} {t : Bool} {Z : Nat → Nat → Int} (h : HasQ w s b v c d bs nm I B t Z) (nn : ByteArray) (j0 : (nn.toList == [80, 72, 80]) = false) (j1 : (nn.toList == [80, 76, 80]) = false) (j2 : (nn.toList == [80, 76, 65]) = false) (j3 : (nn.toList == [80, 76, 88]) = false) (j4 : (nn.toList == [80, 76, 89]) = false) (hz : 2 < nn.size) (lu : UInt8) (hl : nn[2] = lu) : Calls Tryz.prog 59 #[.pointer (some ⟨s, 0, none⟩), .string nn] w fun e w' => e = Ending.returned (.tuple #[]) ∧ HasQ w' s b v c d bs nm I B t (psS Z (Z 20 (rgOf (lu.toNat : Int)))) ∧ OnlyE (EQ s b v) w w' := by
  have HE := hide h
  have KR := hide (fun w => register_is s (lu.toNat : Int) w)
  have ck := h.reg (rgOf (lu.toNat : Int)) (rgOf_lt _).2.2
  generalize rgOf (lu.toNat : Int) = k at *
  clear h
  go_enter Tryz.func59, Tryz.ntmps59
  go_wp2_with (first | (go_at_call 44; refine (KR.out _).mono ?_; rintro e w' ⟨rfl, hw⟩; subst w') | fail)
  refine (push_is HE.out (Z 20 k)).mono ?_
  rintro e w1 ⟨rfl, h1, o1⟩
  have H1 := hide h1
  have O1 := hide o1
  clear h1 o1 HE
  go_wp2
  refine bodyPost_end (P := Tryz.prog) (fn := Tryz.f59) (results_none rfl _ _ _) (by rfl) ?_
  exact ⟨rfl, H1.out, O1.out⟩
end Go.Proofs.YtoijhhbiknhlnaaGreatDoor.L25
namespace Go.Proofs.YtoijhhbiknhlnaaGreatDoor.K9
set_option maxRecDepth 20000
open Go.RowKit
set_option linter.unusedVariables false
theorem under_name {P : Program} {c : Code} {Q : Exit → Act → World → Prop} {a : Act} {w : World} (h : ∀ wa, wa = w → Code.wp P c Q a wa) : Code.wp P c Q a w := h w rfl
end Go.Proofs.YtoijhhbiknhlnaaGreatDoor.K9
namespace Go.Proofs.YtoijhhbiknhlnaaGreatDoor.K9
set_option maxRecDepth 20000
open Go.ChangeShapes Go.WideShapes Go.RowKit
set_option linter.unusedVariables false
def nameCells : Array Value := #[.string ⟨#[84, 73, 73]⟩, .string ⟨#[84, 68, 68]⟩, .string ⟨#[84, 73, 78]⟩, .string ⟨#[84, 73, 65]⟩, .string ⟨#[84, 65, 73]⟩]
abbrev laidPaths : List (String × DataW Unit) := [("phosphor/block.paths", Rows.laid_phosphor_block_paths)]
theorem Tryz.gPaths : Tryz.prog.globalNamed "phosphor/block.paths" = some 3 := by kernel_rfl
theorem Tryz.tPaths : (Tryz.prog.globals[3]?).map (·.type) = some 202 := by kernel_rfl
theorem paths_flat : flat Tryz.prog 40 202 Rows.laid_phosphor_block_paths = some pathCells.toList := by kernel_rfl
theorem Tryz.gNames : Tryz.prog.globalNamed "phosphor/block.names" = some 2 := by kernel_rfl
theorem Tryz.tNames : (Tryz.prog.globals[2]?).map (·.type) = some 201 := by kernel_rfl
theorem names_flat : flat Tryz.prog 40 201 Rows.laid_phosphor_block_names = some nameCells.toList := by kernel_rfl
theorem laid_paths {W : World} (h : laidMetH Tryz.prog laidPaths W) : HasPaths W := by
  have h : laidMet Tryz.prog laidPaths W := h
  obtain ⟨ps, ⟨g, t, cs, fuel, p, q, e1, e2, e3, e4, _, _⟩, _⟩ := h
  obtain rfl := Option.some.inj (Tryz.gPaths.symm.trans e1)
  obtain rfl := Option.some.inj (Tryz.tPaths.symm.trans e2)
  have hc := flat_at 40 fuel 202 _ _ _ _ paths_flat e4
  have hc2 : cs = pathCells := Array.toList_inj.1 hc
  subst hc2
  simp only [World.var?, Tryz.gPaths, Option.bind_some] at e3
  split at e3
  · rename_i cs' t' fr hh
    obtain rfl := Option.some.inj e3
    exact ⟨t', fr, hh⟩
  · cases e3
noncomputable def laidWorld (os : Os) : World :=
  let w0 := World.holding Tryz.prog os ⟨#[], #[], []⟩
  { w0 with heap := (w0.heap.modify 3 fun
      | .cells _ t frozen => .cells pathCells t frozen
      | o => o).modify 2 fun
      | .cells _ t frozen => .cells nameCells t frozen
      | o => o }
end Go.Proofs.YtoijhhbiknhlnaaGreatDoor.K9
namespace Go.Proofs.YtoijhhbiknhlnaaGreatDoor.K9
set_option maxRecDepth 20000
open Go.RowKit
set_option linter.unusedVariables false
theorem toList_eq {s y : ByteArray} (h : s.toList = y.toList) : s = y := by
  obtain ⟨⟨a⟩⟩ := s
  obtain ⟨⟨b⟩⟩ := y
  have k : (ByteArray.mk a.toArray).toList = (ByteArray.mk b.toArray).toList := h
  rw [ByteArray.toList_mk, ByteArray.toList_mk] at k
  rw [k]
end Go.Proofs.YtoijhhbiknhlnaaGreatDoor.K9
