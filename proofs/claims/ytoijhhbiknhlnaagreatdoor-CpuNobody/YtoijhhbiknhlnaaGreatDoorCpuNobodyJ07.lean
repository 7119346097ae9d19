/- A machine as New makes it: a composite of 9263 cells, by its parts, never cell by cell. -/
import Derived.Test.YtoijhhbiknhlnaaGreatDoorCpuNobodyJ02
import Derived.Test.YtoijhhbiknhlnaaGreatDoorRows
import Derived.Test.YtoijhhbiknhlnaaGreatDoorCpuNobodyJ01
import Derived.WalkKit
import Derived.ProofKit
import Derived.Deep.QuietTactic
import Derived.BigQuiet
import Derived.Test.YtoijhhbiknhlnaaGreatDoorCpuNobodyJ03
import Derived.Test.YtoijhhbiknhlnaaGreatDoorCpuNobodyJ04
import Derived.Test.YtoijhhbiknhlnaaGreatDoorCpuNobodyJ05
import Derived.Test.YtoijhhbiknhlnaaGreatDoorCpuNobodyJ06
namespace Go.Proofs.YtoijhhbiknhlnaaGreatDoor.L24
set_option maxRecDepth 20000
open C3 G6 R15 W13
open Go.RowKit
set_option linter.unusedVariables false
def pl : List (Nat × (Nat → Value)) → List Value
  | [] => []
  | (n, f) :: r => (List.range n).map f ++ pl r
def psum : List (Nat × (Nat → Value)) → Nat
  | [] => 0
  | (n, _) :: r => n + psum r
theorem pl_segs : ∀ L : List (Nat × (Nat → Value)), (List.range (psum L)).map (segs L) = pl L
  | [] => rfl
  | (n, f) :: r => by
    show (List.range (n + psum r)).map (segs ((n, f) :: r)) = (List.range n).map f ++ pl r
    rw [List.range_add, List.map_append, List.map_map, ← pl_segs r]
    congr 1
    · apply List.map_congr_left
      intro j hj
      rw [segs_cons, if_pos (List.mem_range.1 hj)]
    · apply List.map_congr_left
      intro j _
      show segs ((n, f) :: r) (n + j) = segs r j
      rw [segs_cons, if_neg (by omega), show n + j - n = j by omega]
theorem pl_row (L : List (Nat × (Nat → Value))) {N : Nat} (h : psum L = N) : rowF (segs L) N = (pl L).toArray := by
  subst h
  apply Array.toList_inj.1
  rw [rowF_list, ← pl_segs]
def sameV : Value → Value → Bool
  | .int .i64 a, .int .i64 b => decide (a = b)
  | .int .u8 a, .int .u8 b => decide (a = b)
  | .bool a, .bool b => a == b
  | .pointer none, .pointer none => true
  | _, _ => false
theorem sameV_eq {a b : Value} (h : sameV a b = true) : b = a := by
  unfold sameV at h
  split at h
  · rw [of_decide_eq_true h]
  · rw [of_decide_eq_true h]
  · rw [eq_of_beq h]
  · rfl
  · cases h
def partB : Nat → Nat → (Nat → Value) → List Value → Option (List Value)
  | 0, _, _, xs => some xs
  | n + 1, i, f, x :: xs => match sameV (f i) x with | true => partB n (i + 1) f xs | false => none
  | _ + 1, _, _, [] => none
theorem partB_eq : ∀ (n i : Nat) (f : Nat → Value) (xs ys : List Value), partB n i f xs = some ys → xs = (List.range' i n).map f ++ ys
  | 0, i, f, xs, ys, h => by
    obtain rfl : xs = ys := by simpa [partB] using h
    rfl
  | n + 1, i, f, [], ys, h => by simp [partB] at h
  | n + 1, i, f, x :: xs, ys, h => by
    unfold partB at h
    split at h
    · rename_i e
      rw [sameV_eq e, partB_eq n (i + 1) f xs ys h, List.range'_succ]
      rfl
    · cases h
def chkB : List (Nat × (Nat → Value)) → List Value → Bool
  | [], [] => true
  | [], _ :: _ => false
  | (n, f) :: r, xs => match partB n 0 f xs with | some ys => chkB r ys | none => false
theorem chkB_eq : ∀ (L : List (Nat × (Nat → Value))) (xs : List Value), chkB L xs = true → xs = pl L
  | [], [], _ => rfl
  | [], x :: xs, h => by simp [chkB] at h
  | (n, f) :: r, xs, h => by
    unfold chkB at h
    split at h
    · rename_i ys e
      rw [partB_eq n 0 f xs ys e, chkB_eq r ys h, ← List.range_eq_range']
      rfl
    · cases h
def isZeroB (L : List (Nat × (Nat → Value))) : Option Value → Bool | some (.agg ⟨xs⟩) => chkB L xs | _ => false
theorem isZeroB_eq {L : List (Nat × (Nat → Value))} {v : Option Value} (h : isZeroB L v = true) : v = some (.agg (pl L).toArray) := by
  unfold isZeroB at h
  split at h
  · rw [chkB_eq _ _ h]
  · cases h
def t0C : Nat → Value := fun j => if j = 2 then .bool false else .int .i64 0
def p0C : Nat → Value := fun j => if j < 3 then .bool false else .int .i64 0
def a0C : Nat → Value := fun j => if j % 2 = 0 then .int .i64 0 else .bool false
def LR (cp : Value) (fl ps : Nat → Int) (hd : Int) : List (Nat × (Nat → Value)) :=
  [(1, fun _ => cp), (1, fun _ => .int .i64 0), (8192, fun _ => .int .u8 0), (8, iv fl), (514, iv fun _ => 0), (244, iv ps), (4, t0C), (2, iv fun _ => 0), (4, p0C), (10, a0C), (1, fun _ => .int .i64 hd), (1, fun _ => .int .i64 0)]
def LVp (vp : Value) : List (Nat × (Nat → Value)) := [(21, iv fun _ => 0), (1, fun _ => vp), (256, iv fun _ => 0), (1, fun _ => .int .i64 0), (1, fun _ => .bool false), (1, fun _ => .bool false)]
def L0 : List (Nat × (Nat → Value)) := LVp (.pointer none) ++ LR (.pointer none) (fun _ => 0) (fun _ => 0) 0
theorem zeroB_is : Tryz.t55.zero = some (.agg (pl L0).toArray) := isZeroB_eq (by kernel_rfl)
set_option maxRecDepth 100000 in
theorem builtB_of (parts : List (Nat × Value)) : Tryz.prog.built 55 parts = Instr.fill (fun i => #[(0, 281), (281, 1), (282, 1), (283, 8192), (8475, 8), (8483, 514), (8997, 244), (9241, 4), (9245, 2), (9247, 4), (9251, 10), (9261, 1), (9262, 1)][i]?) (pl L0).toArray parts := by
  have h1 : Tryz.prog.info? 55 = some Tryz.t55 := by kernel_rfl
  unfold Program.built
  simp only [h1, Tryz.underlying55, zeroB_is]
  rfl
theorem fill_nil (p : Nat → Option (Nat × Nat)) (c : Array Value) : Instr.fill p c [] = some c := by rw [Instr.fill]
end Go.Proofs.YtoijhhbiknhlnaaGreatDoor.L24
