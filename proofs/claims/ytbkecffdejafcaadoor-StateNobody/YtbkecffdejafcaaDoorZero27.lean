/- A machine that no call made: its zero value, by its parts; a plain sound and a plain mapping. -/
import Derived.Test.YtbkecffdejafcaaDoorSegs24
import Derived.Test.YtbkecffdejafcaaDoorArrayEq
import Derived.Test.YtbkecffdejafcaaDoorRows
namespace Go.Proofs.YtbkecffdejafcaaDoor
open Go.RowKit
set_option linter.unusedVariables false

/-- The parts' cells, one behind the other. -/
def pl : List (Nat × (Nat → Value)) → List Value
  | [] => []
  | (n, f) :: r => (List.range n).map f ++ pl r
theorem pl_app : ∀ A B, pl (A ++ B) = pl A ++ pl B
  | [], B => rfl
  | (n, f) :: r, B => by
    show (List.range n).map f ++ pl (r ++ B) = ((List.range n).map f ++ pl r) ++ pl B
    rw [pl_app r B, List.append_assoc]
def psum : List (Nat × (Nat → Value)) → Nat
  | [] => 0
  | (n, _) :: r => n + psum r
theorem pl_segs : ∀ L : List (Nat × (Nat → Value)), (List.range (psum L)).map (segs L) = pl L
  | [] => rfl
  | (n, f) :: r => by
    show (List.range (n + psum r)).map (segs ((n, f) :: r)) = (List.range n).map f ++ pl r
    rw [List.range_add, List.map_append, List.map_map, ← pl_segs r]
    congr 1
    · apply List.map_congr_left
      intro j hj
      rw [segs_cons, if_pos (List.mem_range.1 hj)]
    · apply List.map_congr_left
      intro j _
      show segs ((n, f) :: r) (n + j) = segs r j
      rw [segs_cons, if_neg (by omega), show n + j - n = j by omega]
theorem pl_row (L : List (Nat × (Nat → Value))) {N : Nat} (h : psum L = N) : rowF (segs L) N = (pl L).toArray := by
  subst h
  apply Array.toList_inj.1
  rw [rowF_list, ← pl_segs]
/-! ### The zero value, looked over cell by cell -/
def sameV : Value → Value → Bool
  | .int .i64 a, .int .i64 b => decide (a = b)
  | .int .u8 a, .int .u8 b => decide (a = b)
  | .bool a, .bool b => a == b
  | .pointer none, .pointer none => true
  | _, _ => false
theorem sameV_eq {a b : Value} (h : sameV a b = true) : b = a := by
  unfold sameV at h
  split at h
  · rw [of_decide_eq_true h]
  · rw [of_decide_eq_true h]
  · rw [eq_of_beq h]
  · rfl
  · cases h
def partB : Nat → Nat → (Nat → Value) → List Value → Option (List Value)
  | 0, _, _, xs => some xs
  | n + 1, i, f, x :: xs => match sameV (f i) x with | true => partB n (i + 1) f xs | false => none
  | _ + 1, _, _, [] => none
theorem partB_eq : ∀ (n i : Nat) (f : Nat → Value) (xs ys : List Value), partB n i f xs = some ys → xs = (List.range' i n).map f ++ ys
  | 0, i, f, xs, ys, h => by
    obtain rfl : xs = ys := by simpa [partB] using h
    rfl
  | n + 1, i, f, [], ys, h => by simp [partB] at h
  | n + 1, i, f, x :: xs, ys, h => by
    unfold partB at h
    split at h
    · rename_i e
      rw [sameV_eq e, partB_eq n (i + 1) f xs ys h, List.range'_succ]
      rfl
    · cases h
def chkB : List (Nat × (Nat → Value)) → List Value → Bool
  | [], [] => true
  | [], _ :: _ => false
  | (n, f) :: r, xs => match partB n 0 f xs with | some ys => chkB r ys | none => false
theorem chkB_eq : ∀ (L : List (Nat × (Nat → Value))) (xs : List Value), chkB L xs = true → xs = pl L
  | [], [], _ => rfl
  | [], x :: xs, h => by simp [chkB] at h
  | (n, f) :: r, xs, h => by
    unfold chkB at h
    split at h
    · rename_i ys e
      rw [partB_eq n 0 f xs ys e, chkB_eq r ys h, ← List.range_eq_range']
      rfl
    · cases h
def isZeroB (L : List (Nat × (Nat → Value))) : Option Value → Bool | some (.agg ⟨xs⟩) => chkB L xs | _ => false
theorem isZeroB_eq {L : List (Nat × (Nat → Value))} {v : Option Value} (h : isZeroB L v = true) : v = some (.agg (pl L).toArray) := by
  unfold isZeroB at h
  split at h
  · rw [chkB_eq _ _ h]
  · cases h
def t0C : Nat → Value := fun j => if j = 2 then .bool false else .int .i64 0
def p0C : Nat → Value := fun j => if j < 3 then .bool false else .int .i64 0
def a0C : Nat → Value := fun j => if j % 2 = 0 then .int .i64 0 else .bool false
/-- The parts behind Video. -/
def LR (cp : Value) (fl ps : Nat → Int) (hd : Int) : List (Nat × (Nat → Value)) :=
  [(1, fun _ => cp), (1, fun _ => .int .i64 0), (8192, fun _ => .int .u8 0), (8, iv fl), (514, iv fun _ => 0), (244, iv ps), (4, t0C), (2, iv fun _ => 0), (4, p0C), (10, a0C), (1, fun _ => .int .i64 hd), (1, fun _ => .int .i64 0)]
def LVp (vp : Value) : List (Nat × (Nat → Value)) := [(21, iv fun _ => 0), (1, fun _ => vp), (256, iv fun _ => 0), (1, fun _ => .int .i64 0), (1, fun _ => .bool false), (1, fun _ => .bool false)]
def L0 : List (Nat × (Nat → Value)) := LVp (.pointer none) ++ LR (.pointer none) (fun _ => 0) (fun _ => 0) 0
theorem zeroB_is : Tryd.t63.zero = some (.agg (pl L0).toArray) := isZeroB_eq (by kernel_rfl)
theorem fill_nil (p : Nat → Option (Nat × Nat)) (c : Array Value) : Instr.fill p c [] = some c := by rw [Instr.fill]
theorem l0_sum : psum L0 = 9263 := of_decide_eq_true (by kernel_rfl)
theorem built_zero {T : TypeId} {ti : TypeInfo} {L : List (Nat × (Nat → Value))} {N : Nat} {fs : Array Field} (h1 : Tryd.prog.info? T = some ti) (hu : Tryd.prog.underlying T = some (.struct fs)) (hz : ti.zero = some (.agg (pl L).toArray)) (hN : psum L = N) (hp : (fs.toList.mapM fun f => (Tryd.prog.info? f.type).map fun i => (f.offset, i.size)).isSome = true) (w : World) : (Instr.build T #[]).run Tryd.prog w = .ok (.agg (rowF (segs L) N)) w := by
  refine run_build w _ _ _ ?_
  unfold Program.built
  simp only [h1, hu, hz]
  rw [pl_row L hN]
  obtain ⟨pc, hpc⟩ := Option.isSome_iff_exists.1 hp
  rw [hpc]
  exact fill_nil _ _
theorem built_0 (w : World) : (Instr.build 63 #[]).run Tryd.prog w = .ok (.agg (rowF (segs L0) 9263)) w := built_zero (ti := Tryd.t63) (by kernel_rfl) Tryd.underlying63 zeroB_is l0_sum (by kernel_rfl) w
end Go.Proofs.YtbkecffdejafcaaDoor
