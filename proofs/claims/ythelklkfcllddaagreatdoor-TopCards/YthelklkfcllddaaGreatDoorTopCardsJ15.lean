/- A machine as New makes it: a composite of 9263 cells, by its parts, never cell by cell. -/
import Derived.Test.YthelklkfcllddaaGreatDoorTopCardsJ13
import Derived.Test.YthelklkfcllddaaGreatDoorTopCardsJ11
import Derived.Test.YthelklkfcllddaaGreatDoorTopCardsJ14
namespace Go.Proofs.YthelklkfcllddaaGreatDoor.L24
set_option maxRecDepth 20000
open C3 G6 P22 R15 W13
open Go.RowKit
set_option linter.unusedVariables false
def pl : List (Nat × (Nat → Value)) → List Value
  | [] => []
  | (n, f) :: r => (List.range n).map f ++ pl r
theorem pl_app : ∀ A B, pl (A ++ B) = pl A ++ pl B
  | [], B => rfl
  | (n, f) :: r, B => by
    show (List.range n).map f ++ pl (r ++ B) = ((List.range n).map f ++ pl r) ++ pl B
    rw [pl_app r B, List.append_assoc]
def psum : List (Nat × (Nat → Value)) → Nat
  | [] => 0
  | (n, _) :: r => n + psum r
theorem pl_segs : ∀ L : List (Nat × (Nat → Value)), (List.range (psum L)).map (segs L) = pl L
  | [] => rfl
  | (n, f) :: r => by
    show (List.range (n + psum r)).map (segs ((n, f) :: r)) = (List.range n).map f ++ pl r
    rw [List.range_add, List.map_append, List.map_map, ← pl_segs r]
    congr 1
    · apply List.map_congr_left
      intro j hj
      rw [segs_cons, if_pos (List.mem_range.1 hj)]
    · apply List.map_congr_left
      intro j _
      show segs ((n, f) :: r) (n + j) = segs r j
      rw [segs_cons, if_neg (by omega), show n + j - n = j by omega]
theorem pl_row (L : List (Nat × (Nat → Value))) {N : Nat} (h : psum L = N) : rowF (segs L) N = (pl L).toArray := by
  subst h
  apply Array.toList_inj.1
  rw [rowF_list, ← pl_segs]
theorem pl_split : ∀ (L : List (Nat × (Nat → Value))) (k n : Nat) (s : Nat → Value), L[k]? = some (n, s) → ∃ A C, pl L = A ++ ((List.range n).map s ++ C) ∧ A.length = soff L k ∧ ∀ s', pl (L.set k (n, s')) = A ++ ((List.range n).map s' ++ C)
  | [], k, n, s, h => by simp at h
  | (m, g) :: r, 0, n, s, h => by
    obtain ⟨rfl, rfl⟩ : m = n ∧ g = s := by simpa using h
    exact ⟨[], pl r, rfl, rfl, fun s' => rfl⟩
  | (m, g) :: r, k + 1, n, s, h => by
    obtain ⟨A, C, e1, e2, e3⟩ := pl_split r k n s (by simpa using h)
    refine ⟨(List.range m).map g ++ A, C, ?_, ?_, fun s' => ?_⟩
    · show (List.range m).map g ++ pl r = _
      rw [e1, List.append_assoc]
    · rw [List.length_append, List.length_map, List.length_range, e2, soff_cons]
    · rw [List.set_cons_succ]
      show (List.range m).map g ++ pl (r.set k (n, s')) = _
      rw [e3, List.append_assoc]
theorem fold_put (off : Nat) : ∀ (cs B A C : List Value) (k : Nat), B.length = cs.length → A.length = off + k → (cs.zipIdx k).foldl (fun (acc : Array Value) (p : Value × Nat) => acc.setIfInBounds (off + p.2) p.1) (A ++ (B ++ C)).toArray = (A ++ (cs ++ C)).toArray
  | [], B, A, C, k, h, _ => by
    cases B with
    | nil => rfl
    | cons b B => cases h
  | c :: cs, B, A, C, k, h, hA => by
    cases B with
    | nil => cases h
    | cons b B =>
      rw [List.zipIdx_cons, List.foldl_cons]
      have e : (A ++ (b :: B ++ C)).toArray.setIfInBounds (off + k) c = ((A ++ [c]) ++ (B ++ C)).toArray := by
        rw [← hA, List.setIfInBounds_toArray, List.set_append_right _ _ (Nat.le_refl _), Nat.sub_self]
        simp
      show List.foldl _ ((A ++ (b :: B ++ C)).toArray.setIfInBounds (off + k) c) _ = _
      rw [e, fold_put off cs B (A ++ [c]) C (k + 1) (by simpa using h) (by simp; omega)]
      simp
theorem fill_seg {place : Nat → Option (Nat × Nat)} {i off size : Nat} {v : Value} {rest : List (Nat × Value)} {L : List (Nat × (Nat → Value))} (k : Nat) {s s' : Nat → Value} (hk : L[k]? = some (size, s)) (ho : soff L k = off) (hp : place i = some (off, size)) (hv : v.cells = rowF s' size) :
    Instr.fill place (pl L).toArray ((i, v) :: rest) = Instr.fill place (pl (L.set k (size, s'))).toArray rest := by
  obtain ⟨A, C, e1, e2, e3⟩ := pl_split L k size s hk
  have hs : v.cells.size = size := by rw [hv, rowF_size]
  rw [Instr.fill, hp]
  simp only [hs]
  rw [e1, e3 s', if_neg (by simp [e2, ho])]
  congr 1
  rw [← Array.foldl_toList, Array.toList_zipIdx, hv, rowF_list]
  exact fold_put off _ _ A C 0 (by simp) (by omega)
def sameV : Value → Value → Bool
  | .int .i64 a, .int .i64 b => decide (a = b)
  | .int .u8 a, .int .u8 b => decide (a = b)
  | .bool a, .bool b => a == b
  | .pointer none, .pointer none => true
  | _, _ => false
theorem sameV_eq {a b : Value} (h : sameV a b = true) : b = a := by
  unfold sameV at h
  split at h
  · rw [of_decide_eq_true h]
  · rw [of_decide_eq_true h]
  · rw [eq_of_beq h]
  · rfl
  · cases h
def partB : Nat → Nat → (Nat → Value) → List Value → Option (List Value)
  | 0, _, _, xs => some xs
  | n + 1, i, f, x :: xs => match sameV (f i) x with | true => partB n (i + 1) f xs | false => none
  | _ + 1, _, _, [] => none
theorem partB_eq : ∀ (n i : Nat) (f : Nat → Value) (xs ys : List Value), partB n i f xs = some ys → xs = (List.range' i n).map f ++ ys
  | 0, i, f, xs, ys, h => by
    obtain rfl : xs = ys := by simpa [partB] using h
    rfl
  | n + 1, i, f, [], ys, h => by simp [partB] at h
  | n + 1, i, f, x :: xs, ys, h => by
    unfold partB at h
    split at h
    · rename_i e
      rw [sameV_eq e, partB_eq n (i + 1) f xs ys h, List.range'_succ]
      rfl
    · cases h
def chkB : List (Nat × (Nat → Value)) → List Value → Bool
  | [], [] => true
  | [], _ :: _ => false
  | (n, f) :: r, xs => match partB n 0 f xs with | some ys => chkB r ys | none => false
theorem chkB_eq : ∀ (L : List (Nat × (Nat → Value))) (xs : List Value), chkB L xs = true → xs = pl L
  | [], [], _ => rfl
  | [], x :: xs, h => by simp [chkB] at h
  | (n, f) :: r, xs, h => by
    unfold chkB at h
    split at h
    · rename_i ys e
      rw [partB_eq n 0 f xs ys e, chkB_eq r ys h, ← List.range_eq_range']
      rfl
    · cases h
def isZeroB (L : List (Nat × (Nat → Value))) : Option Value → Bool | some (.agg ⟨xs⟩) => chkB L xs | _ => false
theorem isZeroB_eq {L : List (Nat × (Nat → Value))} {v : Option Value} (h : isZeroB L v = true) : v = some (.agg (pl L).toArray) := by
  unfold isZeroB at h
  split at h
  · rw [chkB_eq _ _ h]
  · cases h
def t0C : Nat → Value := fun j => if j = 2 then .bool false else .int .i64 0
def p0C : Nat → Value := fun j => if j < 3 then .bool false else .int .i64 0
def a0C : Nat → Value := fun j => if j % 2 = 0 then .int .i64 0 else .bool false
def fl0 : Nat → Int := fun j => if j = 1 then 248 else 0
def LR (cp : Value) (fl ps : Nat → Int) (hd : Int) : List (Nat × (Nat → Value)) :=
  [(1, fun _ => cp), (1, fun _ => .int .i64 0), (8192, fun _ => .int .u8 0), (8, iv fl), (514, iv fun _ => 0), (244, iv ps), (4, t0C), (2, iv fun _ => 0), (4, p0C), (10, a0C), (1, fun _ => .int .i64 hd), (1, fun _ => .int .i64 0)]
def LVp (vp : Value) : List (Nat × (Nat → Value)) := [(21, iv fun _ => 0), (1, fun _ => vp), (256, iv fun _ => 0), (1, fun _ => .int .i64 0), (1, fun _ => .bool false), (1, fun _ => .bool false)]
def LV (v : Nat) : List (Nat × (Nat → Value)) := LVp (.pointer (some ⟨v, 0, none⟩))
def LB (v c : Nat) : List (Nat × (Nat → Value)) := LV v ++ LR (.pointer (some ⟨c, 0, none⟩)) fl0 freshF 255
def L0 : List (Nat × (Nat → Value)) := LVp (.pointer none) ++ LR (.pointer none) (fun _ => 0) (fun _ => 0) 0
theorem zeroB_is : Tryz.t63.zero = some (.agg (pl L0).toArray) := isZeroB_eq (by kernel_rfl)
theorem pl_video (vp : Value) (R : List (Nat × (Nat → Value))) : pl (LVp vp ++ R) = pl ((281, segs (LVp vp)) :: R) := by
  rw [pl_app, ← pl_segs (LVp vp)]
  rfl
set_option maxRecDepth 100000 in
theorem builtB_of (parts : List (Nat × Value)) : Tryz.prog.built 63 parts = Instr.fill (fun i => #[(0, 281), (281, 1), (282, 1), (283, 8192), (8475, 8), (8483, 514), (8997, 244), (9241, 4), (9245, 2), (9247, 4), (9251, 10), (9261, 1), (9262, 1)][i]?) (pl L0).toArray parts := by
  have h1 : Tryz.prog.info? 63 = some Tryz.t63 := by kernel_rfl
  unfold Program.built
  simp only [h1, Tryz.underlying63, zeroB_is]
  rfl
theorem built_V (v : Nat) (w : World) : (Instr.build 41 #[(0, .agg (rowG 0 fun _ => 0)), (1, .pointer (some ⟨v, 0, none⟩))]).run Tryz.prog w = .ok (.agg (rowF (segs (LV v)) 281)) w := run_build w _ _ _ (by kernel_rfl)
theorem fill_nil (p : Nat → Option (Nat × Nat)) (c : Array Value) : Instr.fill p c [] = some c := by rw [Instr.fill]
theorem fill_five (place : Nat → Option (Nat × Nat)) (p0 : place 0 = some (0, 281)) (p1 : place 1 = some (281, 1)) (p4 : place 4 = some (8475, 8)) (p6 : place 6 = some (8997, 244)) (p11 : place 11 = some (9261, 1)) (s s' : Nat → Value) (cp : Value) (hc : cp.cells = #[cp]) :
    Instr.fill place (pl ((281, s) :: LR (.pointer none) (fun _ => 0) (fun _ => 0) 0)).toArray [(0, .agg (rowF s' 281)), (1, cp), (4, .agg (rowF (iv fl0) 8)), (6, .agg (rowF (iv freshF) 244)), (11, .int .i64 255)] = some (pl ((281, s') :: LR cp fl0 freshF 255)).toArray := by
  rw [fill_seg 0 (size := 281) (off := 0) rfl (of_decide_eq_true (by kernel_rfl)) p0 (s' := s') rfl]
  rw [fill_seg 1 (size := 1) (off := 281) rfl (of_decide_eq_true (by kernel_rfl)) p1 (s' := fun _ => cp) hc]
  rw [fill_seg 4 (size := 8) (off := 8475) rfl (of_decide_eq_true (by kernel_rfl)) p4 (s' := iv fl0) rfl]
  rw [fill_seg 6 (size := 244) (off := 8997) rfl (of_decide_eq_true (by kernel_rfl)) p6 (s' := iv freshF) rfl]
  rw [fill_seg 11 (size := 1) (off := 9261) rfl (of_decide_eq_true (by kernel_rfl)) p11 (s' := fun _ => .int .i64 255) rfl]
  rw [fill_nil]
  refine congrArg (fun L => some (pl L).toArray) ?_
  rfl
theorem lb_sum (v c : Nat) : psum (LB v c) = 9263 := of_decide_eq_true (by kernel_rfl)
theorem lb_video (v c : Nat) : pl (LB v c) = pl ((281, segs (LV v)) :: LR (.pointer (some ⟨c, 0, none⟩)) fl0 freshF 255) := pl_video _ _
theorem l0_video : pl L0 = pl ((281, segs (LVp (.pointer none))) :: LR (.pointer none) (fun _ => 0) (fun _ => 0) 0) := pl_video _ _
theorem built_B (v c : Nat) (w : World) : (Instr.build 63 #[(0, .agg (rowF (segs (LV v)) 281)), (1, .pointer (some ⟨c, 0, none⟩)), (4, .agg (rowF (iv fl0) 8)), (6, .agg (rowF (iv freshF) 244)), (11, .int .i64 255)]).run Tryz.prog w = .ok (.agg (rowF (segs (LB v c)) 9263)) w := by
  have e1 : rowF (segs (LB v c)) 9263 = (pl (LB v c)).toArray := pl_row (LB v c) (lb_sum v c)
  have e2 := builtB_of [(0, .agg (rowF (segs (LV v)) 281)), (1, .pointer (some ⟨c, 0, none⟩)), (4, .agg (rowF (iv fl0) 8)), (6, .agg (rowF (iv freshF) 244)), (11, .int .i64 255)]
  rw [l0_video, fill_five _ rfl rfl rfl rfl rfl _ _ _ rfl, ← lb_video, ← e1] at e2
  exact run_build w _ _ _ e2
end Go.Proofs.YthelklkfcllddaaGreatDoor.L24
