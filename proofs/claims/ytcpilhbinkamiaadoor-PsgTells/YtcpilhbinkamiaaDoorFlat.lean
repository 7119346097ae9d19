/- A package-level variable that reads as plain data (numbers, bools, strings in structs and arrays) holds just these cells. -/
import GoSem.ClaimJoined
import Derived.Laws.Rows
namespace Go.Proofs.YtcpilhbinkamiaaDoor
open Go

mutual
/-- The cells of a plain datum at a type; none where the two do not fit. -/
def flat (P : Program) : Nat → TypeId → DataW Unit → Option (List Value)
  | 0, _, _ => none
  | n + 1, t, d => match P.underlying t with
    | some .bool => match d with
      | .lit (.bool b) => some [.bool b]
      | _ => none
    | some (.int k) => match d with
      | .lit (.int k' z) => if k' = k then some [.int k z] else none
      | _ => none
    | some .string => match d with
      | .lit (.string bs) => some [.string ⟨bs.toArray⟩]
      | _ => none
    | some (.struct fs) => match d with
      | .agg ds => match flatF P n fs.toList ds 0 with
        | some vs => if vs.length = P.cellsOf t then some vs else none
        | none => none
      | _ => none
    | some (.array _ e) => match d with
      | .agg ds => match flatA P n e ds with
        | some vs => if vs.length = P.cellsOf t then some vs else none
        | none => none
      | _ => none
    | _ => none
/-- The fields, one behind the other from the place o on. -/
def flatF (P : Program) : Nat → List Field → List (DataW Unit) → Nat → Option (List Value)
  | 0, _, _, _ => none
  | _ + 1, [], [], _ => some []
  | n + 1, f :: fs, d :: ds, o => match flat P n f.type d, flatF P n fs ds (o + P.cellsOf f.type) with
    | some x, some y => if f.offset = o ∧ x.length = P.cellsOf f.type then some (x ++ y) else none
    | _, _ => none
  | _ + 1, _, _, _ => none
/-- The elements, one behind the other. -/
def flatA (P : Program) : Nat → TypeId → List (DataW Unit) → Option (List Value)
  | 0, _, _ => none
  | _ + 1, _, [] => some []
  | n + 1, e, d :: ds => match flat P n e d, flatA P n e ds with
    | some x, some y => if x.length = P.cellsOf e then some (x ++ y) else none
    | _, _ => none
end

theorem mapM_two {α β : Type} {f : α → Option β} {a : α} {l : List α} {r : List β} (h : (a :: l).mapM f = some r) : ∃ b r', f a = some b ∧ l.mapM f = some r' ∧ r = b :: r' := by
  simp only [List.mapM_cons, Option.bind_eq_bind, Option.bind_eq_some_iff, Option.pure_def, Option.some.injEq] at h
  obtain ⟨b, hb, r', hr', rfl⟩ := h
  exact ⟨b, r', hb, hr', rfl⟩

theorem join_at {cs x y : List Value} {o m : Nat} (hx : (cs.drop o).take m = x) (hy : cs.drop (o + m) = y) : cs.drop o = x ++ y := by
  subst hx; subst hy
  rw [← List.drop_drop, List.take_append_drop]

variable {P : Program} {w : World} {base : Nat} {sp : Nat → Bool} {held : Bool}

theorem flatF_at (n : Nat) (ih : ∀ (m : Nat) (_ : m < n) (fuel : Nat) (t : TypeId) (d : DataW Unit) (cs vs : List Value) (p : List MemPlace), flat P m t d = some vs → DataW.trod (fun _ => ()) P w base sp held fuel t cs = some (d, p) → cs = vs)
    (fuel : Nat) (cs : List Value) : ∀ (m : Nat) (_ : m ≤ n) (fs : List Field) (ds : List (DataW Unit)) (o : Nat) (vs : List Value) (xs : List (DataW Unit × List MemPlace)),
    flatF P m fs ds o = some vs → (fs.mapM fun f => DataW.trod (fun _ => ()) P w base sp held fuel f.type ((cs.drop f.offset).take (P.cellsOf f.type))) = some xs → xs.map (·.1) = ds → o + vs.length = cs.length → cs.drop o = vs
  | 0, _, _, _, _, _, _, h, _, _, _ => by simp [flatF] at h
  | m + 1, hm, fs, ds, o, vs, xs, h, hx, hd, hl => by
    cases fs with
    | nil =>
      cases ds with
      | nil =>
        simp [flatF] at h
        subst h
        simp at hl
        subst hl
        simp
      | cons d ds => simp [flatF] at h
    | cons f fs =>
      cases ds with
      | nil => simp [flatF] at h
      | cons d ds =>
        obtain ⟨b, r, hb, hr, rfl⟩ := mapM_two hx
        simp only [List.map_cons, List.cons.injEq] at hd
        obtain ⟨hd1, hd2⟩ := hd
        simp only [flatF] at h
        split at h
        · rename_i x y e1 e2
          split at h
          · rename_i hc
            obtain ⟨rfl, hc2⟩ := hc
            obtain rfl := Option.some.inj h
            have e : b = (d, b.2) := by rw [← hd1]
            rw [e] at hb
            have h1 := ih m (by omega) fuel _ _ _ _ _ e1 hb
            rw [List.length_append, hc2] at hl
            exact join_at h1 (flatF_at n ih fuel cs m (by omega) fs ds _ y r e2 hr hd2 (by omega))
          · cases h
        · cases h

theorem flatA_at (n : Nat) (ih : ∀ (m : Nat) (_ : m < n) (fuel : Nat) (t : TypeId) (d : DataW Unit) (cs vs : List Value) (p : List MemPlace), flat P m t d = some vs → DataW.trod (fun _ => ()) P w base sp held fuel t cs = some (d, p) → cs = vs)
    (fuel : Nat) (e : TypeId) (cs : List Value) : ∀ (m : Nat) (_ : m ≤ n) (k j : Nat) (ds : List (DataW Unit)) (vs : List Value) (xs : List (DataW Unit × List MemPlace)),
    flatA P m e ds = some vs → ((List.range' j k).mapM fun i => DataW.trod (fun _ => ()) P w base sp held fuel e ((cs.drop (i * P.cellsOf e)).take (P.cellsOf e))) = some xs → xs.map (·.1) = ds → j * P.cellsOf e + vs.length = cs.length → cs.drop (j * P.cellsOf e) = vs
  | 0, _, _, _, _, _, _, h, _, _, _ => by simp [flatA] at h
  | m + 1, hm, k, j, ds, vs, xs, h, hx, hd, hl => by
    cases k with
    | zero =>
      simp at hx
      subst hx
      simp at hd
      subst hd
      simp [flatA] at h
      subst h
      simp at hl
      rw [hl]; simp
    | succ k =>
      rw [List.range'_succ] at hx
      obtain ⟨b, r, hb, hr, rfl⟩ := mapM_two hx
      cases ds with
      | nil => simp at hd
      | cons d ds =>
        simp only [List.map_cons, List.cons.injEq] at hd
        obtain ⟨hd1, hd2⟩ := hd
        simp only [flatA] at h
        split at h
        · rename_i x y e1 e2
          split at h
          · rename_i hc
            obtain rfl := Option.some.inj h
            have eb : b = (d, b.2) := by rw [← hd1]
            rw [eb] at hb
            have h1 := ih m (by omega) fuel _ _ _ _ _ e1 hb
            rw [List.length_append, hc] at hl
            have em : j * P.cellsOf e + P.cellsOf e = (j + 1) * P.cellsOf e := (Nat.succ_mul _ _).symm
            refine join_at h1 ?_
            rw [em]
            exact flatA_at n ih fuel e cs m (by omega) k (j + 1) ds y r e2 hr hd2 (by omega)
          · cases h
        · cases h

theorem flat_at (n : Nat) : ∀ (fuel : Nat) (t : TypeId) (d : DataW Unit) (cs vs : List Value) (p : List MemPlace), flat P n t d = some vs →
    DataW.trod (fun _ => ()) P w base sp held fuel t cs = some (d, p) → cs = vs := by
  induction n using Nat.strongRecOn with
  | ind n ih =>
    intro fuel t d cs vs p h k
    cases n with
    | zero => simp [flat] at h
    | succ n =>
      cases fuel with
      | zero => simp [DataW.trod] at k
      | succ fuel =>
        simp only [flat] at h
        split at h
        · rename_i hu
          split at h
          · obtain rfl := Option.some.inj h
            simp only [DataW.trod, hu] at k
            split at k <;> simp_all
          · cases h
        · rename_i kk hu
          split at h
          · split at h
            · rename_i hk
              subst hk
              obtain rfl := Option.some.inj h
              simp only [DataW.trod, hu] at k
              split at k <;> simp_all
            · cases h
          · cases h
        · rename_i hu
          split at h
          · obtain rfl := Option.some.inj h
            simp only [DataW.trod, hu] at k
            split at k <;> simp_all
            rw [← k.2.1]
          · cases h
        · rename_i fs hu
          split at h
          · split at h
            · rename_i ds _ ws hf
              split at h
              · rename_i hl
                obtain rfl := Option.some.inj h
                simp only [DataW.trod, hu] at k
                split at k
                · rename_i hcl
                  obtain ⟨xs, hm, hx⟩ := Option.map_eq_some_iff.1 k
                  have hx1 : xs.map (·.1) = ds := by simpa using congrArg Prod.fst hx
                  have := flatF_at n (fun m hm => ih m (by omega)) fuel cs n (Nat.le_refl _) fs.toList ds 0 ws xs hf hm hx1 (by omega)
                  simpa using this
                · cases k
              · cases h
            · cases h
          · cases h
        · rename_i c e hu
          split at h
          · split at h
            · rename_i ds _ ws hf
              split at h
              · rename_i hl
                obtain rfl := Option.some.inj h
                simp only [DataW.trod, hu] at k
                split at k
                · rename_i hcl
                  obtain ⟨xs, hm, hx⟩ := Option.map_eq_some_iff.1 k
                  have hx1 : xs.map (·.1) = ds := by simpa using congrArg Prod.fst hx
                  rw [List.range_eq_range'] at hm
                  have := flatA_at n (fun m hm => ih m (by omega)) fuel e cs n (Nat.le_refl _) c 0 ds ws xs hf hm hx1 (by omega)
                  simpa using this
                · cases k
              · cases h
            · cases h
          · cases h
        · cases h
end Go.Proofs.YtcpilhbinkamiaaDoor
