/- Texts without a word of the program, one behind the other. -/
import Derived.Laws.BitsLemmas
import Derived.WalkKit
import Derived.ProofKit
import Derived.Deep.QuietTactic
import Derived.BigQuiet
import Derived.Below
import Derived.OneCell
import Derived.Deep.Quiet
import Derived.Laws.Rows
import Derived.Laws.Tables
import Derived.Laws.CopyOwn
import Derived.Laws.ResultCell
import Derived.WalkMore
import Derived.Handy
import Derived.BigFrame
import Derived.Laws.MakeOwn
import Derived.Laws.OwnMore
import Derived.DataReads
import Derived.ChangeSlices
import Derived.Test.YthelklkfcllddaaGreatDoorRows
import Derived.OpenShut
import Derived.ShutString
import Derived.ChangeOld
import Derived.Carry
import Derived.ChangeArms
import Derived.Deep.Slices
import Derived.Laws.StructEq
import Derived.Deep.MidRow
import Derived.ChangeKeysEq
import GoSem.ClaimJoined
namespace Go.Proofs.YthelklkfcllddaaGreatDoor
set_option maxRecDepth 20000
theorem i64_small (n : Int) (h0 : 0 ≤ n) (h1 : n < 2 ^ 62) : IntKind.i64.wrap n = n := by
  rw [IntKind.wrap_i64]; omega
theorem and_mask (j : Nat) (hj : j ≤ 62) (n : Int) : bits .and .i64 n ((2 ^ j - 1 : Nat) : Int) = n % ((2 ^ j : Nat) : Int) := by
  have hp : 2 ^ j ≤ 2 ^ 62 := Nat.pow_le_pow_right (by decide) hj
  have hpos : 0 < 2 ^ j := Nat.two_pow_pos j
  have hm : (BitVec.ofInt 64 ((2 ^ j - 1 : Nat) : Int)).toNat = 2 ^ j - 1 := by
    rw [BitVec.ofInt_natCast, BitVec.toNat_ofNat]
    exact Nat.mod_eq_of_lt (by omega)
  have key : (BitVec.ofInt 64 n &&& BitVec.ofInt 64 ((2 ^ j - 1 : Nat) : Int)).toNat = (n % ((2 ^ 64 : Nat) : Int)).toNat % 2 ^ j := by
    rw [BitVec.toNat_and, BitVec.toNat_ofInt, hm, Nat.and_two_pow_sub_one_eq_mod]
  show IntKind.i64.wrap ((BitVec.ofInt 64 n &&& BitVec.ofInt 64 ((2 ^ j - 1 : Nat) : Int)).toNat : Nat) = _
  have hlt : (n % ((2 ^ 64 : Nat) : Int)).toNat % 2 ^ j < 2 ^ j := Nat.mod_lt _ hpos
  rw [key, i64_small _ (by omega) (by omega)]
  have h1 : 0 ≤ n % ((2 ^ 64 : Nat) : Int) := Int.emod_nonneg _ (by decide)
  rw [Int.natCast_emod, Int.toNat_of_nonneg h1]
  exact Int.emod_emod_of_dvd n (by
    have : 2 ^ j ∣ 2 ^ 64 := Nat.pow_dvd_pow 2 (by omega)
    exact_mod_cast this)
theorem and_3 (n : Int) : bits .and .i64 n 3 = n % 4 := and_mask 2 (by decide) n
theorem and_255 (n : Int) : bits .and .i64 n 255 = n % 256 := and_mask 8 (by decide) n
theorem and_65535 (n : Int) : bits .and .i64 n 65535 = n % 65536 := and_mask 16 (by decide) n
end Go.Proofs.YthelklkfcllddaaGreatDoor
namespace Go.Proofs.YthelklkfcllddaaGreatDoor
set_option maxRecDepth 20000
open Go.RowKit
theorem hide {p : Prop} (h : p) : Hid p := h
theorem below_drew {B : Nat} {a w : World} (h : Below B a w) (n : Nat) : Below B a (w.drewN n) := h.trans ⟨rfl, rfl, rfl, Nat.le_refl _, fun _ _ => rfl⟩
theorem bnext {w a b : World} (h : Below w.heap.size w a) (k : Below a.heap.size a b) : Below w.heap.size w b := h.trans (k.mono h.size)
theorem ret_bool {a b : Bool} (h : a = b) : Ending.returned (.bool a) = .returned (.bool b) := by rw [h]
theorem ret_int {a b : Int} (h : a = b) : Ending.returned (.int .i64 a) = .returned (.int .i64 b) := by rw [h]
theorem ret_kb {a b : Int} {c d : Bool} (h : a = b) (k : c = d) : Ending.returned (.tuple #[.int .i64 a, .bool c]) = .returned (.tuple #[.int .i64 b, .bool d]) := by rw [h, k]
end Go.Proofs.YthelklkfcllddaaGreatDoor
namespace Go.Proofs.YthelklkfcllddaaGreatDoor
set_option maxRecDepth 20000
open Go.RowKit
def Kept (W : World) : Type := { x : World // Below W.heap.size W x }
def Kept.val {W : World} (x : Kept W) : World := Subtype.val x
theorem Kept.below {W : World} (x : Kept W) : Below W.heap.size W x.val := Subtype.property x
def kept {W x : World} (h : Below W.heap.size W x) : Kept W := ⟨x, h⟩
theorem kept_some (W : World) : Nonempty (Kept W) := ⟨kept (Below.refl _ W)⟩
theorem Kept.cell {W : World} (x : Kept W) (b o : Nat) (h : b < W.heap.size) : x.val.cell? ⟨b, o, none⟩ = W.cell? ⟨b, o, none⟩ := x.below.cell (p := ⟨b, o, none⟩) h
theorem Kept.block {W : World} (x : Kept W) (b : Nat) (h : b < W.heap.size) : x.val.heap[b]? = W.heap[b]? := x.below.block b h
theorem kept_cell {W : World} {b o : Nat} {v : Value} (h : W.cell? ⟨b, o, none⟩ = some v) (hb : b < W.heap.size) : ∀ x : Kept W, x.val.cell? ⟨b, o, none⟩ = some v := fun x => (x.cell b o hb).trans h
theorem wp_region_kept {P : Program} {id : Nat} {Q : Exit → Act → World → Prop} {a : Act} {w : World} {l : List Oper} (hm : P.follows .mixedOrders = true) (hB : Region.lexB .any l.toArray = true)
    (h : wpQuiet P l.toArray (fun w' => ∃ x : Kept w, w' = x.val) (fun a' => ∀ w', (∃ x : Kept w, w' = x.val) → Q .normal a' w') l a) : (Code.region id l.toArray true).wp P Q a w :=
  wp_region_quiet (C := fun w' => ∃ x : Kept w, w' = x.val) hm hB ⟨kept (Below.refl _ w).drew, rfl⟩ (by simpa using h)
theorem kept_call {P : Program} {f : FuncId} {args : Array Value} {W : World} {x : Kept W} {v : Value}
    (h : Calls P f args x.val fun e w' => e = .returned v ∧ Below x.val.heap.size x.val w') : Calls P f args x.val fun e w'' => e = .returned v ∧ ∃ y : Kept W, w'' = y.val :=
  h.mono fun _ _ ⟨he, hb⟩ => ⟨he, kept (bnext x.below hb), rfl⟩
theorem kept_same {P : Program} {f : FuncId} {args : Array Value} {W : World} {x : Kept W} {v : Value}
    (h : Calls P f args x.val fun e w' => e = .returned v ∧ w' = x.val) : Calls P f args x.val fun e w'' => e = .returned v ∧ ∃ y : Kept W, w'' = y.val :=
  h.mono fun _ _ ⟨he, hb⟩ => ⟨he, x, hb⟩
end Go.Proofs.YthelklkfcllddaaGreatDoor
namespace Go.Proofs.YthelklkfcllddaaGreatDoor
set_option maxRecDepth 20000
open Go.RowKit
set_option linter.unusedVariables false
theorem push_low {L : Array Bool} {j : Nat} (h : j < L.size) (b d : Bool) : (L.push b).getD j d = L.getD j d := by
  rw [Array.getD_eq_getD_getElem?, Array.getD_eq_getD_getElem?, Array.getElem?_push_lt h, Array.getElem?_eq_getElem h]
theorem push_top {L : Array Bool} (b d : Bool) : (L.push b).getD L.size d = b := by
  rw [Array.getD_eq_getD_getElem?, Array.getElem?_push_size]
  rfl
theorem getD_any {L : Array Bool} {j : Nat} (h : j < L.size) (d e : Bool) : L.getD j d = L.getD j e := by
  rw [Array.getD_eq_getD_getElem?, Array.getD_eq_getD_getElem?, Array.getElem?_eq_getElem h]
  rfl
def lastB (md : Region.Mode) (H : List Oper) (o : Oper) : Bool :=
  (List.range H.length).all (fun i => match H[i]? with | some x => x.guard.isNone && x.after.all (fun e => !Region.binds md e || decide (e.on < i)) | none => true) &&
  o.after.all (fun e => decide (e.on < H.length)) && (List.range H.length).all (fun i => o.after.any fun e => Region.binds md e && e.on == i)
variable {P : Program} {md : Region.Mode} {C : World → Prop} {Q : Exit → Act → World → Prop} {H : List Oper} {o : Oper}
theorem lastB_spec (h : lastB md H o = true) : (∀ (i : Nat) (x : Oper), H[i]? = some x → x.guard = none ∧ ∀ e ∈ x.after, Region.binds md e = true → e.on < i) ∧ (∀ e ∈ o.after, e.on < H.length) ∧ ∀ i, i < H.length → ∃ e ∈ o.after, Region.binds md e = true ∧ e.on = i := by
  unfold lastB at h
  rw [Bool.and_eq_true, Bool.and_eq_true] at h
  obtain ⟨⟨h1, h2⟩, h3⟩ := h
  refine ⟨fun i x hx => ?_, fun e he => ?_, fun i hi => ?_⟩
  · have hi : i < H.length := by
      rcases Nat.lt_or_ge i H.length with k | k
      · exact k
      · rw [List.getElem?_eq_none k] at hx; cases hx
    have k := List.all_eq_true.1 h1 i (List.mem_range.2 hi)
    rw [hx] at k
    simp only [Bool.and_eq_true, Option.isNone_iff_eq_none] at k
    exact ⟨k.1, fun e he hb => by simpa [hb] using Array.all_eq_true'.1 k.2 e he⟩
  · simpa using Array.all_eq_true'.1 h2 e he
  · have k := List.all_eq_true.1 h3 i (List.mem_range.2 hi)
    obtain ⟨e, he, hb⟩ := Array.any_eq_true'.1 k
    simp only [Bool.and_eq_true, beq_iff_eq] at hb
    exact ⟨e, he, hb⟩
theorem ops_low {i : Nat} (h : i < H.length) : (H ++ [o]).toArray[i]? = H.toArray[i]? := by
  simp [List.getElem?_append_left h]
theorem ops_top : (H ++ [o]).toArray[H.length]? = some o := by simp
theorem none_left (hb : ∀ (i : Nat) (x : Oper), H[i]? = some x → x.guard = none ∧ ∀ e ∈ x.after, Region.binds md e = true → e.on < i) {L : Array Bool} (hs : L.size = H.length) (h : Region.ready md H.toArray L = []) : ∀ i, i < H.length → L.getD i true = true := by
  intro i
  induction i using Nat.strongRecOn with
  | _ i ih =>
    intro hi
    cases k : L.getD i true with
    | true => rfl
    | false =>
      exfalso
      have hx : H[i]? = some H[i] := List.getElem?_eq_getElem hi
      have : i ∈ Region.ready md H.toArray L := mem_ready.2 ⟨k, H[i], by simp, fun e he hbe => by
        have h1 := (hb i H[i] hx).2 e he hbe
        rw [getD_any (by omega) false true]
        exact ih e.on h1 (by omega)⟩
      rw [h] at this
      cases this
theorem all_done {ops : Array Oper} {L : Array Bool} {a : Act} {w : World} (h : ∀ j, j < ops.size → L.getD j true = true) (hq : Q .normal a w) : ∀ f, wpAny P md ops Q f L a w := by
  have e : Region.ready md ops L = [] := by
    apply List.eq_nil_iff_forall_not_mem.2
    intro i hi
    obtain ⟨h1, x, h2, _⟩ := mem_ready.1 hi
    have h3 : i < ops.size := (Array.getElem?_eq_some_iff.1 h2).1
    rw [h i h3] at h1
    cases h1
  intro f
  cases f with
  | zero => exact ⟨e, hq⟩
  | succ f => exact ⟨fun _ => hq, fun i hi => by rw [e] at hi; cases hi⟩
theorem one_left (ho : ∀ e ∈ o.after, e.on < H.length) {L : Array Bool} (hs : L.size = H.length) (hL : ∀ i, i < H.length → L.getD i true = true) {a : Act} {w : World} (h : wpList P (H ++ [o]).toArray Q [o] a w) (f : Nat) :
    wpAny P md (H ++ [o]).toArray Q (f + 1) (L.push false) a w := by
  refine ⟨fun e => ?_, fun i hi => ?_⟩
  · exfalso
    have : H.length ∈ Region.ready md (H ++ [o]).toArray (L.push false) := mem_ready.2 ⟨by rw [← hs]; exact push_top _ _, o, ops_top, fun e he _ => by
      have h1 := ho e he
      rw [push_low (by omega), getD_any (by omega) false true]
      exact hL _ h1⟩
    rw [e] at this
    cases this
  · obtain ⟨h1, x, h2, _⟩ := mem_ready.1 hi
    have h3 : i < H.length + 1 := by simpa using (Array.getElem?_eq_some_iff.1 h2).1
    have hin : i = H.length := by
      rcases Nat.lt_or_ge i H.length with k | k
      · rw [push_low (by omega), hL i k] at h1; cases h1
      · omega
    subst hin
    have hw : wpOp P (H ++ [o]).toArray Q H.length (fun a w => Q .normal a w) a w := by
      unfold wpOp
      rw [ops_top]
      exact h
    refine wpOp_mono (fun a' w' hq => all_done (fun j hj => ?_) hq f) hw
    have hj' : j < H.length + 1 := by simpa using hj
    rcases Nat.lt_or_ge j H.length with k | k
    · rw [getD_set_ne true (by omega), push_low (by omega)]
      exact hL j k
    · have : j = H.length := by omega
      subst this
      rw [Array.getD_eq_getD_getElem?, Array.getElem?_setIfInBounds_self_of_lt (by simp [hs])]
      rfl
theorem any_last (hb : ∀ (i : Nat) (x : Oper), H[i]? = some x → x.guard = none ∧ ∀ e ∈ x.after, Region.binds md e = true → e.on < i) (ho : ∀ e ∈ o.after, e.on < H.length) (hw : ∀ i, i < H.length → ∃ e ∈ o.after, Region.binds md e = true ∧ e.on = i) :
    ∀ (fuel : Nat) (L : Array Bool) (a : Act) (w : World), L.size = H.length → C w → wpAnyQ P md H.toArray C (fun a => ∀ w, C w → wpList P (H ++ [o]).toArray Q [o] a w) fuel L a →
      wpAny P md (H ++ [o]).toArray Q (fuel + 1) (L.push false) a w
  | 0, L, a, w, hs, hC, h => one_left ho hs (none_left hb hs h.1) (h.2 w hC) 0
  | fuel + 1, L, a, w, hs, hC, h => by
    by_cases e : Region.ready md H.toArray L = []
    · exact one_left ho hs (none_left hb hs e) (h.1 e w hC) (fuel + 1)
    · obtain ⟨i0, hi0⟩ := List.exists_mem_of_ne_nil _ e
      obtain ⟨u0, x0, y0, z0⟩ := mem_ready.1 hi0
      have l0 : i0 < H.length := by simpa using (Array.getElem?_eq_some_iff.1 y0).1
      have r0 : i0 ∈ Region.ready md (H ++ [o]).toArray (L.push false) := mem_ready.2 ⟨by rw [push_low (by omega)]; exact u0, x0, by rw [ops_low l0]; exact y0, fun e he hbi => by
        have h1 := (hb i0 x0 (by simpa using y0)).2 e he hbi
        rw [push_low (by omega)]
        exact z0 e he hbi⟩
      refine ⟨fun e1 => (by rw [e1] at r0; cases r0), fun i hi => ?_⟩
      obtain ⟨u, x, y, z⟩ := mem_ready.1 hi
      have h3 : i < H.length + 1 := by simpa using (Array.getElem?_eq_some_iff.1 y).1
      have hin : i < H.length := by
        rcases Nat.lt_or_ge i H.length with k | k
        · exact k
        · exfalso
          have : i = H.length := by omega
          subst this
          rw [ops_top] at y
          cases y
          obtain ⟨e2, he2, hb2, on2⟩ := hw i0 l0
          have h4 := z e2 he2 hb2
          rw [on2, push_low (by omega), getD_any (by omega) false true, u0] at h4
          cases h4
      rw [ops_low hin] at y
      have hx : H[i]? = some x := by simpa using y
      have hr : i ∈ Region.ready md H.toArray L := mem_ready.2 ⟨by rw [push_low (by omega)] at u; exact u, x, y, fun e he hbi => by
        have h1 := (hb i x hx).2 e he hbi
        have h2 := z e he hbi
        rw [push_low (by omega)] at h2
        exact h2⟩
      have hq := h.2 i hr
      have hq2 : qOp P (H ++ [o]).toArray C i (wpAnyQ P md H.toArray C (fun a => ∀ w, C w → wpList P (H ++ [o]).toArray Q [o] a w) fuel (L.setIfInBounds i true)) a := by
        unfold qOp at hq ⊢
        rw [ops_low hin]
        rw [y] at hq ⊢
        simp only [Region.wanted, (hb i x hx).1, if_true] at hq ⊢
        exact hq
      have hset : (L.push false).setIfInBounds i true = (L.setIfInBounds i true).push false := by
        apply Array.ext_getElem?
        intro j
        rw [Array.getElem?_setIfInBounds, Array.getElem?_push, Array.getElem?_push, Array.getElem?_setIfInBounds]
        simp only [Array.size_push, Array.size_setIfInBounds]
        by_cases hij : i = j
        · subst hij
          rw [if_pos rfl, if_pos (by omega), if_neg (by omega), if_pos rfl, if_pos (by omega)]
        · rw [if_neg hij, if_neg hij]
      rw [hset]
      exact wpOp_of_qOp hC (fun a' w' hC' h' => any_last hb ho hw fuel _ a' w' (by simp [hs]) hC' h') hq2
end Go.Proofs.YthelklkfcllddaaGreatDoor
namespace Go.Proofs.YthelklkfcllddaaGreatDoor
set_option maxRecDepth 20000
open Go.RowKit
set_option linter.unusedVariables false
def lastAnyB (md : Region.Mode) (H : List Oper) (o : Oper) : Bool :=
  (List.range H.length).all (fun i => match H[i]? with | some x => x.guard.isNone && x.after.all (fun e => !Region.binds md e || decide (e.on < i)) | none => true) &&
  o.after.all (fun e => decide (e.on < H.length)) && (List.range H.length).all (fun i => (o.after.any fun e => Region.binds md e && e.on == i) || (List.range H.length).any fun j => match H[j]? with | some x => x.after.any (fun e => Region.binds md e && e.on == i) | none => false)
variable {P : Program} {md : Region.Mode} {C : World → Prop} {Q : Exit → Act → World → Prop} {H : List Oper} {o : Oper}
theorem lastAnyB_spec (h : lastAnyB md H o = true) : (∀ (i : Nat) (x : Oper), H[i]? = some x → x.guard = none ∧ ∀ e ∈ x.after, Region.binds md e = true → e.on < i) ∧ (∀ e ∈ o.after, e.on < H.length) ∧
    ∀ i, i < H.length → (∃ e ∈ o.after, Region.binds md e = true ∧ e.on = i) ∨ ∃ (j : Nat) (x : Oper), H[j]? = some x ∧ ∃ e ∈ x.after, Region.binds md e = true ∧ e.on = i := by
  unfold lastAnyB at h
  rw [Bool.and_eq_true, Bool.and_eq_true] at h
  obtain ⟨⟨h1, h2⟩, h3⟩ := h
  refine ⟨fun i x hx => ?_, fun e he => ?_, fun i hi => ?_⟩
  · have hi : i < H.length := by
      rcases Nat.lt_or_ge i H.length with k | k
      · exact k
      · rw [List.getElem?_eq_none k] at hx; cases hx
    have k := List.all_eq_true.1 h1 i (List.mem_range.2 hi)
    rw [hx] at k
    simp only [Bool.and_eq_true, Option.isNone_iff_eq_none] at k
    exact ⟨k.1, fun e he hb => by simpa [hb] using Array.all_eq_true'.1 k.2 e he⟩
  · simpa using Array.all_eq_true'.1 h2 e he
  · have k := List.all_eq_true.1 h3 i (List.mem_range.2 hi)
    rcases Bool.or_eq_true _ _ ▸ k with k | k
    · obtain ⟨e, he, hb⟩ := Array.any_eq_true'.1 k
      simp only [Bool.and_eq_true, beq_iff_eq] at hb
      exact .inl ⟨e, he, hb⟩
    · obtain ⟨j, hj, hb⟩ := List.any_eq_true.1 k
      split at hb
      · rename_i x hx
        obtain ⟨e, he, hb⟩ := Array.any_eq_true'.1 hb
        simp only [Bool.and_eq_true, beq_iff_eq] at hb
        exact .inr ⟨j, x, hx, e, he, hb⟩
      · cases hb
def ShutAny (md : Region.Mode) (H : List Oper) (L : Array Bool) : Prop := ∀ (j : Nat) (x : Oper), H[j]? = some x → L.getD j true = true → ∀ e ∈ x.after, Region.binds md e = true → L.getD e.on true = true
theorem all_up (hw : ∀ i, i < H.length → (∃ e ∈ o.after, Region.binds md e = true ∧ e.on = i) ∨ ∃ (j : Nat) (x : Oper), H[j]? = some x ∧ ∃ e ∈ x.after, Region.binds md e = true ∧ e.on = i)
    (hb : ∀ (i : Nat) (x : Oper), H[i]? = some x → x.guard = none ∧ ∀ e ∈ x.after, Region.binds md e = true → e.on < i) {L : Array Bool} (hS : ShutAny md H L) (hr : ∀ e ∈ o.after, Region.binds md e = true → L.getD e.on true = true) :
    ∀ n i, i < H.length → H.length ≤ i + n → L.getD i true = true
  | 0, i, hi, hn => by omega
  | n + 1, i, hi, hn => by
    rcases hw i hi with ⟨e, he, hbe, rfl⟩ | ⟨j, x, hx, e, he, hbe, rfl⟩
    · exact hr e he hbe
    · have hj : e.on < j := (hb j x hx).2 e he hbe
      have hjl : j < H.length := by
        rcases Nat.lt_or_ge j H.length with k | k
        · exact k
        · rw [List.getElem?_eq_none k] at hx; cases hx
      exact hS j x hx (all_up hw hb hS hr n j hjl (by omega)) e he hbe
theorem any_shut (hb : ∀ (i : Nat) (x : Oper), H[i]? = some x → x.guard = none ∧ ∀ e ∈ x.after, Region.binds md e = true → e.on < i) (ho : ∀ e ∈ o.after, e.on < H.length)
    (hw : ∀ i, i < H.length → (∃ e ∈ o.after, Region.binds md e = true ∧ e.on = i) ∨ ∃ (j : Nat) (x : Oper), H[j]? = some x ∧ ∃ e ∈ x.after, Region.binds md e = true ∧ e.on = i) :
    ∀ (fuel : Nat) (L : Array Bool) (a : Act) (w : World), L.size = H.length → ShutAny md H L → C w → wpAnyQ P md H.toArray C (fun a => ∀ w, C w → wpList P (H ++ [o]).toArray Q [o] a w) fuel L a →
      wpAny P md (H ++ [o]).toArray Q (fuel + 1) (L.push false) a w
  | 0, L, a, w, hs, hS, hC, h => one_left ho hs (none_left hb hs h.1) (h.2 w hC) 0
  | fuel + 1, L, a, w, hs, hS, hC, h => by
    by_cases e : Region.ready md H.toArray L = []
    · exact one_left ho hs (none_left hb hs e) (h.1 e w hC) (fuel + 1)
    · obtain ⟨i0, hi0⟩ := List.exists_mem_of_ne_nil _ e
      obtain ⟨u0, x0, y0, z0⟩ := mem_ready.1 hi0
      have l0 : i0 < H.length := by simpa using (Array.getElem?_eq_some_iff.1 y0).1
      have r0 : i0 ∈ Region.ready md (H ++ [o]).toArray (L.push false) := mem_ready.2 ⟨by rw [push_low (by omega)]; exact u0, x0, by rw [ops_low l0]; exact y0, fun e he hbi => by
        have h1 := (hb i0 x0 (by simpa using y0)).2 e he hbi
        rw [push_low (by omega)]
        exact z0 e he hbi⟩
      refine ⟨fun e1 => (by rw [e1] at r0; cases r0), fun i hi => ?_⟩
      obtain ⟨u, x, y, z⟩ := mem_ready.1 hi
      have h3 : i < H.length + 1 := by simpa using (Array.getElem?_eq_some_iff.1 y).1
      have hin : i < H.length := by
        rcases Nat.lt_or_ge i H.length with k | k
        · exact k
        · exfalso
          have : i = H.length := by omega
          subst this
          rw [ops_top] at y
          cases y
          have hr : ∀ e ∈ o.after, Region.binds md e = true → L.getD e.on true = true := fun e2 he2 hb2 => by
            have h4 := z e2 he2 hb2
            have h5 := ho e2 he2
            rw [push_low (by omega), getD_any (by omega) false true] at h4
            exact h4
          have h6 := all_up hw hb hS hr H.length i0 l0 (by omega)
          rw [u0] at h6
          cases h6
      rw [ops_low hin] at y
      have hx : H[i]? = some x := by simpa using y
      have hr : i ∈ Region.ready md H.toArray L := mem_ready.2 ⟨by rw [push_low (by omega)] at u; exact u, x, y, fun e he hbi => by
        have h1 := (hb i x hx).2 e he hbi
        have h2 := z e he hbi
        rw [push_low (by omega)] at h2
        exact h2⟩
      have hq := h.2 i hr
      have hq2 : qOp P (H ++ [o]).toArray C i (wpAnyQ P md H.toArray C (fun a => ∀ w, C w → wpList P (H ++ [o]).toArray Q [o] a w) fuel (L.setIfInBounds i true)) a := by
        unfold qOp at hq ⊢
        rw [ops_low hin]
        rw [y] at hq ⊢
        simp only [Region.wanted, (hb i x hx).1, if_true] at hq ⊢
        exact hq
      have hset : (L.push false).setIfInBounds i true = (L.setIfInBounds i true).push false := by
        apply Array.ext_getElem?
        intro j
        rw [Array.getElem?_setIfInBounds, Array.getElem?_push, Array.getElem?_push, Array.getElem?_setIfInBounds]
        simp only [Array.size_push, Array.size_setIfInBounds]
        by_cases hij : i = j
        · subst hij
          rw [if_pos rfl, if_pos (by omega), if_neg (by omega), if_pos rfl, if_pos (by omega)]
        · rw [if_neg hij, if_neg hij]
      rw [hset]
      have hS2 : ShutAny md H (L.setIfInBounds i true) := by
        intro j xj hxj hj e he hbe
        have hlt := (hb j xj hxj).2 e he hbe
        by_cases hji : j = i
        · subst hji
          rw [hx] at hxj
          cases hxj
          have h2 := z e he hbe
          rw [push_low (by omega)] at h2
          rw [getD_set_ne true (by omega)]
          rw [getD_any (by omega) false true] at h2
          exact h2
        · rw [getD_set_ne true (by omega)] at hj
          have h2 := hS j xj hxj hj e he hbe
          by_cases hei : e.on = i
          · rw [hei, Array.getD_eq_getD_getElem?, Array.getElem?_setIfInBounds_self_of_lt (by omega)]
            rfl
          · rw [getD_set_ne true (by omega)]
            exact h2
      exact wpOp_of_qOp hC (fun a' w' hC' h' => any_shut hb ho hw fuel _ a' w' (by simp [hs]) hS2 hC' h') hq2
theorem wp_region_shut {id : Nat} {a : Act} {w : World} {l : List Oper} (H : List Oper) (o : Oper) (hl : l = H ++ [o]) (hm : P.follows .mixedOrders = true) (hB : Region.lexB .any H.toArray = true) (hB2 : lastAnyB .any H o = true) (hC : C { w with drawn := w.drawn + 1 })
    (h : wpQuiet P H.toArray C (fun a' => ∀ w', C w' → wpList P l.toArray Q [o] a' w') H a) : (Code.region id l.toArray true).wp P Q a w := by
  subst hl
  simp only [Region.lexB, Bool.and_eq_true] at hB
  obtain ⟨h1, h2, h3⟩ := lastAnyB_spec hB2
  refine wp_region_any hm ?_
  have k := wpAnyQ_lex (C := C) (md := .any) hB.1 H 0 (Array.replicate H.toArray.size false) a (by simp) (by simpa using hB.2) h
  have hS : ShutAny .any H (Array.replicate H.toArray.size false) := by
    intro j x hx hj
    exfalso
    have hjl : j < H.length := by
      rcases Nat.lt_or_ge j H.length with k | k
      · exact k
      · rw [List.getElem?_eq_none k] at hx; cases hx
    simp [Array.getD, hjl] at hj
  have k2 := any_shut h1 h2 h3 H.length (Array.replicate H.toArray.size false) a _ (by simp) hS hC k
  have e : (Array.replicate H.toArray.size false).push false = Array.replicate (H ++ [o]).toArray.size false := by
    simp [Array.replicate_succ]
  rw [e] at k2
  simpa using k2
theorem wp_region_kept_shut {P : Program} {Q : Exit → Act → World → Prop} {id : Nat} {a : Act} {w : World} {l : List Oper} (H : List Oper) (o : Oper) (hl : l = H ++ [o]) (hm : P.follows .mixedOrders = true) (hB : Region.lexB .any H.toArray = true) (hB2 : lastAnyB .any H o = true)
    (h : wpQuiet P H.toArray (fun w' => ∃ x : Kept w, w' = x.val) (fun a' => ∀ w', (∃ x : Kept w, w' = x.val) → wpList P l.toArray Q [o] a' w') H a) : (Code.region id l.toArray true).wp P Q a w :=
  wp_region_shut (C := fun w' => ∃ x : Kept w, w' = x.val) H o hl hm hB hB2 ⟨kept (Below.refl _ w).drew, rfl⟩ h
end Go.Proofs.YthelklkfcllddaaGreatDoor
namespace Go.Proofs.YthelklkfcllddaaGreatDoor
set_option maxRecDepth 20000
open Go.RowKit
set_option linter.unusedVariables false
variable {P : Program} {md : Region.Mode} {H : List Oper} {C : World → Prop} {A1 : Act} {wa : World}
def inS (wa : World) (t : TypeId) : Option (Nat × Array Value) → World → Prop
  | none, w => Below wa.heap.size wa w
  | some (g, cs), w => Below wa.heap.size wa w ∧ w.heap[g]? = some (.cells cs t (0, 0)) ∧ wa.heap.size ≤ g
theorem inS.below {t : TypeId} {s : Option (Nat × Array Value)} {w : World} (h : inS wa t s w) : Below wa.heap.size wa w := by
  match s, h with
  | none, h => exact h
  | some (g, cs), h => exact h.1
theorem inS.next {t : TypeId} {s : Option (Nat × Array Value)} {w w' : World} (h : inS wa t s w) (k : Below w.heap.size w w') : inS wa t s w' := by
  match s, h with
  | none, h => exact bnext h k
  | some (g, cs), h => exact ⟨bnext h.1 k, (k.block g (lt_of_block h.2.1)).trans h.2.1, h.2.2⟩
variable {oA oS oF : Oper} {N : Nat} {dA : Tmp}
variable {Q : Exit → Act → World → Prop} {t : TypeId} {x : Tmp}
end Go.Proofs.YthelklkfcllddaaGreatDoor
namespace Go.Proofs.YthelklkfcllddaaGreatDoor
set_option maxRecDepth 20000
open Go.RowKit
set_option linter.unusedVariables false
variable {P : Program} {md : Region.Mode} {H : List Oper} {A1 : Act} {wa : World} {Q : Exit → Act → World → Prop} {oA oS : Oper} {N : Nat} {dA : Tmp} {tA : TypeId} {zA : Array Value}
end Go.Proofs.YthelklkfcllddaaGreatDoor
namespace Go.Proofs.YthelklkfcllddaaGreatDoor
set_option maxRecDepth 20000
open Go.RowKit
set_option linter.unusedVariables false
variable {P : Program} {md : Region.Mode} {Q : Exit → Act → World → Prop} {ops : Array Oper} {A1 : Act} {wa : World}
def inM (wa : World) (t : TypeId) (row : Array Value) : Option Nat → World → Prop
  | none, w => Below wa.heap.size wa w
  | some g, w => Below wa.heap.size wa w ∧ w.heap[g]? = some (.cells row t (0, 0)) ∧ wa.heap.size ≤ g
theorem inM.below {t : TypeId} {row : Array Value} {s : Option Nat} {w : World} (h : inM wa t row s w) : Below wa.heap.size wa w := by
  match s, h with
  | none, h => exact h
  | some g, h => exact h.1
theorem inM.next {t : TypeId} {row : Array Value} {s : Option Nat} {w w' : World} (h : inM wa t row s w) (k : Below w.heap.size w w') : inM wa t row s w' := by
  match s, h with
  | none, h => exact bnext h k
  | some g, h => exact ⟨bnext h.1 k, (k.block g (lt_of_block h.2.1)).trans h.2.1, h.2.2⟩
variable {R T : List Oper} {oA o1 : Oper} {N : Nat} {dA : Tmp} {vA : Nat → Value} {t : TypeId} {row : Array Value}
end Go.Proofs.YthelklkfcllddaaGreatDoor
namespace Go.Proofs.YthelklkfcllddaaGreatDoor
set_option maxRecDepth 20000
open Go.RowKit
theorem results_agg_tmp {P : Program} {fn : Func} {p u : Tmp} {ty : TypeId} (h : fn.results = #[.cell p ty, .tmp u]) (tmps : Array Value) (w : World) (g : Nat) (t : TypeId) (cs : Array Value) (fr : Nat × Nat) (d : TypeDesc)
    (hp : tmps.getD p undef = .pointer (some ⟨g, 0, none⟩)) (hg : w.heap[g]? = some (.cells cs t fr))
    (hu : P.underlying ty = some d) (hd : (match d with | .struct _ | .array _ _ => true | _ => false) = true) (hi : (P.info? ty).map (·.size) = some cs.size) :
    (results fn tmps).run P w = .ok (.tuple #[.agg cs, tmps.getD u undef]) w := by
  rw [results_cell_tmp h, hp]
  simp [asAddr, Result.andThen, run_loadVar_row w g t ty cs fr d hg hu hd hi]
def Box (t : TypeId) (w : World) (b : Nat) (v : Int) : Prop := w.heap[b]? = some (.cells #[.int .i64 v] t (0, 0))
theorem Box.cell {t : TypeId} {w : World} {b : Nat} {v : Int} (h : Box t w b v) : w.cell? ⟨b, 0, none⟩ = some (.int .i64 v) := cell_of_one h
theorem Box.below {B : Nat} {t : TypeId} {w w' : World} {b : Nat} {v : Int} (h : Box t w b v) (k : Below B w w') (hb : b < B) : Box t w' b v := (k.block b hb).trans h
theorem Box.lt {t : TypeId} {w : World} {b : Nat} {v : Int} (h : Box t w b v) : b < w.heap.size := lt_of_block h
theorem Box.next {t : TypeId} {w w' : World} {b : Nat} {v : Int} (h : Box t w b v) (k : Below w.heap.size w w') : Box t w' b v := h.below k h.lt
end Go.Proofs.YthelklkfcllddaaGreatDoor
namespace Go.Proofs.YthelklkfcllddaaGreatDoor
set_option maxRecDepth 20000
open Go.RowKit
set_option linter.unusedVariables false
theorem under_name {P : Program} {c : Code} {Q : Exit → Act → World → Prop} {a : Act} {w : World} (h : ∀ wa, wa = w → Code.wp P c Q a wa) : Code.wp P c Q a w := h w rfl
theorem under_list {P : Program} {ops : Array Oper} {Q : Exit → Act → World → Prop} {rest : List Oper} {a : Act} {w : World} (h : ∀ u, u = w → wpList P ops Q rest a u) : wpList P ops Q rest a w := h w rfl
theorem two_named {w wa : World} {o0 o1 : Obj} (h : wa = (w.alloc o0).alloc o1) :
    wa.heap[w.heap.size]? = some o0 ∧ wa.heap[w.heap.size + 1]? = some o1 ∧ w.heap.size + 1 < wa.heap.size ∧ Below w.heap.size w wa := by
  have e : wa.heap = (w.heap.push o0).push o1 := by rw [h]; rfl
  refine ⟨?_, ?_, ?_, ?_⟩
  · rw [e, Array.getElem?_push, if_neg (by simp), Array.getElem?_push, if_pos rfl]
  · rw [e, Array.getElem?_push, if_pos (by simp)]
  · rw [e]; simp
  · rw [h]
    exact ((Below.refl _ w).alloc (Nat.le_refl _) _).alloc (by simp) _
end Go.Proofs.YthelklkfcllddaaGreatDoor
namespace Go.Proofs.YthelklkfcllddaaGreatDoor
set_option maxRecDepth 20000
open Go.RowKit
set_option linter.unusedVariables false
end Go.Proofs.YthelklkfcllddaaGreatDoor
namespace Go.Proofs.YthelklkfcllddaaGreatDoor
set_option maxRecDepth 20000
open Go.RowKit
set_option linter.unusedVariables false
end Go.Proofs.YthelklkfcllddaaGreatDoor
namespace Go.Proofs.YthelklkfcllddaaGreatDoor
set_option maxRecDepth 20000
open Go.RowKit
def IsRow (k : IntKind) (w : World) (a : Option Addr) (len cap : Nat) (zs : List Int) : Prop :=
  (a = none ∧ len = 0 ∧ cap = 0 ∧ zs = []) ∨ ∃ x, a = some x ∧ len ≤ cap ∧ cap ≤ maxLen ∧ zs.length = cap ∧ (∀ i, i < zs.length → w.cell? (x.add i) = some (.int k (zs.getD i 0))) ∧ ∀ n ∈ zs, (Lit.int k n).wf = true
theorem cell_lt {w : World} {a : Addr} {v : Value} (h : w.cell? a = some v) : a.block < w.heap.size := by
  rcases Nat.lt_or_ge a.block w.heap.size with k | k
  · exact k
  · simp [World.cell?, Array.getElem?_eq_none k] at h
theorem IsRow.cut {k : IntKind} {w : World} {a : Option Addr} {len cap n : Nat} {zs : List Int} (h : IsRow k w a len cap zs) (hn : n ≤ len) : IsRow k w a n cap zs := by
  rcases h with ⟨rfl, rfl, rfl, rfl⟩ | ⟨x, rfl, h1, h2, h3, h4, h5⟩
  · exact .inl ⟨rfl, by omega, rfl, rfl⟩
  · exact .inr ⟨x, rfl, by omega, h2, h3, h4, h5⟩
theorem IsRow.cells {k : IntKind} {w : World} {a : Option Addr} {len cap : Nat} {zs : List Int} (h : IsRow k w a len cap zs) (hl : 0 < len) :
    ∃ b off, a = some ⟨b, off, none⟩ ∧ b < w.heap.size ∧ len ≤ cap ∧ cap ≤ maxLen ∧ ∀ i, i < len → w.cell? ⟨b, off + i, none⟩ = some (.int k (zs.getD i 0)) ∧ (Lit.int k (zs.getD i 0)).wf = true := by
  rcases h with ⟨rfl, rfl, rfl, rfl⟩ | ⟨x, rfl, h1, h2, h3, h4, h5⟩
  · omega
  · have c0 := h4 0 (by omega)
    have e0 : x.add 0 = x := rfl
    rw [e0] at c0
    have hs := World.cell?_spot c0
    obtain ⟨b, off, sp⟩ := x
    simp only at hs
    subst hs
    refine ⟨b, off, rfl, cell_lt c0, h1, h2, fun i hi => ⟨?_, ?_⟩⟩
    · have := h4 i (by omega)
      rw [← this]
      congr 1
      unfold Addr.add
      split <;> simp_all
    · have hi' : i < zs.length := by omega
      refine h5 _ ?_
      rw [List.getD_eq_getElem?_getD, List.getElem?_eq_getElem hi']
      exact List.getElem_mem hi'
theorem IsRow.next {k : IntKind} {w w' : World} {a : Option Addr} {len cap : Nat} {zs : List Int} (h : IsRow k w a len cap zs) (b : Below w.heap.size w w') : IsRow k w' a len cap zs := by
  rcases h with h | ⟨x, rfl, h1, h2, h3, h4, h5⟩
  · exact .inl h
  · exact .inr ⟨x, rfl, h1, h2, h3, fun i hi => (b.cell (cell_lt (h4 i hi))).trans (h4 i hi), h5⟩
theorem u8_range {z : Int} (h : (Lit.int .u8 z).wf = true) : 0 ≤ z ∧ z < 256 := by
  simp [Lit.wf] at h
  have : (IntKind.u8.min : Int) = 0 := by decide
  have : (IntKind.u8.max : Int) = 255 := by decide
  omega
def Bytes (T : TypeId) (w : World) (g : Nat) (bs : List Int) : Prop := w.heap[g]? = some (.cells (bs.map (Value.int .u8)).toArray T (0, 0)) ∧ ∀ z ∈ bs, 0 ≤ z ∧ z < 256
theorem Bytes.lt {T : TypeId} {w : World} {g : Nat} {bs : List Int} (h : Bytes T w g bs) : g < w.heap.size := by
  rcases Nat.lt_or_ge g w.heap.size with k | k
  · exact k
  · have := h.1
    rw [Array.getElem?_eq_none k] at this
    cases this
theorem Bytes.below {T : TypeId} {B : Nat} {w w' : World} {g : Nat} {bs : List Int} (h : Bytes T w g bs) (b : Below B w w') (hB : g < B) : Bytes T w' g bs := ⟨(b.block g hB).trans h.1, h.2⟩
theorem Bytes.next {T : TypeId} {w w' : World} {g : Nat} {bs : List Int} (h : Bytes T w g bs) (b : Below w.heap.size w w') : Bytes T w' g bs := h.below b h.lt
theorem Bytes.cell {T : TypeId} {w : World} {g : Nat} {bs : List Int} (h : Bytes T w g bs) (i : Nat) (hi : i < bs.length) :
    w.cell? ⟨g, i, none⟩ = some (.int .u8 (bs.getD i 0)) ∧ 0 ≤ bs.getD i 0 ∧ bs.getD i 0 < 256 := by
  rw [cell_of_row w g i _ T (0, 0) h.1, List.getD_eq_getElem?_getD, List.getElem?_eq_getElem hi]
  refine ⟨by simp [hi], ?_⟩
  exact h.2 _ (List.getElem_mem hi)
theorem Bytes.free {T : TypeId} {w : World} {g : Nat} {bs : List Int} (h : Bytes T w g bs) (i : Nat) : w.frozen? ⟨g, i, none⟩ = false := by
  simp [World.frozen?, h.1]
theorem Bytes.put {T : TypeId} {w : World} {g : Nat} {bs : List Int} (h : Bytes T w g bs) (i : Nat) (v : Int) (hv : 0 ≤ v ∧ v < 256) :
    Bytes T (w.setCell ⟨g, i, none⟩ (.int .u8 v)) g (bs.set i v) := by
  refine ⟨?_, ?_⟩
  · rw [heap_setCell_same w g i _ T _ h.1]
    simp
  · intro z hz
    rcases List.mem_or_eq_of_mem_set hz with hz | rfl
    · exact h.2 z hz
    · exact hv
theorem Bytes.other {T : TypeId} {w : World} {g : Nat} {bs : List Int} (h : Bytes T w g bs) (a : Addr) (ha : g ≠ a.block) (v : Value) : Bytes T (w.setCell a v) g bs :=
  ⟨(heap_setCell_other w a g v ha).trans h.1, h.2⟩
theorem Bytes.drew {T : TypeId} {w : World} {g : Nat} {bs : List Int} (h : Bytes T w g bs) : Bytes T w.drew g bs := h
theorem make_bytes {P : Program} {t e : TypeId} {i : TypeInfo} (ht : P.underlying t = some (.slice e)) (hi : P.info? e = some i) (hz : i.zero = some (.int .u8 0)) (hs : i.size = 1) (hb : i.bytes = 1)
    (n : Nat) (hn : n ≤ 281474976710656) (w : World) :
    (Instr.makeSlice t (.int .i64 (n : Int)) (.int .i64 (n : Int))).run P w = .ok (.slice (some ⟨w.heap.size, 0, none⟩) n n) (w.alloc (.cells ((List.replicate n (0 : Int)).map (Value.int .u8)).toArray e)) := by
  rw [Go.run_make w t e i (.int .u8 0) ht hi hz .i64 .i64 n n (by omega) (by omega) (by rw [hb]; omega) (by omega)]
  have e1 : madeCells (Value.cells (.int .u8 0)) (n * i.size) = ((List.replicate n (0 : Int)).map (Value.int .u8)).toArray := by
    rw [hs, Nat.mul_one]
    apply Array.toList_inj.1
    show (madeCells #[.int .u8 0] n).toList = _
    rw [toList_madeCells_one]
    simp
  simp only [Int.toNat_natCast, e1]
theorem Bytes.made {T : TypeId} {w : World} {n : Nat} : Bytes T (w.alloc (.cells ((List.replicate n (0 : Int)).map (Value.int .u8)).toArray T)) w.heap.size (List.replicate n 0) :=
  ⟨heap_alloc_new w _, fun z hz => by rw [List.eq_of_mem_replicate hz]; omega⟩
end Go.Proofs.YthelklkfcllddaaGreatDoor
namespace Go.Proofs.YthelklkfcllddaaGreatDoor
set_option maxRecDepth 20000
open Go.RowKit
set_option linter.unusedVariables false
variable {P : Program} {md : Region.Mode} {Q : Exit → Act → World → Prop}
def putAll (a : Act) : List Oper → Nat → (Nat → Value) → Act
  | [], _, _ => a
  | o :: rest, k, vals => putAll (a.put o.dst (vals k)) rest (k + 1) vals
def updV (vals : Nat → Value) (i : Nat) (v : Value) : Nat → Value := fun j => if j = i then v else vals j
theorem put_comm (a : Act) {d d' : Option Tmp} (h : ∀ x, d = some x → d' = some x → False) (v v' : Value) : (a.put d v).put d' v' = (a.put d' v').put d v := by
  cases d with
  | none => rfl
  | some x =>
    cases d' with
    | none => rfl
    | some y =>
      have e : x ≠ y := fun k => h x rfl (by rw [k])
      show ({ a with tmps := (a.tmps.setIfInBounds x v).setIfInBounds y v' } : Act) = { a with tmps := (a.tmps.setIfInBounds y v').setIfInBounds x v }
      rw [Array.setIfInBounds_comm _ _ e]
theorem put_twice (a : Act) (d : Option Tmp) (v v' : Value) : (a.put d v).put d v' = a.put d v' := by
  cases d with
  | none => rfl
  | some x =>
    show ({ a with tmps := (a.tmps.setIfInBounds x v).setIfInBounds x v' } : Act) = { a with tmps := a.tmps.setIfInBounds x v' }
    simp
theorem put_own (a : Act) (d : Option Tmp) (v : Value) (h : ∀ x, d = some x → v = a.tmps.getD x undef) : a.put d v = a := by
  cases d with
  | none => rfl
  | some x =>
    rw [h x rfl]
    show ({ a with tmps := a.tmps.setIfInBounds x (a.tmps.getD x undef) } : Act) = a
    have e : a.tmps.setIfInBounds x (a.tmps.getD x undef) = a.tmps := by
      apply Array.ext_getElem?
      intro j
      rw [Array.getElem?_setIfInBounds]
      split
      · rename_i k
        subst k
        split
        · rename_i k
          simp [k]
        · rename_i k
          rw [Array.getElem?_eq_none (by omega)]
      · rfl
    rw [e]
theorem putAll_ext {vals vals' : Nat → Value} : ∀ (l : List Oper) (a : Act) (k : Nat), (∀ j, k ≤ j → vals j = vals' j) → putAll a l k vals = putAll a l k vals'
  | [], _, _, _ => rfl
  | o :: rest, a, k, h => by
    show putAll (a.put o.dst (vals k)) rest (k + 1) vals = putAll (a.put o.dst (vals' k)) rest (k + 1) vals'
    rw [h k (Nat.le_refl _)]
    exact putAll_ext rest _ _ fun j hj => h j (by omega)
theorem putAll_past (d : Option Tmp) (v : Value) (vals : Nat → Value) : ∀ (l : List Oper) (a : Act) (k : Nat), (∀ o ∈ l, ∀ x, o.dst = some x → d = some x → False) → (putAll a l k vals).put d v = putAll (a.put d v) l k vals
  | [], _, _, _ => rfl
  | o :: rest, a, k, h => by
    show (putAll (a.put o.dst (vals k)) rest (k + 1) vals).put d v = putAll ((a.put d v).put o.dst (vals k)) rest (k + 1) vals
    rw [putAll_past d v vals rest _ _ (fun p hp => h p (List.mem_cons_of_mem _ hp)), put_comm _ (fun x e1 e2 => h o (List.mem_cons_self ..) x e1 e2)]
def slotsB : List Oper → Bool
  | [] => true
  | o :: rest => rest.all (fun p => match o.dst, p.dst with | some x, some y => x != y | _, _ => true) && slotsB rest
theorem slotsB_head {o : Oper} {rest : List Oper} (h : slotsB (o :: rest) = true) : (∀ p ∈ rest, ∀ x, p.dst = some x → o.dst = some x → False) ∧ slotsB rest = true := by
  simp only [slotsB, Bool.and_eq_true] at h
  refine ⟨fun p hp x e1 e2 => ?_, h.2⟩
  have k := List.all_eq_true.1 h.1 p hp
  simp [e1, e2] at k
theorem putAll_put (v : Value) : ∀ (l : List Oper) (a : Act) (k i : Nat) (o : Oper) (vals : Nat → Value), slotsB l = true → l[i]? = some o → (putAll a l k vals).put o.dst v = putAll a l k (updV vals (k + i) v)
  | [], _, _, _, _, _, _, h => by cases h
  | p :: rest, a, k, 0, o, vals, hs, h => by
    obtain rfl : p = o := by simpa using h
    have e : putAll a (p :: rest) k (updV vals (k + 0) v) = putAll (a.put p.dst v) rest (k + 1) (updV vals (k + 0) v) := by
      show putAll (a.put p.dst (updV vals (k + 0) v k)) rest (k + 1) _ = _
      have e2 : updV vals (k + 0) v k = v := by unfold updV; rw [if_pos (by omega)]
      rw [e2]
    rw [e, putAll_ext rest _ _ (vals' := vals) (fun j hj => by unfold updV; rw [if_neg (by omega)])]
    show (putAll (a.put p.dst (vals k)) rest (k + 1) vals).put p.dst v = _
    rw [putAll_past _ _ _ _ _ _ (fun q hq x e1 e2 => (slotsB_head hs).1 q hq x e1 e2), put_twice]
  | p :: rest, a, k, i + 1, o, vals, hs, h => by
    have h' : rest[i]? = some o := by simpa using h
    have e : putAll a (p :: rest) k (updV vals (k + (i + 1)) v) = putAll (a.put p.dst (vals k)) rest (k + 1) (updV vals (k + 1 + i) v) := by
      show putAll (a.put p.dst (updV vals (k + (i + 1)) v k)) rest (k + 1) (updV vals (k + (i + 1)) v) = _
      have e2 : updV vals (k + (i + 1)) v k = vals k := by unfold updV; rw [if_neg (by omega)]
      rw [e2, show k + (i + 1) = k + 1 + i by omega]
    rw [e]
    exact putAll_put v rest _ (k + 1) i o vals (slotsB_head hs).2 h'
def aheadB (md : Region.Mode) (l : List Oper) : Bool := (List.range l.length).all fun i => match l[i]? with | some o => o.after.all (fun e => !Region.binds md e || decide (e.on < i)) | none => true
theorem aheadB_spec {l : List Oper} (h : aheadB md l = true) {i : Nat} {o : Oper} (ho : l[i]? = some o) : ∀ e ∈ o.after, Region.binds md e = true → e.on < i := by
  intro e he hb
  have hi : i < l.length := by
    rcases Nat.lt_or_ge i l.length with k | k
    · exact k
    · rw [List.getElem?_eq_none k] at ho; cases ho
  have k := List.all_eq_true.1 h i (List.mem_range.2 hi)
  simp only [ho] at k
  have k2 := Array.all_eq_true'.1 k e he
  simp [hb] at k2
  exact k2
theorem none_ready {l : List Oper} (hA : aheadB md l = true) {L : Array Bool} (h : Region.ready md l.toArray L = []) (hs : L.size = l.length) : ∀ i, i < l.length → L.getD i true = true := by
  intro i
  induction i using Nat.strongRecOn with
  | _ i ih =>
    intro hi
    cases k : L.getD i true with
    | true => rfl
    | false =>
      have : i ∈ Region.ready md l.toArray L := mem_ready.2 ⟨k, l[i], by simp, fun e he hb => by
        have h1 := aheadB_spec hA (show l[i]? = some l[i] by simp) e he hb
        have h2 := ih e.on h1 (by omega)
        rw [getD_any (by omega) false true]
        exact h2⟩
      rw [h] at this
      cases this
def unlisted (L : Array Bool) : Nat := (L.toList.filter fun b => !b).length
theorem unlisted_set {L : Array Bool} {i : Nat} (h : L.getD i true = false) : unlisted L = unlisted (L.setIfInBounds i true) + 1 := by
  have hi : i < L.size := by
    rcases Nat.lt_or_ge i L.size with k | k
    · exact k
    · rw [Array.getD_eq_getD_getElem?, Array.getElem?_eq_none k] at h; cases h
  have hv : L.toList[i]'(by simpa using hi) = false := by
    rw [Array.getD_eq_getD_getElem?, Array.getElem?_eq_getElem hi] at h
    simpa using h
  unfold unlisted
  rw [Array.toList_setIfInBounds]
  have aux : ∀ (xs : List Bool) (i : Nat) (hi : i < xs.length), xs[i] = false → (xs.filter fun b => !b).length = ((xs.set i true).filter fun b => !b).length + 1 := by
    intro xs
    induction xs with
    | nil => intro i hi; cases hi
    | cons x xs ih =>
      intro i hi he
      cases i with
      | zero =>
        have : x = false := by simpa using he
        subst this
        simp
      | succ i =>
        have k := ih i (by simpa using hi) (by simpa using he)
        cases x with
        | true => simpa using k
        | false => simp only [List.set_cons_succ, List.filter_cons, Bool.not_false, if_true, List.length_cons]; omega
  exact aux _ _ _ hv
theorem unlisted_zero {L : Array Bool} (h : unlisted L = 0) (i : Nat) : L.getD i true = true := by
  cases k : L.getD i true with
  | true => rfl
  | false => have := unlisted_set k; omega
theorem wp_both {o : Oper} {a : Act} {w : World} {K K' : Act → World → Prop} {Q Q' : Exit → Act → World → Prop} (h : ∀ a w, K a w → K' a w) (hq : ∀ x a w, x ≠ .normal → Q x a w → Q' x a w) (hh : o.wp P a w K Q) : o.wp P a w K' Q' := by
  unfold Oper.wp at *
  generalize (execOp a.eval o).run P w = r at *
  have out : LetsOut Q → LetsOut Q' := fun ⟨a, w, k⟩ => ⟨a, w, hq _ _ _ (by intro e; cases e) k⟩
  cases r with
  | ok n w' =>
    cases n <;> simp only [Oper.upon] at hh ⊢ <;>
      first
        | exact h _ _ hh
        | exact Calls.mono hh (fun e w'' he => by cases e <;> first | exact h _ _ he | exact hq _ _ _ (by intro e; cases e) he | exact out he)
        | exact Rows.mono hh (fun _ _ he => h _ _ he)
  | halt x w' =>
    cases x <;> simp only [Oper.upon] at hh ⊢ <;> first | exact hh | exact hq _ _ _ (by intro e; cases e) hh
end Go.Proofs.YthelklkfcllddaaGreatDoor
namespace Go.Proofs.YthelklkfcllddaaGreatDoor
set_option maxRecDepth 20000
open Go.ChangeShapes Go.WideShapes Go.ChangeAt Go.RowKit
theorem laidOut : laidOutB Tryz.prog = true := by kernel_rfl
theorem open_array_ints {H : Type} {enc : TypeId × Value → H} {P : Program} {W : World} {r : Reach} {base b0 : Nat} {sp : Nat → Bool} {held : Bool} {t e : TypeId} {n : Nat} {k : IntKind} {v : Value} {d : DataW H} {ps : List MemPlace}
    (ht : P.underlying t = some (.array n e)) (he : P.underlying e = some (.int k)) (hce : P.cellsOf e = 1) (hct : P.cellsOf t = n)
    (hok : Value.okWide P W r base t v) (h : DataW.Trod enc P W b0 sp held t v d ps) :
    ∃ zs : List Int, zs.length = n ∧ v = .agg (zs.map (Value.int k)).toArray ∧ ∀ z ∈ zs, (Lit.int k z).wf = true := by
  obtain ⟨cs, rfl, hsz, _⟩ : ∃ cs, v = .agg cs ∧ cs.size = P.cellsOf t ∧ Row.okWide P W r base t cs := by
    simpa [Value.okWide, ht] using hok
  obtain ⟨fuel, hf⟩ := h
  obtain ⟨xs, m, _, ex, _, hl, hel⟩ := DataW.trod_array ht hf
  rw [hct] at hsz
  have each : ∀ i, (hi : i < n) → ∃ z, cs.toList[i]? = some (.int k z) ∧ (Lit.int k z).wf = true := by
    intro i hi
    have g := hel i hi
    rw [hce] at g
    have hx : xs[i]? = some xs[i] := List.getElem?_eq_getElem (by omega)
    rw [hx] at g
    obtain ⟨z, e1, _, wz⟩ := DataW.trod_int he g
    refine ⟨z, ?_, wz⟩
    have e3 : (cs.toList.drop i).take 1 = [Value.int k z] := by simpa [Value.cells] using e1
    have hi' : i < cs.toList.length := by simpa using (by omega : i < cs.size)
    rw [List.getElem?_eq_getElem hi']
    rw [List.drop_eq_getElem_cons hi'] at e3
    simpa using e3
  refine ⟨cs.toList.map intOf, by simpa using hsz, ?_, ?_⟩
  · congr 1
    apply Array.toList_inj.1
    simp only [List.map_map]
    apply List.ext_getElem?
    intro i
    by_cases hi : i < n
    · obtain ⟨z, hz, _⟩ := each i hi
      simp [List.getElem?_map, hz, intOf]
    · have hn : cs.toList[i]? = none := List.getElem?_eq_none (by simpa using (by omega : cs.size ≤ i))
      simp [List.getElem?_map, hn]
  · intro z hz
    obtain ⟨c, hc, rfl⟩ := List.mem_map.1 hz
    obtain ⟨i, hi, rfl⟩ := List.mem_iff_getElem.1 hc
    have hi2 : i < cs.size := by simpa using hi
    obtain ⟨z, hz', wz⟩ := each i (by omega)
    rw [List.getElem?_eq_getElem hi] at hz'
    rw [Option.some.inj hz']
    exact wz
end Go.Proofs.YthelklkfcllddaaGreatDoor
namespace Go.Proofs.YthelklkfcllddaaGreatDoor
set_option maxRecDepth 20000
open Go.ChangeShapes Go.WideShapes Go.ChangeAt Go.RowKit
theorem open_struct_cells {H : Type} {enc : TypeId × Value → H} {P : Program} {W : World} {r : Reach} {base b0 : Nat} {sp : Nat → Bool} {held : Bool} {t : TypeId} {fs : Array Field} {n : Nat} {v : Value} {d : DataW H} {ps : List MemPlace}
    (ht : P.underlying t = some (.struct fs)) (hct : P.cellsOf t = n) (hok : Value.okWide P W r base t v) (h : DataW.Trod enc P W b0 sp held t v d ps) :
    ∃ (cs : Array Value) (fuel : Nat), v = .agg cs ∧ cs.size = n ∧ ∀ (i : Nat) (f : Field), fs[i]? = some f → ∃ y, DataW.trod enc P W b0 sp held fuel f.type ((cs.toList.drop f.offset).take (P.cellsOf f.type)) = some y := by
  obtain ⟨cs, rfl, hsz, _⟩ : ∃ cs, v = .agg cs ∧ cs.size = P.cellsOf t ∧ Row.okWide P W r base t cs := by
    simpa [Value.okWide, ht] using hok
  obtain ⟨fuel, hf⟩ := h
  obtain ⟨xs, m, _, ex, _, hl, hel⟩ := DataW.trod_struct ht hf
  refine ⟨cs, m, rfl, hsz.trans hct, fun i f hi => ?_⟩
  have g := hel i f hi
  have hlt : i < fs.size := (Array.getElem?_eq_some_iff.1 hi).1
  rw [List.getElem?_eq_getElem (by omega)] at g
  exact ⟨_, g⟩
theorem cell_at {cs : Array Value} {i k : Nat} {v : Value} (hk : k = 1) (h : (cs.toList.drop i).take k = [v]) : cs[i]? = some v := by
  subst hk
  rcases Nat.lt_or_ge i cs.size with hi | hi
  · have hi' : i < cs.toList.length := by simpa using hi
    rw [List.drop_eq_getElem_cons hi'] at h
    rw [Array.getElem?_eq_getElem hi]
    simpa using h
  · rw [List.drop_eq_nil_of_le (by simpa using hi)] at h
    simp at h
theorem cells_are {cs : Array Value} (xs : List Value) (h : cs.size = xs.length) (k : ∀ i, i < xs.length → cs[i]? = xs[i]?) : cs = xs.toArray := by
  apply Array.toList_inj.1
  apply List.ext_getElem?
  intro i
  rcases Nat.lt_or_ge i xs.length with hi | hi
  · simpa using k i hi
  · rw [List.getElem?_eq_none (by simpa using (by omega : cs.size ≤ i))]
    simp [List.getElem?_eq_none hi]
end Go.Proofs.YthelklkfcllddaaGreatDoor
namespace Go.Proofs.YthelklkfcllddaaGreatDoor
set_option maxRecDepth 20000
open Go.ChangeShapes Go.WideShapes Go.ChangeAt Go.RowKit
def FieldOk : Option IntKind → Value → Prop
  | some k, v => ∃ z, v = .int k z ∧ (Lit.int k z).wf = true
  | none, v => ∃ b, v = .bool b
def IsStructs (ks : List (Option IntKind)) (w : World) (a : Option Addr) (len cap : Nat) : Prop :=
  (a = none ∧ len = 0 ∧ cap = 0) ∨ ∃ x, a = some x ∧ len ≤ cap ∧ cap ≤ maxLen ∧ ∀ i, i < len → ∀ j k, ks[j]? = some k → ∃ v, FieldOk k v ∧ w.cell? (x.add (i * ks.length + j)) = some v
theorem IsStructs.max {ks : List (Option IntKind)} {w : World} {a : Option Addr} {len cap : Nat} (h : IsStructs ks w a len cap) : len ≤ maxLen := by
  rcases h with ⟨_, rfl, _⟩ | ⟨x, _, h1, h2, _⟩
  · exact Nat.zero_le _
  · omega
theorem IsStructs.cells {k0 : Option IntKind} {ks : List (Option IntKind)} {w : World} {a : Option Addr} {len cap : Nat} (h : IsStructs (k0 :: ks) w a len cap) (hl : 0 < len) :
    ∃ b off, a = some ⟨b, off, none⟩ ∧ b < w.heap.size ∧ len ≤ cap ∧ cap ≤ maxLen ∧ ∀ i, i < len → ∀ j k, (k0 :: ks)[j]? = some k → ∃ v, FieldOk k v ∧ w.cell? ⟨b, off + (i * (k0 :: ks).length + j), none⟩ = some v := by
  rcases h with ⟨rfl, rfl, rfl⟩ | ⟨x, rfl, h1, h2, h3⟩
  · omega
  · obtain ⟨v, _, c0⟩ := h3 0 hl 0 k0 rfl
    have e0 : x.add (0 * (k0 :: ks).length + 0) = x := by rw [Nat.zero_mul]; rfl
    rw [e0] at c0
    have hs := World.cell?_spot c0
    obtain ⟨b, off, sp⟩ := x
    simp only at hs
    subst hs
    refine ⟨b, off, rfl, cell_lt c0, h1, h2, fun i hi j k hk => ?_⟩
    obtain ⟨v, fv, cv⟩ := h3 i hi j k hk
    refine ⟨v, fv, ?_⟩
    rw [← cv]
    congr 1
    unfold Addr.add
    split <;> simp_all
end Go.Proofs.YthelklkfcllddaaGreatDoor
namespace Go.Proofs.YthelklkfcllddaaGreatDoor
set_option maxRecDepth 20000
open Go.RowKit
end Go.Proofs.YthelklkfcllddaaGreatDoor
namespace Go.Proofs.YthelklkfcllddaaGreatDoor
set_option maxRecDepth 20000
open Go.RowKit
set_option linter.unusedVariables false
def rowF (c : Nat → Value) (N : Nat) : Array Value := ((List.range N).map c).toArray
def iv (f : Nat → Int) : Nat → Value := fun i => .int .i64 (f i)
def updC (c : Nat → Value) (i : Nat) (v : Value) : Nat → Value := fun j => if j = i then v else c j
def up (f : Nat → Int) (i : Nat) (v : Int) : Nat → Int := fun j => if j = i then v else f j
theorem updC_iv (f : Nat → Int) (i : Nat) (v : Int) : updC (iv f) i (.int .i64 v) = iv (up f i v) := by
  funext j
  simp only [updC, iv, up]
  split <;> rfl
theorem rowF_size (c : Nat → Value) (N : Nat) : (rowF c N).size = N := by simp [rowF]
theorem rowF_at (c : Nat → Value) (N j : Nat) (h : j < N) : (rowF c N)[j]? = some (c j) := by simp [rowF, h]
theorem rowF_none (c : Nat → Value) (N j : Nat) (h : ¬ j < N) : (rowF c N)[j]? = none := Array.getElem?_eq_none (by rw [rowF_size]; omega)
theorem rowF_ext {c d : Nat → Value} {N : Nat} (h : ∀ j, j < N → c j = d j) : rowF c N = rowF d N := by
  unfold rowF
  congr 1
  apply List.map_congr_left
  intro j hj
  exact h j (List.mem_range.1 hj)
theorem rowF_set (c : Nat → Value) (N i : Nat) (v : Value) : (rowF c N).setIfInBounds i v = rowF (updC c i v) N := by
  apply Array.ext_getElem?
  intro j
  rw [Array.getElem?_setIfInBounds, rowF_size]
  by_cases k : j < N
  · rw [rowF_at _ _ _ k, rowF_at _ _ _ k]
    by_cases e : i = j
    · subst e; simp [k, updC]
    · rw [if_neg e]; simp [updC, show ¬ j = i from fun h => e h.symm]
  · rw [rowF_none _ _ _ k, rowF_none _ _ _ k]
    by_cases e : i = j
    · subst e; simp [k]
    · rw [if_neg e]
theorem rowF_one (f : Nat → Int) (N : Nat) : (rowF (iv f) N).all (·.oneCell') = true := by
  unfold rowF iv
  rw [← Array.all_toList]
  simp [Value.oneCell']
theorem rowF_list (c : Nat → Value) (N : Nat) : (rowF c N).toList = (List.range N).map c := rfl
def HasF (T : TypeId) (w : World) (b N : Nat) (c : Nat → Value) : Prop := w.heap[b]? = some (.cells (rowF c N) T (0, 0))
theorem HasF.lt {T : TypeId} {w : World} {b N : Nat} {c : Nat → Value} (h : HasF T w b N c) : b < w.heap.size := lt_of_block h
theorem HasF.next {T : TypeId} {w : World} {b N : Nat} {c : Nat → Value} (h : HasF T w b N c) {w' : World} (k : Below w.heap.size w w') : HasF T w' b N c := (k.block b (lt_of_block h)).trans h
theorem HasF.at {T : TypeId} {w : World} {b N : Nat} {c : Nat → Value} (h : HasF T w b N c) (j : Nat) (hj : j < N) : w.cell? ⟨b, j, none⟩ = some (c j) := (cell_of_row w b j _ _ _ h).trans (rowF_at c N j hj)
theorem HasF.int {T : TypeId} {w : World} {b N : Nat} {f : Nat → Int} (h : HasF T w b N (iv f)) (j : Nat) (hj : j < N) : w.cell? ⟨b, j, none⟩ = some (.int .i64 (f j)) := h.at j hj
theorem HasF.frozen {T : TypeId} {w : World} {b N : Nat} {c : Nat → Value} (h : HasF T w b N c) (j : Nat) : w.frozen? ⟨b, j, none⟩ = false := frozen_of_row w b j _ _ h
theorem HasF.ext {T : TypeId} {w : World} {b N : Nat} {c : Nat → Value} (h : HasF T w b N c) {d : Nat → Value} (e : ∀ j, j < N → c j = d j) : HasF T w b N d := by
  unfold HasF
  rw [← rowF_ext e]
  exact h
theorem HasF.set {T : TypeId} {w : World} {b N : Nat} {c : Nat → Value} (h : HasF T w b N c) (i : Nat) (v : Value) : HasF T (w.setCell ⟨b, i, none⟩ v) b N (updC c i v) := by
  have e := heap_setCell_same w b i _ _ v h
  rw [rowF_set] at e
  exact e
theorem HasF.up {T : TypeId} {w : World} {b N : Nat} {f : Nat → Int} (h : HasF T w b N (iv f)) (i : Nat) (v : Int) : HasF T (w.setCell ⟨b, i, none⟩ (.int .i64 v)) b N (iv (up f i v)) := by
  have k := h.set i (.int .i64 v)
  rw [updC_iv] at k
  exact k
theorem HasF.other {T : TypeId} {w : World} {b N : Nat} {c : Nat → Value} (h : HasF T w b N c) (p : Addr) (v : Value) (hb : b ≠ p.block) : HasF T (w.setCell p v) b N c := (heap_setCell_other w p b v hb).trans h
theorem HasF.row {T : TypeId} {w : World} {b N : Nat} {c : Nat → Value} (h : HasF T w b N c) {g : Nat} (cs : Array Value) (hb : b ≠ g) : HasF T (w.setRow g cs) b N c := (setRow_other w g b cs hb).trans h
theorem hasF_new (T : TypeId) (w : World) (N : Nat) (c : Nat → Value) : HasF T (w.alloc (.cells (rowF c N) T)) w.heap.size N c := heap_alloc_new _ _
theorem hasF_new2 (T : TypeId) (w : World) (x : Obj) (N : Nat) (c : Nat → Value) : HasF T ((w.alloc x).alloc (.cells (rowF c N) T)) (w.heap.size + 1) N c := by
  have h := hasF_new T (w.alloc x) N c
  rw [show (w.alloc x).heap.size = w.heap.size + 1 by simp] at h
  exact h
theorem HasF.range {T : TypeId} {w : World} {b N : Nat} {c : Nat → Value} (h : HasF T w b N c) (o M : Nat) (hM : o + M ≤ N) : w.rangeAt b o (rowF (fun j => c (o + j)) M).toList := by
  intro j v hv
  rw [rowF_list] at hv
  obtain ⟨hj, e⟩ := List.getElem?_eq_some_iff.1 hv
  have hj2 : j < M := by simpa using hj
  rw [h.at (o + j) (by omega), ← e]
  simp
theorem hasF_cells (b N : Nat) (T : TypeId) : ∀ (vs : List Value) (o : Nat) (w : World) (c : Nat → Value), HasF T w b N c → HasF T (w.setCells b o vs) b N (fun j => if o ≤ j ∧ j < o + vs.length then vs.getD (j - o) undef else c j)
  | [], o, w, c, h => h.ext fun j _ => by rw [if_neg (by simp)]
  | v :: vs, o, w, c, h => (hasF_cells b N T vs (o + 1) _ _ (h.set o v)).ext fun j _ => by
    by_cases e : j = o
    · subst e
      rw [if_neg (by omega), if_pos (by simp)]
      simp [updC]
    · by_cases k : o ≤ j ∧ j < o + (v :: vs).length
      · rw [if_pos (by simp at k; omega), if_pos k, show j - o = (j - (o + 1)) + 1 by omega]
        simp
      · rw [if_neg (by simp at k; omega), if_neg k]
        simp [updC, e]
theorem HasF.cells {T : TypeId} {w : World} {b N : Nat} {c : Nat → Value} (h : HasF T w b N c) (o M : Nat) (d : Nat → Value) : HasF T (w.setCells b o (rowF d M).toList) b N (fun j => if o ≤ j ∧ j < o + M then d (j - o) else c j) :=
  (hasF_cells b N T _ o w c h).ext fun j _ => by
    rw [rowF_list]
    simp only [List.length_map, List.length_range]
    by_cases k : o ≤ j ∧ j < o + M
    · rw [if_pos k, if_pos k]
      simp [List.getD, show j - o < M by omega]
    · rw [if_neg k, if_neg k]
def But (b : Nat) (w w' : World) : Prop := w'.os = w.os ∧ w'.tape = w.tape ∧ w'.output = w.output ∧ w.heap.size ≤ w'.heap.size ∧ ∀ k, k < w.heap.size → k ≠ b → w'.heap[k]? = w.heap[k]?
theorem But.of {b : Nat} {w w' : World} (h : Below w.heap.size w w') : But b w w' := ⟨h.os, h.tape, h.output, h.size, fun k hk _ => h.block k hk⟩
theorem But.refl (b : Nat) (w : World) : But b w w := But.of (Below.refl _ _)
theorem But.size {b : Nat} {w w' : World} (h : But b w w') : w.heap.size ≤ w'.heap.size := h.2.2.2.1
theorem But.block {b : Nat} {w w' : World} (h : But b w w') (k : Nat) (hk : k < w.heap.size) (hb : k ≠ b) : w'.heap[k]? = w.heap[k]? := h.2.2.2.2 k hk hb
theorem But.trans {b : Nat} {w1 w2 w3 : World} (h : But b w1 w2) (k : But b w2 w3) : But b w1 w3 :=
  ⟨k.1.trans h.1, k.2.1.trans h.2.1, k.2.2.1.trans h.2.2.1, Nat.le_trans h.size k.size, fun i hi hb => (k.block i (Nat.lt_of_lt_of_le hi h.size) hb).trans (h.block i hi hb)⟩
theorem But.set {b : Nat} {w w' : World} (h : But b w w') (o : Nat) (v : Value) : But b w (w'.setCell ⟨b, o, none⟩ v) :=
  ⟨h.1, h.2.1, h.2.2.1, by have := h.size; simpa [World.setCell] using this, fun k hk hE => (Below.heap_setCell _ _ _ _ fun e => hE e).trans (h.block k hk hE)⟩
theorem But.cells {b : Nat} {w : World} : ∀ (vs : List Value) (o : Nat) (w' : World), But b w w' → But b w (w'.setCells b o vs)
  | [], _, _, h => h
  | v :: vs, o, w', h => But.cells vs (o + 1) _ (h.set o v)
theorem But.below {b B : Nat} {w w' : World} (h : But b w w') (hb : B ≤ b) (hB : B ≤ w.heap.size) : Below B w w' :=
  ⟨h.1, h.2.1, h.2.2.1, h.size, fun k hk => h.block k (Nat.lt_of_lt_of_le hk hB) fun e => by omega⟩
theorem But.obj {b c : Nat} {w w' : World} {o : Obj} (h : But b w w') (k : w.heap[c]? = some o) (hc : c ≠ b) : w'.heap[c]? = some o := (h.block c (lt_of_block k) hc).trans k
theorem But.drew {b : Nat} {w w' : World} (h : But b w w') : But b w w'.drew := h.trans ⟨rfl, rfl, rfl, Nat.le_refl _, fun _ _ _ => rfl⟩
theorem But.drewN {b : Nat} {w w' : World} (h : But b w w') (n : Nat) : But b w (w'.drewN n) := h.trans ⟨rfl, rfl, rfl, Nat.le_refl _, fun _ _ _ => rfl⟩
theorem wpList_alloced {P : Program} {ops : Array Oper} {rest : List Oper} {o : Oper} {a : Act} {w : World} {Q : Exit → Act → World → Prop} (hg : o.guard = none) (t : TypeId) (ho : o.op = .alloc t) (R : Array Value) (h : ∀ w, (zeroValue t).run P w = .ok (.agg R) w)
    (hK : wpList P ops Q rest (a.put o.dst (.pointer (some ⟨w.heap.size, 0, none⟩))) (w.alloc (.cells R t))) : wpList P ops Q (o :: rest) a w :=
  wpList_plain hg fun K hK' => by
    have e : (Instr.alloc t true (.tuple #[])).run P w = .ok (.pointer (some ⟨w.heap.size, 0, none⟩)) (w.alloc (.cells R t)) := by
      unfold Instr.alloc
      simp only [Sem.run_bind, h, Result.andThen_ok]
      rfl
    unfold Oper.wp execOp
    simp only [ho, Sem.run_bind, e, Result.andThen_ok]
    exact hK' _ _ hK
theorem wpList_built {P : Program} {ops : Array Oper} {rest : List Oper} {o : Oper} {a : Act} {w : World} {Q : Exit → Act → World → Prop} (hg : o.guard = none) (t : TypeId) (parts : Array (Nat × Operand)) (ho : o.op = .build t parts)
    (vals : Array (Nat × Value)) (hp : (parts.map fun (i, x) => (i, a.eval x)) = vals) (R : Array Value) (h : ∀ w, (Instr.build t vals).run P w = .ok (.agg R) w) (hK : wpList P ops Q rest (a.put o.dst (.agg R)) w) : wpList P ops Q (o :: rest) a w :=
  wpList_plain hg fun K hK' => by
    unfold Oper.wp execOp
    simp only [ho, hp, Sem.run_bind, h, Result.andThen_ok]
    exact hK' _ _ hK
theorem wpList_load_ints {P : Program} {ops : Array Oper} {rest : List Oper} {op : Oper} {a : Act} {w : World} {Q : Exit → Act → World → Prop} (hgd : op.guard = none) (ty : TypeId) (x : Operand) (ho : op.op = .load ty x)
    (b o : Nat) (hx : a.eval x = .pointer (some ⟨b, o, none⟩)) {T : TypeId} {N : Nat} {f : Nat → Int} (h : HasF T w b N (iv f)) (M : Nat) (hM : o + M ≤ N) (d : TypeDesc) (hu : P.underlying ty = some d) (hd : d.isRow = true) (hi : (P.info? ty).map (·.size) = some M)
    (hK : wpList P ops Q rest (a.put op.dst (.agg (rowF (iv fun j => f (o + j)) M))) w) : wpList P ops Q (op :: rest) a w := by
  refine wpList_load_mid hgd ty x ho b o hx (rowF (iv fun j => f (o + j)) M).toList d (h.range o M hM) hu hd ?_ hK
  rw [Array.length_toList, rowF_size]
  exact hi
theorem wpList_load_part {P : Program} {ops : Array Oper} {rest : List Oper} {op : Oper} {a : Act} {w : World} {Q : Exit → Act → World → Prop} (hgd : op.guard = none) (ty : TypeId) (x : Operand) (ho : op.op = .load ty x)
    (b o : Nat) (hx : a.eval x = .pointer (some ⟨b, o, none⟩)) {T : TypeId} {N : Nat} {c : Nat → Value} (h : HasF T w b N c) (M : Nat) (hM : o + M ≤ N) (e : Nat → Value) (he : ∀ j, j < M → c (o + j) = e j) (d : TypeDesc) (hu : P.underlying ty = some d) (hd : d.isRow = true) (hi : (P.info? ty).map (·.size) = some M)
    (hK : wpList P ops Q rest (a.put op.dst (.agg (rowF e M))) w) : wpList P ops Q (op :: rest) a w := by
  refine wpList_load_mid hgd ty x ho b o hx (rowF e M).toList d ?_ hu hd ?_ hK
  · rw [← rowF_ext he]
    exact h.range o M hM
  · rw [Array.length_toList, rowF_size]
    exact hi
end Go.Proofs.YthelklkfcllddaaGreatDoor
namespace Go.Proofs.YthelklkfcllddaaGreatDoor
set_option maxRecDepth 20000
open Go
mutual
def flat (P : Program) : Nat → TypeId → DataW Unit → Option (List Value)
  | 0, _, _ => none
  | n + 1, t, d => match P.underlying t with
    | some .bool => match d with
      | .lit (.bool b) => some [.bool b]
      | _ => none
    | some (.int k) => match d with
      | .lit (.int k' z) => if k' = k then some [.int k z] else none
      | _ => none
    | some .string => match d with
      | .lit (.string bs) => some [.string ⟨bs.toArray⟩]
      | _ => none
    | some (.struct fs) => match d with
      | .agg ds => match flatF P n fs.toList ds 0 with
        | some vs => if vs.length = P.cellsOf t then some vs else none
        | none => none
      | _ => none
    | some (.array _ e) => match d with
      | .agg ds => match flatA P n e ds with
        | some vs => if vs.length = P.cellsOf t then some vs else none
        | none => none
      | _ => none
    | _ => none
def flatF (P : Program) : Nat → List Field → List (DataW Unit) → Nat → Option (List Value)
  | 0, _, _, _ => none
  | _ + 1, [], [], _ => some []
  | n + 1, f :: fs, d :: ds, o => match flat P n f.type d, flatF P n fs ds (o + P.cellsOf f.type) with
    | some x, some y => if f.offset = o ∧ x.length = P.cellsOf f.type then some (x ++ y) else none
    | _, _ => none
  | _ + 1, _, _, _ => none
def flatA (P : Program) : Nat → TypeId → List (DataW Unit) → Option (List Value)
  | 0, _, _ => none
  | _ + 1, _, [] => some []
  | n + 1, e, d :: ds => match flat P n e d, flatA P n e ds with
    | some x, some y => if x.length = P.cellsOf e then some (x ++ y) else none
    | _, _ => none
end
theorem mapM_two {α β : Type} {f : α → Option β} {a : α} {l : List α} {r : List β} (h : (a :: l).mapM f = some r) : ∃ b r', f a = some b ∧ l.mapM f = some r' ∧ r = b :: r' := by
  simp only [List.mapM_cons, Option.bind_eq_bind, Option.bind_eq_some_iff, Option.pure_def, Option.some.injEq] at h
  obtain ⟨b, hb, r', hr', rfl⟩ := h
  exact ⟨b, r', hb, hr', rfl⟩
theorem join_at {cs x y : List Value} {o m : Nat} (hx : (cs.drop o).take m = x) (hy : cs.drop (o + m) = y) : cs.drop o = x ++ y := by
  subst hx; subst hy
  rw [← List.drop_drop, List.take_append_drop]
variable {P : Program} {w : World} {base : Nat} {sp : Nat → Bool} {held : Bool}
theorem flatF_at (n : Nat) (ih : ∀ (m : Nat) (_ : m < n) (fuel : Nat) (t : TypeId) (d : DataW Unit) (cs vs : List Value) (p : List MemPlace), flat P m t d = some vs → DataW.trod (fun _ => ()) P w base sp held fuel t cs = some (d, p) → cs = vs)
    (fuel : Nat) (cs : List Value) : ∀ (m : Nat) (_ : m ≤ n) (fs : List Field) (ds : List (DataW Unit)) (o : Nat) (vs : List Value) (xs : List (DataW Unit × List MemPlace)),
    flatF P m fs ds o = some vs → (fs.mapM fun f => DataW.trod (fun _ => ()) P w base sp held fuel f.type ((cs.drop f.offset).take (P.cellsOf f.type))) = some xs → xs.map (·.1) = ds → o + vs.length = cs.length → cs.drop o = vs
  | 0, _, _, _, _, _, _, h, _, _, _ => by simp [flatF] at h
  | m + 1, hm, fs, ds, o, vs, xs, h, hx, hd, hl => by
    cases fs with
    | nil =>
      cases ds with
      | nil =>
        simp [flatF] at h
        subst h
        simp at hl
        subst hl
        simp
      | cons d ds => simp [flatF] at h
    | cons f fs =>
      cases ds with
      | nil => simp [flatF] at h
      | cons d ds =>
        obtain ⟨b, r, hb, hr, rfl⟩ := mapM_two hx
        simp only [List.map_cons, List.cons.injEq] at hd
        obtain ⟨hd1, hd2⟩ := hd
        simp only [flatF] at h
        split at h
        · rename_i x y e1 e2
          split at h
          · rename_i hc
            obtain ⟨rfl, hc2⟩ := hc
            obtain rfl := Option.some.inj h
            have e : b = (d, b.2) := by rw [← hd1]
            rw [e] at hb
            have h1 := ih m (by omega) fuel _ _ _ _ _ e1 hb
            rw [List.length_append, hc2] at hl
            exact join_at h1 (flatF_at n ih fuel cs m (by omega) fs ds _ y r e2 hr hd2 (by omega))
          · cases h
        · cases h
theorem flatA_at (n : Nat) (ih : ∀ (m : Nat) (_ : m < n) (fuel : Nat) (t : TypeId) (d : DataW Unit) (cs vs : List Value) (p : List MemPlace), flat P m t d = some vs → DataW.trod (fun _ => ()) P w base sp held fuel t cs = some (d, p) → cs = vs)
    (fuel : Nat) (e : TypeId) (cs : List Value) : ∀ (m : Nat) (_ : m ≤ n) (k j : Nat) (ds : List (DataW Unit)) (vs : List Value) (xs : List (DataW Unit × List MemPlace)),
    flatA P m e ds = some vs → ((List.range' j k).mapM fun i => DataW.trod (fun _ => ()) P w base sp held fuel e ((cs.drop (i * P.cellsOf e)).take (P.cellsOf e))) = some xs → xs.map (·.1) = ds → j * P.cellsOf e + vs.length = cs.length → cs.drop (j * P.cellsOf e) = vs
  | 0, _, _, _, _, _, _, h, _, _, _ => by simp [flatA] at h
  | m + 1, hm, k, j, ds, vs, xs, h, hx, hd, hl => by
    cases k with
    | zero =>
      simp at hx
      subst hx
      simp at hd
      subst hd
      simp [flatA] at h
      subst h
      simp at hl
      rw [hl]; simp
    | succ k =>
      rw [List.range'_succ] at hx
      obtain ⟨b, r, hb, hr, rfl⟩ := mapM_two hx
      cases ds with
      | nil => simp at hd
      | cons d ds =>
        simp only [List.map_cons, List.cons.injEq] at hd
        obtain ⟨hd1, hd2⟩ := hd
        simp only [flatA] at h
        split at h
        · rename_i x y e1 e2
          split at h
          · rename_i hc
            obtain rfl := Option.some.inj h
            have eb : b = (d, b.2) := by rw [← hd1]
            rw [eb] at hb
            have h1 := ih m (by omega) fuel _ _ _ _ _ e1 hb
            rw [List.length_append, hc] at hl
            have em : j * P.cellsOf e + P.cellsOf e = (j + 1) * P.cellsOf e := (Nat.succ_mul _ _).symm
            refine join_at h1 ?_
            rw [em]
            exact flatA_at n ih fuel e cs m (by omega) k (j + 1) ds y r e2 hr hd2 (by omega)
          · cases h
        · cases h
theorem flat_at (n : Nat) : ∀ (fuel : Nat) (t : TypeId) (d : DataW Unit) (cs vs : List Value) (p : List MemPlace), flat P n t d = some vs →
    DataW.trod (fun _ => ()) P w base sp held fuel t cs = some (d, p) → cs = vs := by
  induction n using Nat.strongRecOn with
  | ind n ih =>
    intro fuel t d cs vs p h k
    cases n with
    | zero => simp [flat] at h
    | succ n =>
      cases fuel with
      | zero => simp [DataW.trod] at k
      | succ fuel =>
        simp only [flat] at h
        split at h
        · rename_i hu
          split at h
          · obtain rfl := Option.some.inj h
            simp only [DataW.trod, hu] at k
            split at k <;> simp_all
          · cases h
        · rename_i kk hu
          split at h
          · split at h
            · rename_i hk
              subst hk
              obtain rfl := Option.some.inj h
              simp only [DataW.trod, hu] at k
              split at k <;> simp_all
            · cases h
          · cases h
        · rename_i hu
          split at h
          · obtain rfl := Option.some.inj h
            simp only [DataW.trod, hu] at k
            split at k <;> simp_all
            rw [← k.2.1]
          · cases h
        · rename_i fs hu
          split at h
          · split at h
            · rename_i ds _ ws hf
              split at h
              · rename_i hl
                obtain rfl := Option.some.inj h
                simp only [DataW.trod, hu] at k
                split at k
                · rename_i hcl
                  obtain ⟨xs, hm, hx⟩ := Option.map_eq_some_iff.1 k
                  have hx1 : xs.map (·.1) = ds := by simpa using congrArg Prod.fst hx
                  have := flatF_at n (fun m hm => ih m (by omega)) fuel cs n (Nat.le_refl _) fs.toList ds 0 ws xs hf hm hx1 (by omega)
                  simpa using this
                · cases k
              · cases h
            · cases h
          · cases h
        · rename_i c e hu
          split at h
          · split at h
            · rename_i ds _ ws hf
              split at h
              · rename_i hl
                obtain rfl := Option.some.inj h
                simp only [DataW.trod, hu] at k
                split at k
                · rename_i hcl
                  obtain ⟨xs, hm, hx⟩ := Option.map_eq_some_iff.1 k
                  have hx1 : xs.map (·.1) = ds := by simpa using congrArg Prod.fst hx
                  rw [List.range_eq_range'] at hm
                  have := flatA_at n (fun m hm => ih m (by omega)) fuel e cs n (Nat.le_refl _) c 0 ds ws xs hf hm hx1 (by omega)
                  simpa using this
                · cases k
              · cases h
            · cases h
          · cases h
        · cases h
end Go.Proofs.YthelklkfcllddaaGreatDoor
namespace Go.Proofs.YthelklkfcllddaaGreatDoor
set_option maxRecDepth 20000
open Go.RowKit
set_option linter.unusedVariables false
variable {P : Program} {md : Region.Mode} {C : World → Prop} {Q : Exit → Act → World → Prop} {H : List Oper} {o p : Oper}
end Go.Proofs.YthelklkfcllddaaGreatDoor
