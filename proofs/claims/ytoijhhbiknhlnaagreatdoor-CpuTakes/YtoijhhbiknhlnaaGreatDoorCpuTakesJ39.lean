/- Texts put together. -/
import Derived.Test.YtoijhhbiknhlnaaGreatDoorCpuTakesJ03
import Derived.Test.YtoijhhbiknhlnaaGreatDoorCpuTakesJ33
import Derived.OpenShut
import Derived.ShutString
import Derived.ChangeOld
import Derived.Below
import Derived.OneCell
import Derived.Test.YtoijhhbiknhlnaaGreatDoorCpuTakesJ01
import Derived.ChangeKeysEq
import Derived.Test.YtoijhhbiknhlnaaGreatDoorCpuTakesJ38
import Derived.Deep.CutBlock
import Derived.Test.YtoijhhbiknhlnaaGreatDoorCpuTakesJ32
import Derived.Test.YtoijhhbiknhlnaaGreatDoorRows
import Derived.ChangeSame
import Derived.ChangeVars
import Derived.JoinedOf
import Derived.RowKit
import Derived.RowKitTokens
import Derived.LaidLaws
import Derived.LaidHandle
import Derived.Stop.Joined
import Derived.Laws.Rows
import Derived.Laws.Tables
namespace Go.Proofs.YtoijhhbiknhlnaaGreatDoor.A2
set_option maxRecDepth 20000
open Go.RowKit
theorem b0 : IsByte 0 := ⟨by decide, by decide⟩
end Go.Proofs.YtoijhhbiknhlnaaGreatDoor.A2
namespace Go.Proofs.YtoijhhbiknhlnaaGreatDoor
set_option maxRecDepth 20000
open Go.RowKit
set_option linter.unusedVariables false
def AlikeF (ks : List Nat) (a b : Act) : Prop := b.tmps.size = a.tmps.size ∧ b.defers = a.defers ∧ ∀ k, k ∈ ks → b.tmps[k]? = a.tmps[k]?
theorem AlikeF.refl (ks : List Nat) (a : Act) : AlikeF ks a a := ⟨rfl, rfl, fun _ _ => rfl⟩
theorem AlikeF.trans {ks : List Nat} {a b c : Act} (h : AlikeF ks a b) (k : AlikeF ks b c) : AlikeF ks a c := ⟨k.1.trans h.1, k.2.1.trans h.2.1, fun i hi => (k.2.2 i hi).trans (h.2.2 i hi)⟩
theorem AlikeF.put {ks : List Nat} (a : Act) (e : Nat) (v : Value) (h : ¬ e ∈ ks) : AlikeF ks a (a.put (some e) v) := by
  refine ⟨by simp [Act.put], rfl, fun k hk => ?_⟩
  simp only [Act.put]
  rw [Array.getElem?_setIfInBounds_ne]
  intro e1
  subst e1
  exact h hk
def oneT (x : Nat) (ks : List Nat) (N : Nat) (s : List UInt8) : Code → Option (Nat × Bool)
  | .region _ ⟨[o1, o2]⟩ false =>
    (match o1.dst, o1.op, o1.guard, o2.dst, o2.op, o2.guard with
     | some e1, .binOp .eql _ (.tmp y) (.const (.string l)) _, none, some d1, .assign (.tmp e2), none => if (y == x && e2 == e1 && !ks.contains e1 && !ks.contains d1 && decide (e1 < N) && decide (d1 < N)) = true then some (d1, s == l.data.toList) else none
     | _, _, _, _, _, _ => none)
  | _ => none
theorem wp_oneT {P : Program} {x d N : Nat} {b : Bool} {ks : List Nat} {nm : ByteArray} {c : Code} {Q : Exit → Act → World → Prop} {a : Act} {w : World} (hc : oneT x ks N nm.data.toList c = some (d, b))
    (hN : a.tmps.size = N) (hx : a.tmps[x]? = some (.string nm)) (h : ∀ a', AlikeF ks a a' → a'.tmps[d]? = some (.bool b) → Q .normal a' w) : c.wp P Q a w := by
  unfold oneT at hc
  split at hc
  · rename_i i o1 o2
    split at hc
    · rename_i e1 t1 y l r1 d1 e2 q1 q2 q3 q4 q5 q6
      split at hc
      · rename_i hb
        simp only [Bool.and_eq_true, beq_iff_eq, decide_eq_true_eq] at hb
        obtain ⟨⟨⟨⟨⟨rfl, rfl⟩, k1⟩, k2⟩, k3⟩, k4⟩ := hb
        simp only [Option.some.injEq, Prod.mk.injEq] at hc
        obtain ⟨rfl, rfl⟩ := hc
        have ex : a.eval (.tmp y) = .string nm := by
          show a.tmps.getD y undef = _
          rw [Array.getD_eq_getD_getElem?, hx]; rfl
        refine wp_region_list ?_
        show wpList P _ Q [o1, o2] a w
        refine wpList_plain q3 fun K hK => ?_
        unfold Oper.wp
        have r1 : (execOp a.eval o1).run P w = .ok (.value (.bool (nm.data.toList == l.data.toList))) w := by
          unfold execOp
          simp only [q2, ex]
          rw [show a.eval (.const (.string l)) = .string l from rfl, show ∀ t z z', eqGuard .eql t z z' (.string nm) (.string l) = pure () from fun _ _ _ => rfl]
          simp [binOp_string_eql, ByteArray.toList_eq]
        rw [r1, Oper.upon_value, q1]
        refine hK _ _ ?_
        refine wpList_plain q6 fun K2 hK2 => ?_
        unfold Oper.wp
        have r2 : (execOp (a.put (some e2) (.bool (nm.data.toList == l.data.toList))).eval o2).run P w = .ok (.value (.bool (nm.data.toList == l.data.toList))) w := by
          unfold execOp
          simp only [q5]
          rw [show (a.put (some e2) (.bool (nm.data.toList == l.data.toList))).eval (.tmp e2) = .bool (nm.data.toList == l.data.toList) from by
            show (a.tmps.setIfInBounds e2 _).getD e2 undef = _
            rw [Array.getD_eq_getD_getElem?, Array.getElem?_setIfInBounds_self_of_lt (by rw [hN]; exact k3)]
            rfl]
          simp
        rw [r2, Oper.upon_value, q4]
        refine hK2 _ _ (wpList_nil (h _ ((AlikeF.put _ _ _ (by simpa using k1)).trans (AlikeF.put _ _ _ (by simpa using k2))) ?_))
        show (((a.tmps.setIfInBounds e2 _).setIfInBounds d1 _))[d1]? = _
        rw [Array.getElem?_setIfInBounds_self_of_lt (by rw [Array.size_setIfInBounds, hN]; exact k4)]
      · cases hc
    · cases hc
  · cases hc
def tstT (x : Nat) (ks : List Nat) (N : Nat) (s : List UInt8) : Code → Option (Nat × Bool)
  | .seq c (.cond (.tmp d1) .skip c2) =>
    (match oneT x ks N s c, tstT x ks N s c2 with
     | some (d, b), some (d', b') => if (d1 == d && d' == d) = true then some (d, b || b') else none
     | _, _ => none)
  | c => oneT x ks N s c
theorem wp_tstT {P : Program} {x N : Nat} {ks : List Nat} {nm : ByteArray} {w : World} (hxk : x ∈ ks) :
    ∀ (c : Code) (d : Nat) (b : Bool) (Q : Exit → Act → World → Prop) (a : Act), tstT x ks N nm.data.toList c = some (d, b) → a.tmps.size = N → a.tmps[x]? = some (.string nm) → (∀ a', AlikeF ks a a' → a'.tmps[d]? = some (.bool b) → Q .normal a' w) → c.wp P Q a w := by
  intro c
  induction c using tstT.induct x ks N nm.data.toList with
  | case1 c d1 c2 d b d' b' h2 h1 hb ih =>
    intro dd bb Q a hc hN hx h
    unfold tstT at hc
    rw [h1, h2] at hc
    simp only [hb, if_true, Option.some.injEq, Prod.mk.injEq] at hc
    obtain ⟨rfl, rfl⟩ := hc
    simp only [Bool.and_eq_true, beq_iff_eq] at hb
    obtain ⟨rfl, rfl⟩ := hb
    refine wp_seq (wp_oneT h1 hN hx fun a1 k1 k2 => ?_)
    have ed : a1.eval (.tmp d') = .bool b := by
      show a1.tmps.getD d' undef = _
      rw [Array.getD_eq_getD_getElem?, k2]; rfl
    refine wp_cond_split ed (fun ht => ?_) (fun hf => ?_)
    · exact wp_skip (h a1 k1 (by rw [k2, ht]; rfl))
    · refine ih _ _ Q a1 h2 (k1.1.trans hN) ((k1.2.2 x hxk).trans hx) fun a2 k3 k4 => h a2 (k1.trans k3) ?_
      rw [k4, hf]
      rfl
  | case2 c d1 c2 d b d' b' h2 h1 hb ih =>
    intro dd bb Q a hc
    unfold tstT at hc
    rw [h1, h2] at hc
    simp only [hb] at hc
    simp at hc
  | case3 c d1 c2 hno ih =>
    intro dd bb Q a hc
    unfold tstT at hc
    split at hc
    · rename_i p1 p2
      exact (hno _ _ _ _ p1 p2).elim
    · cases hc
  | case4 c hno =>
    intro dd bb Q a hc hN hx h
    rw [tstT] at hc
    · exact wp_oneT hc hN hx h
    · exact hno
def missT (x : Nat) (ks : List Nat) (N : Nat) (s : List UInt8) : Nat → Code → Bool
  | 0, _ => true
  | k + 1, .seq c (.cond (.tmp d) _ c2) => (tstT x ks N s c == some (d, false)) && missT x ks N s k c2
  | _ + 1, _ => false
def restT : Nat → Code → Code
  | 0, c => c
  | k + 1, .seq _ (.cond _ _ c2) => restT k c2
  | _ + 1, c => c
theorem wp_miss {P : Program} {x N : Nat} {ks : List Nat} {nm : ByteArray} {w : World} {Q : Exit → Act → World → Prop} (hxk : x ∈ ks) :
    ∀ (k : Nat) (c : Code) (a : Act), missT x ks N nm.data.toList k c = true → a.tmps.size = N → a.tmps[x]? = some (.string nm) → (∀ a', AlikeF ks a a' → (restT k c).wp P Q a' w) → c.wp P Q a w := by
  intro k
  induction k with
  | zero => intro c a _ _ _ h; exact h a (AlikeF.refl _ _)
  | succ k ih =>
    intro c a hc hN hx h
    unfold missT at hc
    split at hc
    · rename_i heq; cases heq
    · rename_i k' c1 d t c2 heq
      obtain rfl : k = k' := by omega
      simp only [Bool.and_eq_true, beq_iff_eq] at hc
      refine wp_seq (wp_tstT hxk c1 d false _ a hc.1 hN hx fun a1 k1 k2 => ?_)
      have ed : a1.eval (.tmp d) = .bool false := by
        show a1.tmps.getD d undef = _
        rw [Array.getD_eq_getD_getElem?, k2]; rfl
      exact wp_cond_false ed (ih c2 a1 hc.2 (k1.1.trans hN) ((k1.2.2 x hxk).trans hx) fun a2 k3 => h a2 (k1.trans k3))
    · cases hc
def hitT (x : Nat) (ks : List Nat) (N : Nat) (s : List UInt8) : Code → Bool
  | .seq c (.cond (.tmp d) _ _) => tstT x ks N s c == some (d, true)
  | _ => false
def bodyT : Code → Code
  | .seq _ (.cond _ b _) => b
  | c => c
theorem wp_hit {P : Program} {x N : Nat} {ks : List Nat} {nm : ByteArray} {w : World} {Q : Exit → Act → World → Prop} (hxk : x ∈ ks) (c : Code) (a : Act) (hc : hitT x ks N nm.data.toList c = true)
    (hN : a.tmps.size = N) (hx : a.tmps[x]? = some (.string nm)) (h : ∀ a', AlikeF ks a a' → (bodyT c).wp P Q a' w) : c.wp P Q a w := by
  unfold hitT at hc
  split at hc
  · rename_i c1 d b c2
    simp only [beq_iff_eq] at hc
    refine wp_seq (wp_tstT hxk c1 d true _ a hc hN hx fun a1 k1 k2 => ?_)
    have ed : a1.eval (.tmp d) = .bool true := by
      show a1.tmps.getD d undef = _
      rw [Array.getD_eq_getD_getElem?, k2]; rfl
    exact wp_cond_true ed (h a1 k1)
  · cases hc
theorem wp_switch {P : Program} {x N : Nat} (ks : List Nat) (nm : ByteArray) {w : World} {Q : Exit → Act → World → Prop} (k : Nat) {c : Code} {a : Act} (hxk : ks.contains x = true) (hc : (missT x ks N nm.data.toList k c && hitT x ks N nm.data.toList (restT k c)) = true)
    (hN : a.tmps.size = N) (hx : a.tmps[x]? = some (.string nm)) (h : ∀ a', AlikeF ks a a' → (bodyT (restT k c)).wp P Q a' w) : c.wp P Q a w := by
  simp only [Bool.and_eq_true] at hc
  have hxk' : x ∈ ks := by simpa using hxk
  exact wp_miss hxk' k c a hc.1 hN hx fun a1 k1 => wp_hit hxk' _ a1 hc.2 (k1.1.trans hN) ((k1.2.2 x hxk').trans hx) fun a2 k2 => h a2 (k1.trans k2)
theorem frame_out (l : Array Value) {N : Nat} (h : l.size = N) : l = ((List.range N).map fun i => l.getD i undef).toArray := by
  apply Array.ext
  · simp [h]
  · intro i h1 h2
    simp only [List.getElem_toArray, List.getElem_map, List.getElem_range]
    rw [Array.getD_eq_getD_getElem?, Array.getElem?_eq_getElem h1]
    rfl
def blockIn (k : Nat) : Code → Option Code
  | .block n c => if n = k then some c else blockIn k c
  | .loop c => blockIn k c
  | .scope c => blockIn k c
  | .seq a b => match blockIn k a with | some c => some c | none => blockIn k b
  | .cond _ a b => match blockIn k a with | some c => some c | none => blockIn k b
  | _ => none
end Go.Proofs.YtoijhhbiknhlnaaGreatDoor
namespace Go.Proofs.YtoijhhbiknhlnaaGreatDoor.L25
set_option maxRecDepth 20000
open A2 B4 C3 G6 I11 J23 K9 L24 M5 N8 O7 P22 R15 T10 V12 W13
open Go.RowKit
set_option linter.unusedVariables false
def rkV (op a m p : Int) : Int := (doOf op (a % 256) (m % 256) (p % 256)).1
def rkP (op a m p : Int) : Int := (doOf op (a % 256) (m % 256) (p % 256)).2
def rkS (Z : Nat → Nat → Int) (op a m : Int) : Nat → Nat → Int := setR Z 4 (rkP op a m (Z 20 4))
end Go.Proofs.YtoijhhbiknhlnaaGreatDoor.L25
namespace Go.Proofs.YtoijhhbiknhlnaaGreatDoor.L25
set_option maxRecDepth 20000
open A2 B4 C3 G6 I11 J23 K9 L24 M5 N8 O7 P22 R15 T10 V12 W13
open Go.RowKit
set_option linter.unusedVariables false
theorem str_is {a : ByteArray} {l : List UInt8} {r : Bool} (h : (a.data.toList == l) = r) : (a.toList == l) = r := by
  rw [ByteArray.toList_eq]
  exact h
end Go.Proofs.YtoijhhbiknhlnaaGreatDoor.L25
namespace Go.Proofs.YtoijhhbiknhlnaaGreatDoor.L25
set_option maxRecDepth 20000
open A2 B4 C3 G6 I11 J23 K9 L24 M5 N8 O7 P22 R15 T10 V12 W13
open Go.RowKit
set_option linter.unusedVariables false
def riZ (bs : List Int) (Z : Nat → Nat → Int) : Nat → Nat → Int := setR (plS Z) 4 (plV bs Z)
def riS (bs : List Int) (Z : Nat → Nat → Int) : Nat → Nat → Int := setR (plS (plS (riZ bs Z))) 5 (plW bs (riZ bs Z))
theorem plZ_good {Z : Nat → Nat → Int} (h : ∀ k, GZ k (Z k)) : ∀ k, GZ k (plZ Z k) := good_up h 20 _ (gz_up (h 20) 3 (by decide) _ (by omega) (by omega))
theorem plV_in {w : World} {s b v c d : Nat} {bs : List Int} {nm : ByteArray} {I B : Nat → Int} {t : Bool} {Z : Nat → Nat → Int} (h : HasQ w s b v c d bs nm I B t Z) : IsByte (plV bs Z) := rdV_in (plZ_good h.good) h.bytes _
set_option maxHeartbeats 1000000 in
theorem jump_RTI {w : World} {s b v c d : Nat} {bs : List Int} {nm : ByteArray} {I B : Nat → Int} {t : Bool} {Z : Nat → Nat → Int} (h : HasQ w s b v c d bs nm I B t Z) (nn : ByteArray) (j0 : (nn.toList == [66, 82, 65]) = false) (j1 : (nn.toList == [74, 77, 80]) = false) (j2 : (nn.toList == [74, 83, 82]) = false) (j3 : (nn.toList == [66, 83, 82]) = false) (j4 : (nn.toList == [82, 84, 83]) = false) (j5 : (nn.toList == [82, 84, 73]) = true) : Calls Tryz.prog 58 #[.pointer (some ⟨s, 0, none⟩), .string nn] w fun e w' => e = Ending.returned (.tuple #[]) ∧ HasQ w' s b v c d bs nm I B t (riS bs Z) ∧ OnlyE (EQ s b v) w w' := by
  have HE := hide h
  have PI := hide (plV_in h)
  clear h
  go_enter Tryz.func58, Tryz.ntmps58
  go_wp2_with fail
  refine (pull_is HE.out).mono ?_
  rintro e w1 ⟨rfl, h1, o1⟩
  have c4 := h1.reg 4 (by decide)
  have z4 := h1.frz 4
  have H1 := hide (h1.putR 4 (by decide) (plV bs Z) (gz_up (h1.good 20) 4 (by decide) _ PI.out.1 PI.out.2))
  have O1 := hide (eq_set o1 4 (.int .i64 (plV bs Z)))
  clear h1 o1 HE
  go_wp2_with fail
  refine (pullWord_is (Z := riZ bs Z) H1.out).mono ?_
  rintro e w2 ⟨rfl, h2, o2⟩
  have JI := jn_in (plV bs (riZ bs Z)) (plV bs (plS (riZ bs Z)))
  have c5 := h2.reg 5 (by decide)
  have z5 := h2.frz 5
  have H2 := hide (h2.putR 5 (by decide) (plW bs (riZ bs Z)) (gz_up5 (h2.good 20) _ JI.1 JI.2))
  have O2 := hide (eq_set (O1.out.trans o2) 5 (.int .i64 (plW bs (riZ bs Z))))
  clear h2 o2 H1 O1 JI c4 z4
  go_wp2
  refine bodyPost_end (P := Tryz.prog) (fn := Tryz.f58) (results_none rfl _ _ _) (by rfl) ?_
  exact ⟨rfl, H2.out, O2.out⟩
end Go.Proofs.YtoijhhbiknhlnaaGreatDoor.L25
namespace Go.Proofs.YtoijhhbiknhlnaaGreatDoor.K9
set_option maxRecDepth 20000
open Go.RowKit
set_option linter.unusedVariables false
theorem under_name {P : Program} {c : Code} {Q : Exit → Act → World → Prop} {a : Act} {w : World} (h : ∀ wa, wa = w → Code.wp P c Q a wa) : Code.wp P c Q a w := h w rfl
end Go.Proofs.YtoijhhbiknhlnaaGreatDoor.K9
namespace Go.Proofs.YtoijhhbiknhlnaaGreatDoor.K9
set_option maxRecDepth 20000
open Go.ChangeShapes Go.WideShapes Go.RowKit
set_option linter.unusedVariables false
def nameCells : Array Value := #[.string ⟨#[84, 73, 73]⟩, .string ⟨#[84, 68, 68]⟩, .string ⟨#[84, 73, 78]⟩, .string ⟨#[84, 73, 65]⟩, .string ⟨#[84, 65, 73]⟩]
abbrev laidPaths : List (String × DataW Unit) := [("phosphor/block.paths", Rows.laid_phosphor_block_paths)]
theorem Tryz.gPaths : Tryz.prog.globalNamed "phosphor/block.paths" = some 3 := by kernel_rfl
theorem Tryz.tPaths : (Tryz.prog.globals[3]?).map (·.type) = some 202 := by kernel_rfl
theorem paths_flat : flat Tryz.prog 40 202 Rows.laid_phosphor_block_paths = some pathCells.toList := by kernel_rfl
theorem Tryz.gNames : Tryz.prog.globalNamed "phosphor/block.names" = some 2 := by kernel_rfl
theorem Tryz.tNames : (Tryz.prog.globals[2]?).map (·.type) = some 201 := by kernel_rfl
theorem names_flat : flat Tryz.prog 40 201 Rows.laid_phosphor_block_names = some nameCells.toList := by kernel_rfl
theorem laid_paths {W : World} (h : laidMetH Tryz.prog laidPaths W) : HasPaths W := by
  have h : laidMet Tryz.prog laidPaths W := h
  obtain ⟨ps, ⟨g, t, cs, fuel, p, q, e1, e2, e3, e4, _, _⟩, _⟩ := h
  obtain rfl := Option.some.inj (Tryz.gPaths.symm.trans e1)
  obtain rfl := Option.some.inj (Tryz.tPaths.symm.trans e2)
  have hc := flat_at 40 fuel 202 _ _ _ _ paths_flat e4
  have hc2 : cs = pathCells := Array.toList_inj.1 hc
  subst hc2
  simp only [World.var?, Tryz.gPaths, Option.bind_some] at e3
  split at e3
  · rename_i cs' t' fr hh
    obtain rfl := Option.some.inj e3
    exact ⟨t', fr, hh⟩
  · cases e3
noncomputable def laidWorld (os : Os) : World :=
  let w0 := World.holding Tryz.prog os ⟨#[], #[], []⟩
  { w0 with heap := (w0.heap.modify 3 fun
      | .cells _ t frozen => .cells pathCells t frozen
      | o => o).modify 2 fun
      | .cells _ t frozen => .cells nameCells t frozen
      | o => o }
end Go.Proofs.YtoijhhbiknhlnaaGreatDoor.K9
namespace Go.Proofs.YtoijhhbiknhlnaaGreatDoor.K9
set_option maxRecDepth 20000
open Go.RowKit
set_option linter.unusedVariables false
theorem toList_eq {s y : ByteArray} (h : s.toList = y.toList) : s = y := by
  obtain ⟨⟨a⟩⟩ := s
  obtain ⟨⟨b⟩⟩ := y
  have k : (ByteArray.mk a.toArray).toList = (ByteArray.mk b.toArray).toList := h
  rw [ByteArray.toList_mk, ByteArray.toList_mk] at k
  rw [k]
end Go.Proofs.YtoijhhbiknhlnaaGreatDoor.K9
