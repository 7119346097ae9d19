/- A program that counts goes on as fast as its cycles say, and a reset begins it anew: for any number and speed. What the card leans on: the ten listed variables hold at the call's beginning what the program's text lays. -/
import Derived.Test.YtdiidjehdginnaaGreatDoorConsoleCountsJ21
import Derived.Test.YtdiidjehdginnaaGreatDoorConsoleCountsJ18
import Derived.Test.YtdiidjehdginnaaGreatDoorTie
import Derived.Test.YtdiidjehdginnaaGreatDoorCards
import Derived.SevenTiedAt
import Derived.OpenShut
import Derived.ShutString
import Derived.ChangeOld
import Derived.Below
namespace Go.Proofs.YtdiidjehdginnaaGreatDoor
set_option maxRecDepth 20000
open A2 B4 C3 D19 D24 G6 I11 J23 K9 L24 L25 M5 N21 N8 O7 P22 R15 T10 V12 W13
open Go.ChangeShapes Go.WideShapes Go.ChangeAt Go.RowKit
open Go.ChangeMaps (open_string shut_string)
set_option linter.unusedVariables false
theorem own:ownKnob Tryz.prog.godebug=none:=by kernel_rfl
theorem zlZ {W:World} (h:laidMetH Tryz.prog zgY W):((Tabs W∧HasErr W∧CT W)∧10≤W.heap.size)∧HasLevels W:=by
 have h':laidMet Tryz.prog zbV W∧handlesMet Tryz.prog [("errors.errorType",Rows.laid_errors_errorType)] W:=h;obtain ⟨t,fr,e⟩:=zoi h'.1;rw [show zhH=zgT from by kernel_rfl] at e;exact ⟨zwv h,t,fr,e⟩
set_option maxRecDepth 100000 in
theorem zfh (os:Os) (started:os.Started) (H:Type) (enc:TypeId×Value→H):
  ReturnsInHanded {} Tryz.checked os 3 .any (fun w args=>(Rows.consoleCountsSpec.pre enc Tryz.prog Tryz.f3 [] false w args∧laidMetH Tryz.prog zgY w)∧sizedMet enc Tryz.prog Tryz.f3 (OpenSpec.ofChange Rows.consoleCountsSpec) false w args)
   (Rows.consoleCountsSpec.post enc Tryz.prog Tryz.f3 false true false false):=by
 refine returnsInHanded_of_change_and (C:=Tryz.checked) (X:=fun w _=>laidMetH Tryz.prog zgY w) (fun _ _ _ hh h=>h.of_heap hh) own started (by kernel_rfl) Tryz.func3
  (ChangeSpec.witness_at (enc:=enc) (C:=Tryz.checked) (os:=os) (X:=fun w _=>laidMetH Tryz.prog zgY w) false (zlU os) #[.int .i64 0,.bool false] 8 rfl (by kernel_rfl) (by kernel_rfl) (by kernel_rfl) (by kernel_rfl) (by kernel_rfl) (zkK os _)) ?_
 intro W base args ds gs before hval0 hW _ _ hL _;have hval:∀(j:Nat) t v,Tryz.f3.params[j]? = some t→args[j]? = some v→Value.okWide Tryz.prog W .any base t v:=hval0;have hW':=hW;obtain ⟨p,q,hA0,hV,rfl,hfz,hnd⟩:=hW;have hA:DataW.TrodAll enc Tryz.prog W 0 (fun _=>true) true Tryz.f3.params.toList args.toList ds p:=hA0;rw [Tryz.params3] at hA hval;obtain ⟨v0,vs0,d0,ds0,p0,q0,hargs,rfl,rfl,h0,r0⟩:=trodAll_cons hA;obtain ⟨v1,vs1,d1,ds1,p1,q1,rfl,rfl,rfl,h1,r1⟩:=trodAll_cons r0;obtain ⟨rfl,rfl,rfl⟩:=trodAll_nil r1;obtain rfl:args=#[v0,v1]:=by cases args;simp_all
 obtain ⟨rfl,rfl⟩:=trodVars_none hV;obtain ⟨a0,rfl,rfl,rfl,w0⟩:=open_int Tryz.underlying3 (hval 0 3 v0 rfl rfl) h0;obtain ⟨a1,rfl,rfl,rfl⟩:=open_bool Tryz.underlying4 (hval 1 4 v1 rfl rfl) h1;clear hA0 hval0;refine (zgw a0 a1 W w0 (zlZ hL)).mono fun e W' ⟨he,bel⟩=>?_
 subst he;exact ⟨_,rfl,_,_,_,[],_,[],hW',trodAll_mk1 (shut_bool Tryz.underlying4 _),(trodAll_cons_mk (shut_int Tryz.underlying3 w0) (trodAll_cons_mk (shut_bool Tryz.underlying4 _) trodAll_mk0)),rfl,bel.frame _,fun h=>by cases h⟩
theorem zev:(Rows.consoleCountsRow.inPlace==Tryz.pinned.checked.prog.inPlace 3)=true:=by kernel_rfl
theorem zdI:(Rows.consoleCountsRow.unfollowed==Tryz.pinned.checked.prog.unfollowed 3)=true:=by kernel_rfl
theorem zep:(Rows.consoleCountsRow.recurses==Tryz.pinned.checked.prog.recurses 3)=true:=by kernel_rfl
theorem zfu:(Rows.consoleCountsRow.named==Tryz.pinned.checked.prog.varsNamed 3)=true:=by kernel_rfl
theorem zeq:laidOutB Tryz.pinned.checked.prog=true:=by kernel_rfl
theorem zfv:Tryz.pinned.checked.prog.stopsHeard=true:=by kernel_rfl
theorem zer:Tryz.pinned.checked.prog.mayEnter=true:=by kernel_rfl
theorem zfw:joinedFacts Tryz.pinned.checked.prog 3 Tryz.f3 Rows.consoleCountsSpec Rows.consoleCountsRow=true:=by
 unfold joinedFacts;rw [zev,zdI,zep,zfu,zeq,zfv,zer]
 kernel_rfl
theorem zfE:Rows.consoleCountsRow.holds Tryz.pinned (OpenSpec.ofChange Rows.consoleCountsSpec):=
 OpenClaim.holds_of_wide 3 Tryz.f3 rfl rfl rfl rfl rfl rfl rfl ⟨rfl,rfl,rfl,rfl,rfl⟩ rfl rfl rfl rfl rfl (by kernel_rfl) Tryz.func3 zfw
  (of_decide_eq_true (by kernel_rfl)) (by unfold Func.isWrapper;first|(rw [if_pos (by decide +kernel)];kernel_rfl)|(rw [if_neg (by decide +kernel)];exact ⟨rfl,rfl⟩))
  (fun os started H enc _=>zfh os started H enc)
theorem zgx:Rows.ConsoleCountsSaid:=zfE
theorem consoleCounts_holds:Rows.ConsoleCountsCardSaid:=
 Claim7.holds_tied_plain_at .later [] [.data,.data,.data,.data,.data,.handle,.data,.data,.data,.data] true (true, "a7baff895d00bab2000ea34ed53d3aca3c98fbdde0649578f2a08471d6e09d3d") true
  zgx (fun _ h=>by cases h) (by kernel_rfl) (fun _ h=>by cases h) consoleCounts_row_tie rfl ⟨rfl,rfl⟩ (by kernel_rfl) rfl
  (fun f fn hf hfn=>by
   obtain rfl:f=3:=Option.some.inj ((show Tryz.prog.funcNamed "phosphor/phosphorlaw26.ConsoleCounts"=some 3 by kernel_rfl).symm.trans hf) |>.symm
   obtain rfl:fn=Tryz.f3:=(Option.some.inj (Tryz.func3.symm.trans hfn)).symm
   exact ⟨by kernel_rfl,fun j t ht=>by
    rw [Tryz.params3] at ht;rcases j with _|_|j
    ·obtain rfl:t=3:=by simpa using ht.symm
     exact (show Tryz.prog.wantsStandIn 3=false by kernel_rfl)
    ·obtain rfl:t=4:=by simpa using ht.symm
     exact (show Tryz.prog.wantsStandIn 4=false by kernel_rfl)
    ·simp at ht⟩)
  (by kernel_rfl)
#print axioms consoleCounts_holds
end Go.Proofs.YtdiidjehdginnaaGreatDoor
