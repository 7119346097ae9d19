/- Texts put together. -/
import Derived.Test.YtoijhhbiknhlnaaGreatDoorRows
import Derived.Test.YtoijhhbiknhlnaaGreatDoorCpuSpeedsJ26
import Derived.Test.YtoijhhbiknhlnaaGreatDoorCpuSpeedsJ01
import Derived.ChangeSame
import Derived.ChangeVars
import Derived.JoinedOf
import Derived.RowKit
import Derived.RowKitTokens
import Derived.LaidLaws
import Derived.LaidHandle
import Derived.Stop.Joined
import Derived.Test.YtoijhhbiknhlnaaGreatDoorCpuSpeedsJ37
import Derived.Laws.Rows
import Derived.Laws.Tables
namespace Go.Proofs.YtoijhhbiknhlnaaGreatDoor.K9
set_option maxRecDepth 20000
open Go.ChangeShapes Go.WideShapes Go.RowKit
set_option linter.unusedVariables false
def zhm:Array Value:=#[.string ⟨#[84,73,73]⟩,.string ⟨#[84,68,68]⟩,.string ⟨#[84,73,78]⟩,.string ⟨#[84,73,65]⟩,.string ⟨#[84,65,73]⟩]
abbrev zjX:List (String×DataW Unit):=[("phosphor/block.paths",Rows.laid_phosphor_block_paths)]
theorem Tryz.gPaths:Tryz.prog.globalNamed "phosphor/block.paths"=some 3:=by kernel_rfl
theorem Tryz.tPaths:(Tryz.prog.globals[3]?).map (·.type)=some 202:=by kernel_rfl
theorem paths_flat:flat Tryz.prog 40 202 Rows.laid_phosphor_block_paths=some zdo.toList:=by kernel_rfl
theorem Tryz.gNames:Tryz.prog.globalNamed "phosphor/block.names"=some 2:=by kernel_rfl
theorem Tryz.tNames:(Tryz.prog.globals[2]?).map (·.type)=some 201:=by kernel_rfl
theorem names_flat:flat Tryz.prog 40 201 Rows.laid_phosphor_block_names=some zhm.toList:=by kernel_rfl
theorem laid_paths {W:World} (h:laidMetH Tryz.prog zjX W):HasPaths W:=by
 have h:laidMet Tryz.prog zjX W:=h;obtain ⟨ps,⟨g,t,cs,fuel,p,q,e1,e2,e3,e4,_,_⟩,_⟩:=h;obtain rfl:=Option.some.inj (Tryz.gPaths.symm.trans e1);obtain rfl:=Option.some.inj (Tryz.tPaths.symm.trans e2);have hc:=zee 40 fuel 202 _ _ _ _ paths_flat e4;have hc2:cs=zdo:=Array.toList_inj.1 hc;subst hc2;simp only [World.var?,Tryz.gPaths,Option.bind_some] at e3;split at e3
 ·rename_i cs' t' fr hh;obtain rfl:=Option.some.inj e3;exact ⟨t',fr,hh⟩
 ·cases e3
noncomputable def laidWorld (os:Os):World:=
 let w0:=World.holding Tryz.prog os ⟨#[],#[],[]⟩
 { w0 with heap:=(w0.heap.modify 3 fun
  |.cells _ t frozen=>.cells zdo t frozen
  |o=>o).modify 2 fun
  |.cells _ t frozen=>.cells zhm t frozen
  |o=>o }
open Go.RowKit
theorem toList_eq {s y:ByteArray} (h:s.toList=y.toList):s=y:=by
 obtain ⟨⟨a⟩⟩:=s;obtain ⟨⟨b⟩⟩:=y;have k:(ByteArray.mk a.toArray).toList=(ByteArray.mk b.toArray).toList:=h;rw [ByteArray.toList_mk,ByteArray.toList_mk] at k;rw [k]
theorem zzq {s y:ByteArray} (h:¬s=y):(s.toList==y.toList)=false:=by
 rw [beq_eq_false_iff_ne];exact fun k=>h (toList_eq k)
def nmB (j:Nat):ByteArray:=[(⟨#[84,73,73]⟩:ByteArray),⟨#[84,68,68]⟩,⟨#[84,73,78]⟩,⟨#[84,73,65]⟩,⟨#[84,65,73]⟩].getD j ⟨#[]⟩
theorem zzr:∀j,j<5→∀k,k<5→nmB j=nmB k→j=k:=by decide +kernel
theorem zkS (j:Nat) (hj:j<5) (w:World):(Instr.index 201 (.agg zhm) (.int .i64 (j:Int))).run Tryz.prog w=.ok (.string (nmB j)) w:=by
 rcases j with _|_|_|_|_|j
 ·kernel_rfl
 ·kernel_rfl
 ·kernel_rfl
 ·kernel_rfl
 ·kernel_rfl
 ·omega
def Found (s:ByteArray) (e:Ending):Prop:=(∃j:Nat,j<5∧nmB j=s∧e=.returned (.tuple #[.int .i64 (j:Int),.bool true]))∨((∀i,i<5→nmB i≠s)∧e=.returned (.tuple #[.int .i64 0,.bool false]))
theorem zvV (s:ByteArray) (w:World) (cs:Array Value) (t:TypeId) (fr:Nat×Nat) (hT:w.heap[2]? = some (.cells cs t fr)) (hs:some 5=some cs.size)
  (hx:∀(j:Nat),j<5→∀w:World,(Instr.index 201 (.agg cs) (.int .i64 (j:Int))).run Tryz.prog w=.ok (.string (nmB j)) w):
  Calls Tryz.prog 110 #[.string s] w fun e w'=>Found s e∧w'=w:=by
 have hi:(Tryz.prog.info? 201).map (·.size)=some cs.size:=Eq.trans (by kernel_rfl) hs;have HX:=hide hx;have HT:=hide hT;have HI:=hide hi;clear hx hs hi hT;go_enter Tryz.func110,Tryz.ntmps110;go_wp2_with (first|(refine wpList_load_row rfl 201 (.global 2) rfl 2 rfl t cs fr _ HT.out Tryz.underlying201 rfl HI.out ?_));go_loopw [7] (fun si wr=>∃j:Nat,j≤5∧si=.int .i64 (j:Int)∧(∀i,i<j→nmB i≠s)∧wr=w) (fun si _=>5-(intOf si).toNat)
 case atStart=>exact ⟨0,by omega,rfl,fun i hi=>absurd hi (by omega),rfl⟩
 case round=>
  obtain ⟨j,hj,rfl,hne,rfl⟩:=hrel;have HN:=hide hne;clear hne
  by_cases h:j<5
  ·have hx:=HX.out j h;obtain ⟨y,hy⟩:∃y,y=nmB j:=⟨_,rfl⟩
   rw [←hy] at hx;have HY:=hide hy;clear hy
   by_cases hys:y=s
   ·subst hys;go_wp2_with fail;go_ret2;exact ⟨.inl ⟨j,h,HY.out.symm,rfl⟩,rfl⟩
   ·have hb:=zzq (fun h=>hys h.symm:¬s=y);go_wp2_with fail;go_roundw
    case rel=>
     refine ⟨j+1,by omega,by go_num,fun i hi=>?_,trivial⟩
     by_cases hij:i=j
     ·subst hij;rw [←HY.out];exact hys
     ·exact HN.out i (by omega)
    case measure=>simp [intOf];omega
  ·have hj:j=5:=by omega
   subst hj;go_wp2_with fail;go_ret2;exact ⟨.inr ⟨HN.out,rfl⟩,rfl⟩
end Go.Proofs.YtoijhhbiknhlnaaGreatDoor.K9
