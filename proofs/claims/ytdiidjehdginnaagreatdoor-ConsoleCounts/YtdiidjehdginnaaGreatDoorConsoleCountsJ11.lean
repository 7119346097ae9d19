/- Texts put together. -/
import Derived.Test.YtdiidjehdginnaaGreatDoorRows
import Derived.Test.YtdiidjehdginnaaGreatDoorConsoleCountsJ01
import Derived.Test.YtdiidjehdginnaaGreatDoorConsoleCountsJ10
import Derived.Laws.Tables
import Derived.Laws.Rows
import Derived.Laws.ResultCell
import Derived.Laws.CopyOwn
import Derived.Great.FillDense
import Derived.WalkKit
import Derived.Below
import Derived.OneCell
import Derived.Maps.Own
import Derived.Maps.OwnOps
import Derived.Test.YtdiidjehdginnaaGreatDoorConsoleCountsJ02
import Derived.Deep.RegionWith
import Derived.WalkMore
import Derived.Handy
namespace Go.Proofs.YtdiidjehdginnaaGreatDoor.O7
set_option maxHeartbeats 1000000
set_option maxRecDepth 20000
open Go.RowKit
set_option linter.unusedVariables false
variable {a:Act} {ops:Array Oper} {Q:Exit→Act→World→Prop} {rest:List Oper} {o:Oper} {P:Program} {w:World}
def rowV (r:List UInt8×Int×Int):Value:=.agg #[.string ⟨⟨r.1⟩⟩,.int .i64 r.2.1,.int .i64 r.2.2]
def zmx (k:Nat) (r:List UInt8×Int×Int):Oper:=
 { dst:=some k,op:=.build 275 #[(0,.const (.string ⟨⟨r.1⟩⟩)),(1,.const (.int .i64 r.2.1)),(2,.const (.int .i64 r.2.2))],type:=275,pos:= "opcode.go:81",after:=#[],guard:=none }
def znJ:Nat→List (List UInt8×Int×Int)→List Oper
 |_,[]=>[]
 |k,r::l=>zmx k r::znJ (k+1) l
def zdk:Nat→List (List UInt8×Int×Int)→Act→Act
 |_,[],a=>a
 |k,r::l,a=>zdk (k+1) l (a.put (some k) (rowV r))
theorem zdz (hg:o.guard=none) (v:Value)
  (h:(execOp a.eval o).run P w=.ok (.value v) w) (hK:wpList P ops Q rest (a.put o.dst v) w):wpList P ops Q (o::rest) a w:=
 wpList_plain hg fun K hK'=>by
  unfold Oper.wp;rw [h];exact hK' _ _ hK
theorem zyN (e:Operand→Value) (he:∀v,e (.const v)=v) (k:Nat) (r:List UInt8×Int×Int) (w:World):(execOp e (zmx k r)).run Tryz.prog w=.ok (.value (rowV r)) w:=by
 simp [execOp,zmx,he];rw [run_build w 275 _ #[.string ⟨⟨r.1⟩⟩,.int .i64 r.2.1,.int .i64 r.2.2] (by kernel_rfl)];rfl
theorem zsG :∀(l:List (List UInt8×Int×Int)) (k:Nat) (a:Act),
  wpList Tryz.prog ops Q rest (zdk k l a) w→wpList Tryz.prog ops Q (znJ k l++rest) a w
 |[],_,_,h=>h
 |r::l,k,a,h=>zdz rfl (rowV r) (zyN a.eval (fun _=>rfl) k r w) (zsG l (k+1) _ h)
theorem zfq:∀(l:List (List UInt8×Int×Int)) (k:Nat) (a:Act),(zdk k l a).defers=a.defers
 |[],_,_=>rfl
 |r::l,k,a=>zfq l (k+1) _
theorem zhh:∀(l:List (List UInt8×Int×Int)) (k:Nat) (a:Act),(zdk k l a).tmps.size=a.tmps.size
 |[],_,_=>rfl
 |r::l,k,a=>by
  rw [zdk,zhh l (k+1)];simp [Act.put]
theorem zeh:∀(l:List (List UInt8×Int×Int)) (k:Nat) (a:Act) (j:Nat),j<k→(zdk k l a).tmps[j]? = a.tmps[j]?
 |[],_,_,_,_=>rfl
 |r::l,k,a,j,h=>by
  rw [zdk,zeh l (k+1) _ j (by omega)];simp only [Act.put];rw [Array.getElem?_setIfInBounds_ne (by omega)]
theorem zjq:∀(l:List (List UInt8×Int×Int)) (k:Nat) (a:Act) (j:Nat) (hj:j<l.length),k+j<a.tmps.size→(zdk k l a).tmps[k+j]? = some (rowV l[j])
 |[],_,_,j,hj,_=>by simp at hj
 |r::l,k,a,0,hj,hs=>by
  rw [zdk,zeh l (k+1) _ (k+0) (by omega)];simp only [Act.put,Nat.add_zero];rw [Array.getElem?_setIfInBounds_self_of_lt (by omega)];rfl
 |r::l,k,a,j+1,hj,hs=>by
  have e:k+(j+1)=k+1+j:=by omega
  rw [zdk,e,zjq l (k+1) _ j (by simpa using hj) (by simp [Act.put];omega)];rfl
def zgg (c:Option Code):List Oper:=match c with
 |some (.seq _ (.seq (.region _ o _) _))=>o.toList
 |_=>[]
theorem zBJ:∃o1 o2 o3 o4:Oper,Tryz.f196.body=some (.seq (.region 0 #[{ dst:=some 2,op:=.alloc 275,type:=0,pos:= "opcode.go:80",after:=#[],guard:=none }] false) (.seq (.region 1 (znJ 3 tbl++[o1,o2,o3,o4]).toArray false) .ret)) ∧
   (o1.guard=none∧o1.dst=some 259∧o1.op=.build 299 ((List.range 256).map fun i=>(i,Operand.tmp (3+i))).toArray)∧(o2.guard=none∧o2.dst=some 260∧o2.op=.move (.tmp 0)) ∧
   (o3.guard=none∧o3.dst=some 261∧o3.op=.index 299 (.tmp 259) (.tmp 260))∧(o4.guard=none∧o4.dst=none∧o4.op=.store 275 (.tmp 2) (.tmp 261)):=
 ⟨(zgg Tryz.f196.body).getD 256 (zmx 0 ([],0,0)),(zgg Tryz.f196.body).getD 257 (zmx 0 ([],0,0)),(zgg Tryz.f196.body).getD 258 (zmx 0 ([],0,0)),(zgg Tryz.f196.body).getD 259 (zmx 0 ([],0,0)),
   by kernel_rfl,⟨by kernel_rfl,by kernel_rfl,by kernel_rfl⟩,⟨by kernel_rfl,by kernel_rfl,by kernel_rfl⟩,⟨by kernel_rfl,by kernel_rfl,by kernel_rfl⟩,⟨by kernel_rfl,by kernel_rfl,by kernel_rfl⟩⟩
theorem zmy {w':World} (hg:o.guard=none) (v:Value)
  (h:(execOp a.eval o).run P w=.ok (.value v) w') (hK:wpList P ops Q rest (a.put o.dst v) w'):wpList P ops Q (o::rest) a w:=
 wpList_plain hg fun K hK'=>by
  unfold Oper.wp;rw [h];exact hK' _ _ hK
theorem zyO:∃z:Array Value,z.size=768∧∀l:List (Nat×Value),Tryz.prog.built 299 l=Instr.fill (fun i=>some (i*3,3)) z l:=
 ⟨(((Tryz.prog.info? 299).bind (·.zero)).map (·.cells)).getD #[],by kernel_rfl,fun l=>by kernel_rfl⟩
theorem znK:∀(l:List (List UInt8×Int×Int)) (j:Nat) (hj:j<l.length),(((l.map rowV).flatMap fun v=>v.cells.toList).drop (3*j)).take 3=(rowV l[j]).cells.toList
 |[],j,hj=>by simp at hj
 |r::l,0,_=>rfl
 |r::l,j+1,hj=>by
  have e:3*(j+1)=3*j+1+1+1:=by omega
  rw [e];show (List.drop (3*j) ((l.map rowV).flatMap fun v=>v.cells.toList)).take 3=_;exact znK l j (by simpa using hj)
theorem zmz (T:List (List UInt8×Int×Int)) (b:Nat) (hl:b<T.length) (hb:b<256) (w:World):(Instr.index 299 (.agg ((T.map rowV).flatMap fun v=>v.cells.toList).toArray) (.int .i64 (b:Int))).run Tryz.prog w=.ok (rowV T[b]) w:=by
 have h0:(0:Int)≤b∧(b:Int)<((256:Nat):Int):=by omega
 have hs:(sizeOf 275).run Tryz.prog w=.ok 3 w:=by kernel_rfl
 have hg:(isAgg 275).run Tryz.prog w=.ok true w:=by kernel_rfl
 have hr:=znK T b hl;generalize ((T.map rowV).flatMap fun v=>v.cells.toList)=cs at hr ⊢;have e2:List.take 3 (List.drop (b*3) cs)=(rowV T[b]).cells.toList:=by rw [Nat.mul_comm];exact hr
 have h1:(b:Int)<256:=by omega
 simp only [Instr.index,asIntOf,part];simp only [run_underlying Tryz.underlying299,Sem.run_bind,Result.andThen];simp [h0,hs,hg,Result.andThen];rw [if_pos h1,e2];rfl
theorem zvP (T:List (List UInt8×Int×Int)) (hT:T.length=256) (o1 o2 o3 o4:Oper)
  (hbody:Tryz.f196.body=some (.seq (.region 0 #[{ dst:=some 2,op:=.alloc 275,type:=0,pos:= "opcode.go:80",after:=#[],guard:=none }] false) (.seq (.region 1 (znJ 3 T++[o1,o2,o3,o4]).toArray false) .ret)))
  (g1:o1.guard=none) (d1:o1.dst=some 259) (p1:o1.op=.build 299 ((List.range 256).map fun i=>(i,Operand.tmp (3+i))).toArray)
  (g2:o2.guard=none) (d2:o2.dst=some 260) (p2:o2.op=.move (.tmp 0)) (g3:o3.guard=none) (d3:o3.dst=some 261) (p3:o3.op=.index 299 (.tmp 259) (.tmp 260))
  (g4:o4.guard=none) (d4:o4.dst=none) (p4:o4.op=.store 275 (.tmp 2) (.tmp 261)) (b:Nat) (hb:b<256) (w:World):
  Calls Tryz.prog 196 #[.int .i64 (b:Int)] w fun e w'=>e=.returned (rowV (T[b]'(by omega)))∧Below w.heap.size w w':=by
 refine calls_of_wp Tryz.func196 hbody ?_;rw [Tryz.ntmps196];refine wp_seq (wp_region_lit ?_);refine zmy rfl (.pointer (some ⟨w.heap.size,0,none⟩)) (w':=w.alloc (.cells #[.string ⟨#[]⟩,.int .i64 0,.int .i64 0] 275)) (by kernel_rfl) ?_;refine wpList_nil ?_;refine wp_seq (wp_region_lit ?_);refine zsG T 3 _ ?_;generalize ha:zdk 3 T _=a;have hz:∀(i:Nat) (hi:i<T.length),a.eval (.tmp (3+i))=rowV T[i]:=by
  intro i hi;rw [←ha];show (Array.getD _ (3+i) undef)=_;rw [Array.getD_eq_getD_getElem?,zjq T 3 _ i hi (by simp [Act.put];omega)];rfl
 have h0:a.eval (.tmp 0)=.int .i64 (b:Int):=by
  rw [←ha];show (Array.getD _ 0 undef)=_;rw [Array.getD_eq_getD_getElem?,zeh T 3 _ 0 (by omega)];simp [Act.put]
 have h2:a.eval (.tmp 2)=.pointer (some ⟨w.heap.size,0,none⟩):=by
  rw [←ha];show (Array.getD _ 2 undef)=_;rw [Array.getD_eq_getD_getElem?,zeh T 3 _ 2 (by omega)];simp [Act.put]
 have hs:a.tmps.size=262:=by
  rw [←ha,zhh];simp [Act.put]
 have hd:a.defers=[]:=by
  rw [←ha,zfq];rfl
 clear ha;refine zdz g1 (.agg ((T.map rowV).flatMap fun v=>v.cells.toList).toArray) ?_ ?_
 ·obtain ⟨z,z1,z2⟩:=zyO;have hp:(((List.range 256).map fun i=>(i,Operand.tmp (3+i))).toArray.map fun x=>(x.1,a.eval x.2)).toList=((T.map rowV).zipIdx 0).map fun x=>(x.2,x.1):=by
   apply List.ext_getElem
   ·simp [hT]
   ·intro n h1 h2;have hn:n<T.length:=by simp [hT] at h2;omega
    simp [hz n hn]
  have hv:=run_build (P:=Tryz.prog) (w.alloc (.cells #[.string ⟨#[]⟩,.int .i64 0,.int .i64 0] 275)) 299 (((List.range 256).map fun i=>(i,Operand.tmp (3+i))).toArray.map fun x=>(x.1,a.eval x.2)) ((T.map rowV).flatMap fun v=>v.cells.toList).toArray
   (by rw [hp,z2];exact Great.fill_whole (by omega) _ _ (by intro v hv;obtain ⟨r,_,rfl⟩:=List.mem_map.1 hv;rfl) (by rw [z1,List.length_map,hT]))
  have he:∀w:World,(execOp a.eval o1).run Tryz.prog w=((Instr.build 299 (((List.range 256).map fun i=>(i,Operand.tmp (3+i))).toArray.map fun x=>(x.1,a.eval x.2))).run Tryz.prog w).andThen fun a w'=>.ok (.value a) w':=by
   intro w;simp only [execOp,p1,Sem.run_bind,Sem.run_pure]
  rw [he,hv];rfl
 rw [d1];have a0:(a.put (some 259) (.agg ((T.map rowV).flatMap fun v=>v.cells.toList).toArray)).eval (.tmp 0)=.int .i64 (b:Int):=by
  rw [←h0];show Array.getD (Array.setIfInBounds a.tmps 259 _) 0 undef=Array.getD a.tmps 0 undef;simp [Array.getD_eq_getD_getElem?]
 have a2:(a.put (some 259) (.agg ((T.map rowV).flatMap fun v=>v.cells.toList).toArray)).eval (.tmp 2)=.pointer (some ⟨w.heap.size,0,none⟩):=by
  rw [←h2];show Array.getD (Array.setIfInBounds a.tmps 259 _) 2 undef=Array.getD a.tmps 2 undef;simp [Array.getD_eq_getD_getElem?]
 have a9:(a.put (some 259) (.agg ((T.map rowV).flatMap fun v=>v.cells.toList).toArray)).eval (.tmp 259)=.agg ((T.map rowV).flatMap fun v=>v.cells.toList).toArray:=by
  show Array.getD (Array.setIfInBounds a.tmps 259 _) 259 undef=_;simp [Array.getD_eq_getD_getElem?,hs]
 have asz:(a.put (some 259) (.agg ((T.map rowV).flatMap fun v=>v.cells.toList).toArray)).tmps.size=262:=by simp [Act.put,hs]
 have ad:(a.put (some 259) (.agg ((T.map rowV).flatMap fun v=>v.cells.toList).toArray)).defers=[]:=hd;generalize (a.put (some 259) (.agg ((T.map rowV).flatMap fun v=>v.cells.toList).toArray))=a' at a0 a2 a9 asz ad ⊢;clear hz h0 h2 hs hd a;refine zdz g2 (.int .i64 (b:Int)) (by simp only [execOp,p2,a0];rfl) ?_;rw [d2];have b2:(a'.put (some 260) (.int .i64 (b:Int))).eval (.tmp 2)=.pointer (some ⟨w.heap.size,0,none⟩):=by
  rw [←a2];show Array.getD (Array.setIfInBounds a'.tmps 260 _) 2 undef=Array.getD a'.tmps 2 undef;simp [Array.getD_eq_getD_getElem?]
 have b9:(a'.put (some 260) (.int .i64 (b:Int))).eval (.tmp 259)=.agg ((T.map rowV).flatMap fun v=>v.cells.toList).toArray:=by
  rw [←a9];show Array.getD (Array.setIfInBounds a'.tmps 260 _) 259 undef=Array.getD a'.tmps 259 undef;simp [Array.getD_eq_getD_getElem?]
 have b0:(a'.put (some 260) (.int .i64 (b:Int))).eval (.tmp 260)=.int .i64 (b:Int):=by
  show Array.getD (Array.setIfInBounds a'.tmps 260 _) 260 undef=_;simp [Array.getD_eq_getD_getElem?,asz]
 have bs:(a'.put (some 260) (.int .i64 (b:Int))).tmps.size=262:=by simp [Act.put,asz]
 have bd:(a'.put (some 260) (.int .i64 (b:Int))).defers=[]:=ad;generalize (a'.put (some 260) (.int .i64 (b:Int)))=a at b0 b2 b9 bs bd ⊢;clear a0 a2 a9 asz ad a';refine zdz g3 (rowV (T[b]'(by omega))) ?_ ?_
 ·have he:∀w:World,(execOp a.eval o3).run Tryz.prog w=((Instr.index 299 (a.eval (.tmp 259)) (a.eval (.tmp 260))).run Tryz.prog w).andThen fun a w'=>.ok (.value a) w':=by
   intro w;simp only [execOp,p3,Sem.run_bind,Sem.run_pure]
  rw [he,b9,b0,zmz T b (by omega) hb];rfl
 rw [d3];have c2:(a.put (some 261) (rowV (T[b]'(by omega)))).eval (.tmp 2)=.pointer (some ⟨w.heap.size,0,none⟩):=by
  rw [←b2];show Array.getD (Array.setIfInBounds a.tmps 261 _) 2 undef=Array.getD a.tmps 2 undef;simp [Array.getD_eq_getD_getElem?]
 have c1:(a.put (some 261) (rowV (T[b]'(by omega)))).eval (.tmp 261)=rowV (T[b]'(by omega)):=by
  show Array.getD (Array.setIfInBounds a.tmps 261 _) 261 undef=_;simp [Array.getD_eq_getD_getElem?,bs]
 have cd:(a.put (some 261) (rowV (T[b]'(by omega)))).defers=[]:=bd;generalize (a.put (some 261) (rowV (T[b]'(by omega))))=a' at c1 c2 cd ⊢;have hR:=heap_alloc_new w (.cells #[.string ⟨#[]⟩,.int .i64 0,.int .i64 0] 275);refine wpList_store_row g4 275 (.tmp 2) (.tmp 261) p4 w.heap.size _ c2 c1 275 _ hR (by kernel_rfl) rfl (by kernel_rfl) ?_;refine wpList_nil ?_;rw [d4];refine wp_ret ?_;refine bodyPost_ret (results_cell_row rfl _ _ w.heap.size 275 _ (0,0) _ c2 (setRow_heap _ _ _ _ _ _ hR) Tryz.underlying275 rfl (by kernel_rfl)) cd ?_;exact ⟨rfl,below_setRow ((Below.refl _ w).alloc (Nat.le_refl _) _) (Nat.le_refl _) _⟩
theorem zyP (b:Nat) (hb:b<256) (w:World):Calls Tryz.prog 196 #[.int .i64 (b:Int)] w fun e w'=>e=.returned (rowV (zpD b))∧Below w.heap.size w w':=by
 obtain ⟨o1,o2,o3,o4,hbody,⟨g1,d1,p1⟩,⟨g2,d2,p2⟩,⟨g3,d3,p3⟩,⟨g4,d4,p4⟩⟩:=zBJ;have hl:b<tbl.length:=by rw [zjn];exact hb
 have ht:zpD b=tbl[b]:=by unfold zpD;rw [List.getD_eq_getElem?_getD,List.getElem?_eq_getElem hl];rfl
 rw [ht];exact zvP tbl zjn o1 o2 o3 o4 hbody g1 d1 p1 g2 d2 p2 g3 d3 p3 g4 d4 p4 b hb w
open Go.RowKit Go.Maps
theorem keyI:Keyed Tryz.prog 3:=int_keyed Tryz.underlying3
theorem zeroI (w:World):(zeroValue 3).run Tryz.prog w=.ok (.int .i64 0) w:=by kernel_rfl
theorem zcg {w0:World} {b n:Nat} {D:DataW Unit} (h:w.ownsMap Tryz.prog 3 (plainElem Tryz.prog 3) b n D) (hw:Below b w0 w) (hn:n<100) (k v:Int) (hk:(Lit.int .i64 k).wf=true) (hv:(Lit.int .i64 v).wf=true):
  ∃w',(∀t,t=300→(Instr.mapUpdate t (.map (some b)) (.int .i64 k) (.int .i64 v)).run Tryz.prog w=.ok () w')∧w'.ownsMap Tryz.prog 3 (plainElem Tryz.prog 3) b (n+1) (D.put (.int .i64 k) (.lit (.int .i64 v)))∧Below b w0 w':=by
 obtain ⟨w',hrun,r1,r2⟩:=h.update keyI Tryz.underlying300 (by unfold maxLen;omega) (keyOf_int_mk Tryz.underlying3 hk) (plainElem_int Tryz.underlying3 hv);exact ⟨w',fun t e=>by rw [e];exact hrun,r1,hw.grown r2 (Nat.le_of_lt h.lt) (fun j hj=>by cases hj;exact Nat.le_refl _)⟩
theorem len_a (m:Int) (w:World) (h0:0≤m) (h1:m<8):Calls Tryz.prog 197 #[.int .i64 m] w fun e w'=>e=.returned (.int .i64 (lenM m))∧Below w.heap.size w w':=by
 have hwf:(Lit.int .i64 m).wf=true:=WalkArith.wf_i64 (by omega);have hmm:=@run_makeMap Tryz.prog;have o0:=World.ownsMap_made w Tryz.prog 3 (plainElem (H:=Unit) Tryz.prog 3);have b0:=(Below.refl w.heap.size w).alloc (Nat.le_refl _) (.map #[] 0);obtain ⟨w1,r1,o1,b1⟩:=zcg o0 b0 (by omega) 0 1 (by decide) (by decide);replace r1:=r1 300 rfl;obtain ⟨w2,r2,o2,b2⟩:=zcg o1 b1 (by omega) 1 1 (by decide) (by decide);replace r2:=r2 300 rfl;obtain ⟨w3,r3,o3,b3⟩:=zcg o2 b2 (by omega) 2 2 (by decide) (by decide);replace r3:=r3 300 rfl;obtain ⟨w4,r4,o4,b4⟩:=zcg o3 b3 (by omega) 3 2 (by decide) (by decide);replace r4:=r4 300 rfl;obtain ⟨w5,r5,o5,b5⟩:=zcg o4 b4 (by omega) 4 2 (by decide) (by decide);replace r5:=r5 300 rfl;obtain ⟨w6,r6,o6,b6⟩:=zcg o5 b5 (by omega) 5 2 (by decide) (by decide);replace r6:=r6 300 rfl;obtain ⟨w7,r7,o7,b7⟩:=zcg o6 b6 (by omega) 6 2 (by decide) (by decide);replace r7:=r7 300 rfl;obtain ⟨w8,r8,o8,b8⟩:=zcg o7 b7 (by omega) 7 2 (by decide) (by decide);replace r8:=r8 300 rfl;obtain ⟨c,hrun,hat,hwc⟩:=o8.lookup_int keyI Tryz.underlying300 Tryz.underlying3 (zeroI _) (keyOf_int_mk Tryz.underlying3 hwf);have HA:=hide hat;have BB:=hide b8;clear hat hwc;clear o0 o1 o2 o3 o4 o5 o6 o7 o8 b0 b1 b2 b3 b4 b5 b6 b7 b8;go_enter Tryz.func197,Tryz.ntmps197;go_wp2;go_ret;refine ⟨zat ?_,BB.out⟩;have hat:=HA.out;have hm:m=0∨m=1∨m=2∨m=3∨m=4∨m=5∨m=6∨m=7:=by omega
 rcases hm with rfl|rfl|rfl|rfl|rfl|rfl|rfl|rfl
 all_goals
  simp [DataW.put,DataW.insert,DataW.atKey,Lit.sameKey,Lit.before] at hat;rw [←hat];rfl
theorem len_b (m:Int) (w:World) (h0:8≤m) (h1:m<16):Calls Tryz.prog 197 #[.int .i64 m] w fun e w'=>e=.returned (.int .i64 (lenM m))∧Below w.heap.size w w':=by
 have hwf:(Lit.int .i64 m).wf=true:=WalkArith.wf_i64 (by omega);have hd:m/8=1:=by omega
 have hmm:=@run_makeMap Tryz.prog;have o0:=World.ownsMap_made w Tryz.prog 3 (plainElem (H:=Unit) Tryz.prog 3);have b0:=(Below.refl w.heap.size w).alloc (Nat.le_refl _) (.map #[] 0);obtain ⟨w1,r1,o1,b1⟩:=zcg o0 b0 (by omega) 8 2 (by decide) (by decide);replace r1:=r1 300 rfl;obtain ⟨w2,r2,o2,b2⟩:=zcg o1 b1 (by omega) 9 3 (by decide) (by decide);replace r2:=r2 300 rfl;obtain ⟨w3,r3,o3,b3⟩:=zcg o2 b2 (by omega) 10 3 (by decide) (by decide);replace r3:=r3 300 rfl;obtain ⟨w4,r4,o4,b4⟩:=zcg o3 b3 (by omega) 11 3 (by decide) (by decide);replace r4:=r4 300 rfl;obtain ⟨w5,r5,o5,b5⟩:=zcg o4 b4 (by omega) 12 3 (by decide) (by decide);replace r5:=r5 300 rfl;obtain ⟨w6,r6,o6,b6⟩:=zcg o5 b5 (by omega) 13 3 (by decide) (by decide);replace r6:=r6 300 rfl;obtain ⟨w7,r7,o7,b7⟩:=zcg o6 b6 (by omega) 14 2 (by decide) (by decide);replace r7:=r7 300 rfl;obtain ⟨w8,r8,o8,b8⟩:=zcg o7 b7 (by omega) 15 3 (by decide) (by decide);replace r8:=r8 300 rfl;obtain ⟨c,hrun,hat,hwc⟩:=o8.lookup_int keyI Tryz.underlying300 Tryz.underlying3 (zeroI _) (keyOf_int_mk Tryz.underlying3 hwf);have HA:=hide hat;have BB:=hide b8;clear hat hwc;clear o0 o1 o2 o3 o4 o5 o6 o7 o8 b0 b1 b2 b3 b4 b5 b6 b7 b8;go_enter Tryz.func197,Tryz.ntmps197;go_wp2;go_ret;refine ⟨zat ?_,BB.out⟩;have hat:=HA.out;have hm:m=8∨m=9∨m=10∨m=11∨m=12∨m=13∨m=14∨m=15:=by omega
 clear hd;rcases hm with rfl|rfl|rfl|rfl|rfl|rfl|rfl|rfl
 all_goals
  simp [DataW.put,DataW.insert,DataW.atKey,Lit.sameKey,Lit.before] at hat;rw [←hat];rfl
theorem len_c (m:Int) (w:World) (h0:16≤m) (h1:m<21):Calls Tryz.prog 197 #[.int .i64 m] w fun e w'=>e=.returned (.int .i64 (lenM m))∧Below w.heap.size w w':=by
 have hwf:(Lit.int .i64 m).wf=true:=WalkArith.wf_i64 (by omega);have hd:m/8=2:=by omega
 have hmm:=@run_makeMap Tryz.prog;have o0:=World.ownsMap_made w Tryz.prog 3 (plainElem (H:=Unit) Tryz.prog 3);have b0:=(Below.refl w.heap.size w).alloc (Nat.le_refl _) (.map #[] 0);obtain ⟨w1,r1,o1,b1⟩:=zcg o0 b0 (by omega) 16 7 (by decide) (by decide);replace r1:=r1 300 rfl;obtain ⟨w2,r2,o2,b2⟩:=zcg o1 b1 (by omega) 17 3 (by decide) (by decide);replace r2:=r2 300 rfl;obtain ⟨w3,r3,o3,b3⟩:=zcg o2 b2 (by omega) 18 3 (by decide) (by decide);replace r3:=r3 300 rfl;obtain ⟨w4,r4,o4,b4⟩:=zcg o3 b3 (by omega) 19 4 (by decide) (by decide);replace r4:=r4 300 rfl;obtain ⟨w5,r5,o5,b5⟩:=zcg o4 b4 (by omega) 20 4 (by decide) (by decide);replace r5:=r5 300 rfl;obtain ⟨c,hrun,hat,hwc⟩:=o5.lookup_int keyI Tryz.underlying300 Tryz.underlying3 (zeroI _) (keyOf_int_mk Tryz.underlying3 hwf);have HA:=hide hat;have BB:=hide b5;clear hat hwc;clear o0 o1 o2 o3 o4 o5 b0 b1 b2 b3 b4 b5;go_enter Tryz.func197,Tryz.ntmps197;go_wp2;go_ret;refine ⟨zat ?_,BB.out⟩;have hat:=HA.out;have hm:m=16∨m=17∨m=18∨m=19∨m=20:=by omega
 clear hd;rcases hm with rfl|rfl|rfl|rfl|rfl
 all_goals
  simp [DataW.put,DataW.insert,DataW.atKey,Lit.sameKey,Lit.before] at hat;rw [←hat];rfl
theorem len_any (m:Int) (w:World) (h0:0≤m) (h1:m≤20):Calls Tryz.prog 197 #[.int .i64 m] w fun e w'=>e=.returned (.int .i64 (lenM m))∧Below w.heap.size w w':=by
 by_cases k:m<8
 ·exact len_a m w h0 k
 ·by_cases k1:m<16
  ·exact len_b m w (by omega) k1
  ·exact len_c m w (by omega) (by omega)
def infoC (b:Nat):Array Value:=#[.string (zcq b),.int .i64 (zbm b),.int .i64 (lenOf b),.int .i64 (zef b)]
theorem of_walk (n:Int) (b:Nat) (s:ByteArray) (m l c:Int) (w:World)
  (cb:∀w,Calls Tryz.prog 69 #[.int .i64 n] w fun e w'=>e=.returned (.int .i64 (b:Int))∧w'=w)
  (cr:∀w,Calls Tryz.prog 196 #[.int .i64 (b:Int)] w fun e w'=>e=.returned (.agg #[.string s,.int .i64 m,.int .i64 c])∧Below w.heap.size w w')
  (cl:∀w,Calls Tryz.prog 197 #[.int .i64 m] w fun e w'=>e=.returned (.int .i64 l)∧Below w.heap.size w w'):
  Calls Tryz.prog 136 #[.int .i64 n] w fun e w'=>e=.returned (.agg #[.string s,.int .i64 m,.int .i64 l,.int .i64 c])∧Below w.heap.size w w':=by
 have CB:=hide cb;have CR:=hide cr;have CL:=hide cl;clear cb cr cl;go_enter Tryz.func136,Tryz.ntmps136;go_wp2_with fail;refine (CB.out _).mono ?_;rintro e w1 ⟨rfl,hw⟩;subst w1;go_wp2_with fail;refine (CR.out _).mono ?_;rintro e w1 ⟨rfl,b1⟩;obtain ⟨wr,hwr⟩:∃wr,wr=w1.alloc (.cells #[.string s,.int .i64 m,.int .i64 c] 275):=⟨_,rfl⟩
 have s1:=b1.size;have r2:=(b1.block w.heap.size (by simp)).trans (heap_alloc_new w _)
 have R2:=hide (show wr.heap[w.heap.size]? = some (.cells #[.string ⟨#[]⟩,.int .i64 0,.int .i64 0,.int .i64 0] 107 (0,0)) by
  rw [hwr];exact (((Below.refl w1.heap.size w1).alloc (Nat.le_refl _) _).block w.heap.size (lt_of_block r2)).trans r2)
 have hg:wr.heap[w1.heap.size]? = some (.cells #[.string s,.int .i64 m,.int .i64 c] 275 (0,0)):=by rw [hwr];exact heap_alloc_new w1 _
 have BW:=hide (show Below w.heap.size w wr by rw [hwr];exact (((Below.refl w.heap.size w).alloc (Nat.le_refl _) _).trans (b1.mono (by simp))).alloc (by simp at s1;omega) _);have LT:=hide (lt_of_block hg);have c0:wr.cell? ⟨w1.heap.size,0,none⟩=some (.string s):=by simp [World.cell?,hg]
 have c1:wr.cell? ⟨w1.heap.size,1,none⟩=some (.int .i64 m):=by simp [World.cell?,hg]
 have c2:wr.cell? ⟨w1.heap.size,2,none⟩=some (.int .i64 c):=by simp [World.cell?,hg]
 have k0:=zah c0 LT.out;have k1:=zah c1 LT.out;have k2:=zah c2 LT.out;clear r2 hg c0 c1 c2;go_wp2_with fail;rw [←hwr];clear hwr;haveI:=zax wr;refine zaR _ _ (show _=[_,_,_,_,_,_,_,_,_,_]++[_] from rfl) (by kernel_rfl) (by kernel_rfl) (by kernel_rfl) ?_
 repeat (go_big_quiet_step ((first
  |(go_at_call 197;exact zaL (CL.out _)))))
 refine wpQuiet_nil ?_;rintro _ ⟨wk,rfl⟩;have R3:=hide ((wk.block w.heap.size (lt_of_block R2.out)).trans R2.out);have B3:=hide (zaz BW.out wk.below);clear CB CR CL k0 k1 k2 R2 BW LT
 go_wp2_with (first
  |(refine wpList_store_row rfl 107 (.tmp 2) (.tmp 16) rfl w.heap.size _ rfl rfl 107 _ R3.out (by kernel_rfl) rfl (by kernel_rfl) ?_))
 (try simp only [Exit.inBlock,Exit.then])
 refine bodyPost_ret (results_cell_row rfl _ _ w.heap.size 107 _ (0,0) _ rfl (setRow_heap _ _ _ _ _ _ R3.out) Tryz.underlying107 rfl (by kernel_rfl)) rfl ?_;exact ⟨rfl,below_setRow B3.out (Nat.le_refl _) _⟩
theorem of_any (n:Int) (w:World):Calls Tryz.prog 136 #[.int .i64 n] w fun e w'=>e=.returned (.agg (infoC (n%256).toNat))∧Below w.heap.size w w':=by
 obtain ⟨b,hb⟩:∃b:Nat,b=(n%256).toNat:=⟨_,rfl⟩
 have e:(b:Int)=n%256:=by omega
 have lt:b<256:=by omega
 rw [←hb];have hm:=zsy b lt;exact of_walk n b (zcq b) (zbm b) (lenOf b) (zef b) w (fun w=>by rw [e];exact zam n w) (fun w=>zyP b lt w) (fun w=>len_any (zbm b) w hm.1 hm.2)
end Go.Proofs.YtdiidjehdginnaaGreatDoor.O7
namespace Go.Proofs.YtdiidjehdginnaaGreatDoor.L25
set_option maxHeartbeats 1000000
set_option maxRecDepth 20000
open B4 C3 G6 I11 J23 K9 L24 M5 N8 O7 P22 R15 T10 V12 W13
open Go.RowKit
set_option linter.unusedVariables false
variable {t:Bool} {nm:ByteArray} {bs:List Int} {B I:Nat→Int} {Z:Nat→Nat→Int} {w:World}
theorem HasQ.ext {s b v c d:Nat} (h:HasQ w s b v c d bs nm I B t Z) {I' B':Nat→Int} (hI:∀j,j<7→I j=I' j) (hB:∀j,j<6→B j=B' j):HasQ w s b v c d bs nm I' B' t Z:=by
 refine ⟨h.1.ext fun j hj=>?_,h.2⟩;unfold SP;simp only [zcd]
 by_cases j0:j<6
 ·rw [if_pos j0,if_pos j0]
 rw [if_neg j0,if_neg j0]
 by_cases j1:j-6<1
 ·rw [if_pos j1,if_pos j1]
 rw [if_neg j1,if_neg j1]
 by_cases j2:j-6-1<1
 ·rw [if_pos j2,if_pos j2]
 rw [if_neg j2,if_neg j2]
 by_cases j3:j-6-1-1<1
 ·rw [if_pos j3,if_pos j3]
 rw [if_neg j3,if_neg j3]
 by_cases j4:j-6-1-1-1<1
 ·rw [if_pos j4,if_pos j4]
 rw [if_neg j4,if_neg j4]
 by_cases j5:j-6-1-1-1-1<4
 ·rw [if_pos j5,if_pos j5,hI 0 (by decide),hI 1 (by decide),hI 2 (by decide)]
 rw [if_neg j5,if_neg j5]
 by_cases j6:j-6-1-1-1-1-4<6
 ·rw [if_pos j6,if_pos j6];unfold iv;rw [hB _ j6]
 rw [if_neg j6,if_neg j6]
 by_cases j7:j-6-1-1-1-1-4-6<4
 ·rw [if_pos j7,if_pos j7];exact congrArg (Value.int .i64) (hI _ (by omega))
 rw [if_neg j7,if_neg j7]
theorem zsH (b:Nat) (nm:ByteArray) (I B:Nat→Int) (t:Bool) (Z:Nat→Nat→Int):∀j,j<6→segs (SP b nm I B t Z) (14+j)=iv B j:=fun j hj=>zci (SP b nm I B t Z) 6 6 (iv B) j rfl hj
theorem zyQ {s b v c d:Nat} (h:HasQ w s b v c d bs nm I B t Z) (hm:I 0=14):Calls Tryz.prog 140 #[.pointer (some ⟨s,0,none⟩)] w fun e w'=>e=Ending.returned (.tuple #[])∧HasQ w' s b v c d bs nm (up I 5 (B 0)) B t Z∧OnlyE (EQ s b v) w w':=by
 have HE:=hide h;have HF:=hide h.1;have SEG:=hide (zsH b nm I B t Z);have HL:=hide h.lt;have HLB:=hide h.2.1.1.lt;have HLV:=hide (lt_of_block h.2.1.2.1);clear h;go_enter Tryz.func140,Tryz.ntmps140
 go_upto_region 1 with (first
  |(refine zaw rfl 108 (.tmp 5) rfl s 14 rfl HF.out 6 (by decide) (iv B) SEG.out _ Tryz.underlying108 rfl (by kernel_rfl) ?_;rw [show rowF (iv B) 6=#[.int .i64 (B 0),.int .i64 (B 1),.int .i64 (B 2),.int .i64 (B 3),.int .i64 (B 4),.int .i64 (B 5)] from rfl]))
 refine under_name fun wa hwa=>?_
 have GA:Hid (wa.heap[w.heap.size]? = some (.cells #[.int .i64 (B 0),.int .i64 (B 1),.int .i64 (B 2),.int .i64 (B 3),.int .i64 (B 4),.int .i64 (B 5)] 108 (0,0))):=hide (by rw [hwa];exact heap_alloc_new _ _);have BA:Hid (Below w.heap.size w wa):=hide (by rw [hwa];exact (Below.refl _ w).alloc (Nat.le_refl _) _);have HA:=hide (HE.out.next BA.out);have OA:=hide (zet (s:=s) (b:=b) (v:=v) BA.out);have NE:Hid (¬EQ s b v w.heap.size):=hide (fun e=>by have:=HL.out;have:=HLB.out;have:=HLV.out;rcases e with e|e|e<;>omega);have GF:Hid (∀(x:World) (k:Nat),OnlyE (EQ s b v) wa x→x.cell? ⟨w.heap.size,k,none⟩=#[.int .i64 (B 0),.int .i64 (B 1),.int .i64 (B 2),.int .i64 (B 3),.int .i64 (B 4),.int .i64 (B 5)][k]?):=hide (fun x k o=>cell_of_row x w.heap.size k _ _ _ (o.obj GA.out NE.out));generalize w.heap.size=g at *;have c11:=HA.out.mode;rw [hm] at c11;clear hwa HE HF SEG BA;have g0:=(GF.out wa 0 (zet (Below.refl _ wa))).trans rfl;have c22:=HA.out.farr;have z22:=HA.out.frz 22;have H2:=hide (HA.out.putI 2 (by decide) (B 0) (a:=22) rfl);have O2:=hide (zcP OA.out 22 (.int .i64 (B 0)));clear GA GF HA OA;go_wp2;go_end0;exact ⟨rfl,H2.out,O2.out⟩
theorem zyR {s b v c d:Nat} (h:HasQ w s b v c d bs nm I B t Z) (m:Int) (hm:I 0=m) (h14:¬m=14) (h15:¬m=15) (h17:¬m=17) (h18:¬m=18) (h19:¬m=19) (h20:¬m=20):Calls Tryz.prog 140 #[.pointer (some ⟨s,0,none⟩)] w fun e w'=>e=Ending.returned (.tuple #[])∧HasQ w' s b v c d bs nm (up I 3 (jn (B 0) (B 1))) B t Z∧OnlyE (EQ s b v) w w':=by
 have HE:=hide h;have HF:=hide h.1;have SEG:=hide (zsH b nm I B t Z);have HL:=hide h.lt;have HLB:=hide h.2.1.1.lt;have HLV:=hide (lt_of_block h.2.1.2.1);clear h;go_enter Tryz.func140,Tryz.ntmps140
 go_upto_region 1 with (first
  |(refine zaw rfl 108 (.tmp 5) rfl s 14 rfl HF.out 6 (by decide) (iv B) SEG.out _ Tryz.underlying108 rfl (by kernel_rfl) ?_;rw [show rowF (iv B) 6=#[.int .i64 (B 0),.int .i64 (B 1),.int .i64 (B 2),.int .i64 (B 3),.int .i64 (B 4),.int .i64 (B 5)] from rfl]))
 refine under_name fun wa hwa=>?_
 have GA:Hid (wa.heap[w.heap.size]? = some (.cells #[.int .i64 (B 0),.int .i64 (B 1),.int .i64 (B 2),.int .i64 (B 3),.int .i64 (B 4),.int .i64 (B 5)] 108 (0,0))):=hide (by rw [hwa];exact heap_alloc_new _ _);have BA:Hid (Below w.heap.size w wa):=hide (by rw [hwa];exact (Below.refl _ w).alloc (Nat.le_refl _) _);have HA:=hide (HE.out.next BA.out);have OA:=hide (zet (s:=s) (b:=b) (v:=v) BA.out);have NE:Hid (¬EQ s b v w.heap.size):=hide (fun e=>by have:=HL.out;have:=HLB.out;have:=HLV.out;rcases e with e|e|e<;>omega);have GF:Hid (∀(x:World) (k:Nat),OnlyE (EQ s b v) wa x→x.cell? ⟨w.heap.size,k,none⟩=#[.int .i64 (B 0),.int .i64 (B 1),.int .i64 (B 2),.int .i64 (B 3),.int .i64 (B 4),.int .i64 (B 5)][k]?):=hide (fun x k o=>cell_of_row x w.heap.size k _ _ _ (o.obj GA.out NE.out));generalize w.heap.size=g at *;have c11:=HA.out.mode;rw [hm] at c11;clear hwa HE HF SEG BA;have g0:=(GF.out wa 0 (zet (Below.refl _ wa))).trans rfl;have g1:=(GF.out wa 1 (zet (Below.refl _ wa))).trans rfl;go_wp2_with (first|(go_at_call 118;refine (zcT _ _ _).mono ?_;rintro e w9 ⟨rfl,b9⟩;have H9:=HA.out.next b9;have c20:=H9.oper;have z20:=H9.frz 20;have H2:=hide (H9.putI 0 (by decide) (jn (B 0) (B 1)) (a:=20) rfl);have O2:=hide (zcP (OA.out.trans (zet b9)) 20 (.int .i64 (jn (B 0) (B 1))));clear b9 H9 HA OA GA GF g0 g1));go_end0;exact ⟨rfl,H2.out,O2.out⟩
theorem zpG (m x o:Int) (w:World):Calls Tryz.prog 198 #[.int .i64 m,.int .i64 x,.int .i64 o] w fun e w'=>e=Ending.returned (.tuple #[.int .i64 (zkj m x o),.bool (zsD m),.bool (zdR m)])∧Below w.heap.size w w':=by
 by_cases h6:m=6
 ·subst h6;exact zsm x o w
 by_cases h7:m=7
 ·subst h7;exact zsn x o w
 by_cases h8:m=8
 ·subst h8;exact zso x o w
 by_cases h12:m=12
 ·subst h12;exact zpp x o w
 by_cases h13:m=13
 ·subst h13;exact zpq x o w
 have e1:zkj m x o=0:=by unfold zkj;rw [if_neg h6,if_neg (by omega),if_neg h12,if_neg h13]
 have e2:zsD m=false:=by unfold zsD;simp [h6,h7,h8]
 have e3:zdR m=false:=by unfold zdR;simp [h6,h7,h8,h12,h13]
 rw [e1,e2,e3];exact zpr m x o w h6 h7 h8 h12 h13
theorem zpH (m x y o p:Int) (w:World):Calls Tryz.prog 199 #[.int .i64 m,.agg #[.int .i64 x,.int .i64 y],.int .i64 o,.int .i64 p] w fun e w'=>e=Ending.returned (.tuple #[.int .i64 (zkk m x y o p),.bool (zvN m)])∧Below w.heap.size w w':=by
 by_cases h3:m=3
 ·subst h3;exact zsp x y o p w
 by_cases h4:m=4
 ·subst h4;exact zsq x y o p w
 by_cases h5:m=5
 ·subst h5;exact zsr x y o p w
 by_cases h6:m=6
 ·subst h6;exact zst x y o p w
 by_cases h7:m=7
 ·subst h7;exact zsv x y o p w
 by_cases h8:m=8
 ·subst h8;exact zsu x y o p w
 by_cases h9:m=9
 ·subst h9;exact zss x y o p w
 by_cases h10:m=10
 ·subst h10;exact zpw x y o p w
 by_cases h11:m=11
 ·subst h11;exact zpy x y o p w
 by_cases h12:m=12
 ·subst h12;exact zpz x y o p w
 by_cases h13:m=13
 ·subst h13;exact zpA x y o p w
 by_cases h15:m=15
 ·subst h15;exact zps x y o p w
 by_cases h17:m=17
 ·subst h17;exact zpt x y o p w
 by_cases h18:m=18
 ·subst h18;exact zpu x y o p w
 by_cases h19:m=19
 ·subst h19;exact zpv x y o p w
 by_cases h20:m=20
 ·subst h20;exact zpx x y o p w
 have e1:zkk m x y o p=0:=by unfold zkk;rw [if_neg (by omega),if_neg (by omega),if_neg h5,if_neg (by omega),if_neg (by omega),if_neg h11,if_neg (by omega),if_neg h7]
 have e2:zvN m=false:=by unfold zvN;simp [h3,h4,h5,h6,h7,h8,h9,h10,h11,h12,h13,h15,h17,h18,h19,h20]
 rw [e1,e2];exact zpB m x y o p w h3 h4 h5 h6 h7 h8 h9 h10 h11 h12 h13 h15 h17 h18 h19 h20
theorem zyS {s b v c d:Nat} (h:HasQ w s b v c d bs nm I B t Z) (hp:zdR (I 0)=false):Calls Tryz.prog 141 #[.pointer (some ⟨s,0,none⟩)] w fun e w'=>e=Ending.returned (.tuple #[])∧HasQ w' s b v c d bs nm (up I 6 (zkk (I 0) (Z 20 1) (Z 20 2) (I 3) 0)) B t Z∧OnlyE (EQ s b v) w w':=by
 have HE:=hide h;obtain ⟨A,hA⟩:∃A,zkj (I 0) (Z 20 1) (I 3)=A:=⟨_,rfl⟩
 obtain ⟨W,hW⟩:∃W,zsD (I 0)=W:=⟨_,rfl⟩
 have KP:Hid (∀w,Calls Tryz.prog 198 #[.int .i64 (I 0),.int .i64 (Z 20 1),.int .i64 (I 3)] w fun e w'=>e=Ending.returned (.tuple #[.int .i64 A,.bool W,.bool false])∧Below w.heap.size w w'):=hide (fun w=>by rw [←hA,←hW,←hp];exact zpG _ _ _ w);obtain ⟨V,hV⟩:∃V,zkk (I 0) (Z 20 1) (Z 20 2) (I 3) 0=V:=⟨_,rfl⟩
 obtain ⟨U,hU⟩:∃U,zvN (I 0)=U:=⟨_,rfl⟩
 have KA:Hid (∀w,Calls Tryz.prog 199 #[.int .i64 (I 0),.agg #[.int .i64 (Z 20 1),.int .i64 (Z 20 2)],.int .i64 (I 3),.int .i64 0] w fun e w'=>e=Ending.returned (.tuple #[.int .i64 V,.bool U])∧Below w.heap.size w w'):=hide (fun w=>by rw [←hV,←hU];exact zpH _ _ _ _ _ w);have HV:=hide hV;clear hA hW hV hU hp;clear h;go_enter Tryz.func141,Tryz.ntmps141;go_wp2_with fail;refine zaD (zcx [.pointer (some ⟨s,0,none⟩),.pointer (some ⟨s,0,none⟩),.pointer (some ⟨s,10,none⟩),.pointer (some ⟨s,11,none⟩),.int .i64 (I 0),.pointer (some ⟨s,0,none⟩),.pointer (some ⟨s,0,none⟩),.pointer (some ⟨s,0,none⟩),.pointer (some ⟨s,0,none⟩),.pointer (some ⟨s,1,none⟩),.int .i64 (Z 20 1),.pointer (some ⟨s,0,none⟩),.pointer (some ⟨s,0,none⟩),.pointer (some ⟨s,20,none⟩),.int .i64 (I 3),.tuple #[.int .i64 A,.bool W,.bool false],.tuple #[.int .i64 A,.bool W,.bool false],.int .i64 A,.bool W,.bool false,.int .i64 A,.bool W,.bool false]) (fun dd ww=>(stgs [QA w s b v c d bs nm I B t Z]) (cntD [] dd) ww) _ (fun u=>by simp only [zaA,Act.put,List.setIfInBounds_toArray,List.set_cons_succ,List.set_cons_zero,Nat.reduceAdd];rfl) (by kernel_rfl) (by kernel_rfl) (by kernel_rfl) (fun dn hd=>zbe hd (QA.mk HE.out)) ?_ ?_
 ·repeat' first|refine zaW (fun u dn x hi hc hk hs=>?_) ?_|exact zbb
  ·go_wp2_with fail;exact zad _ rfl rfl (zac rfl hs)
  ·obtain ⟨⟨(h0:u 0=.pointer (some ⟨s,0,none⟩)),t0⟩,_⟩:=hk;simp only [h0];clear h0;go_wp2_with fail;exact zad _ rfl rfl (zac rfl hs)
  ·obtain ⟨⟨(h1:u 1=.pointer (some ⟨s,0,none⟩)),t1⟩,_⟩:=hk;simp only [h1];clear h1;go_wp2_with fail;exact zad _ rfl rfl (zac rfl hs)
  ·obtain ⟨⟨(h2:u 2=.pointer (some ⟨s,10,none⟩)),t2⟩,_⟩:=hk;simp only [h2];clear h2;go_wp2_with fail;exact zad _ rfl rfl (zac rfl hs)
  ·obtain ⟨⟨(h3:u 3=.pointer (some ⟨s,11,none⟩)),t3⟩,_⟩:=hk;simp only [h3];clear h3;have hs1:=hs;have q:=(show QA w s b v c d bs nm I B t Z x from hs1).1.mode;go_wp2_with fail;exact zad _ rfl rfl (zac rfl hs)
  ·go_wp2_with fail;exact zad _ rfl rfl (zac rfl hs)
  ·obtain ⟨⟨(h5:u 5=.pointer (some ⟨s,0,none⟩)),t5⟩,_⟩:=hk;simp only [h5];clear h5;go_wp2_with fail;exact zad _ rfl rfl (zac rfl hs)
  ·obtain ⟨⟨(h6:u 6=.pointer (some ⟨s,0,none⟩)),t6⟩,_⟩:=hk;simp only [h6];clear h6;go_wp2_with fail;exact zad _ rfl rfl (zac rfl hs)
  ·obtain ⟨⟨(h7:u 7=.pointer (some ⟨s,0,none⟩)),t7⟩,_⟩:=hk;simp only [h7];clear h7;go_wp2_with fail;exact zad _ rfl rfl (zac rfl hs)
  ·obtain ⟨⟨(h8:u 8=.pointer (some ⟨s,0,none⟩)),t8⟩,_⟩:=hk;simp only [h8];clear h8;go_wp2_with fail;exact zad _ rfl rfl (zac rfl hs)
  ·obtain ⟨⟨(h9:u 9=.pointer (some ⟨s,1,none⟩)),t9⟩,_⟩:=hk;simp only [h9];clear h9;have hs1:=hs;have q:=(show QA w s b v c d bs nm I B t Z x from hs1).1.reg 1 (by decide);go_wp2_with fail;exact zad _ rfl rfl (zac rfl hs)
  ·go_wp2_with fail;exact zad _ rfl rfl (zac rfl hs)
  ·obtain ⟨⟨(h11:u 11=.pointer (some ⟨s,0,none⟩)),t11⟩,_⟩:=hk;simp only [h11];clear h11;go_wp2_with fail;exact zad _ rfl rfl (zac rfl hs)
  ·obtain ⟨⟨(h12:u 12=.pointer (some ⟨s,0,none⟩)),t12⟩,_⟩:=hk;simp only [h12];clear h12;go_wp2_with fail;exact zad _ rfl rfl (zac rfl hs)
  ·obtain ⟨⟨(h13:u 13=.pointer (some ⟨s,20,none⟩)),t13⟩,_⟩:=hk;simp only [h13];clear h13;have hs1:=hs;have q:=(show QA w s b v c d bs nm I B t Z x from hs1).1.oper;go_wp2_with fail;exact zad _ rfl rfl (zac rfl hs)
  ·obtain ⟨⟨(h4:u 4=.int .i64 (I 0)),t4⟩,⟨(h10:u 10=.int .i64 (Z 20 1)),t10⟩,⟨(h14:u 14=.int .i64 (I 3)),t14⟩,_⟩:=hk;simp only [h4,h10,h14];clear h4 h10 h14;have hs1:=hs;have HS:=hide hs;have HS1:=hide hs1;clear hs hs1;go_wp2_with fail;refine (KP.out _).mono ?_;rintro e x2 ⟨rfl,b2⟩;have H2:=hide (zdj (zyH QA.stab) HS.out b2);clear b2 HS HS1;go_wp2_with fail;exact zad _ rfl rfl (zac rfl H2.out)
  ·obtain ⟨⟨(h15:u 15=.tuple #[.int .i64 A,.bool W,.bool false]),t15⟩,_⟩:=hk;simp only [h15];clear h15;go_wp2_with fail;exact zad _ rfl rfl (zac rfl hs)
  ·obtain ⟨⟨(h16:u 16=.tuple #[.int .i64 A,.bool W,.bool false]),t16⟩,_⟩:=hk;simp only [h16];clear h16;go_wp2_with fail;exact zad _ rfl rfl (zac rfl hs)
  ·obtain ⟨⟨(h16:u 16=.tuple #[.int .i64 A,.bool W,.bool false]),t16⟩,_,_⟩:=hk;simp only [h16];clear h16;go_wp2_with fail;exact zad _ rfl rfl (zac rfl hs)
  ·obtain ⟨⟨(h16:u 16=.tuple #[.int .i64 A,.bool W,.bool false]),t16⟩,_,_⟩:=hk;simp only [h16];clear h16;go_wp2_with fail;exact zad _ rfl rfl (zac rfl hs)
  ·obtain ⟨⟨(h17:u 17=.int .i64 A),t17⟩,⟨(h15:u 15=.tuple #[.int .i64 A,.bool W,.bool false]),t15⟩,⟨(h0:u 0=.pointer (some ⟨s,0,none⟩)),t0⟩,⟨(h1:u 1=.pointer (some ⟨s,0,none⟩)),t1⟩,⟨(h2:u 2=.pointer (some ⟨s,10,none⟩)),t2⟩,⟨(h3:u 3=.pointer (some ⟨s,11,none⟩)),t3⟩,⟨(h4:u 4=.int .i64 (I 0)),t4⟩,⟨(h5:u 5=.pointer (some ⟨s,0,none⟩)),t5⟩,⟨(h6:u 6=.pointer (some ⟨s,0,none⟩)),t6⟩,⟨(h7:u 7=.pointer (some ⟨s,0,none⟩)),t7⟩,⟨(h8:u 8=.pointer (some ⟨s,0,none⟩)),t8⟩,⟨(h9:u 9=.pointer (some ⟨s,1,none⟩)),t9⟩,⟨(h10:u 10=.int .i64 (Z 20 1)),t10⟩,⟨(h11:u 11=.pointer (some ⟨s,0,none⟩)),t11⟩,⟨(h12:u 12=.pointer (some ⟨s,0,none⟩)),t12⟩,⟨(h13:u 13=.pointer (some ⟨s,20,none⟩)),t13⟩,⟨(h14:u 14=.int .i64 (I 3)),t14⟩,_,⟨(h16:u 16=.tuple #[.int .i64 A,.bool W,.bool false]),t16⟩,_,_,_,_⟩:=hk;simp only [h17];clear h17 h15 h0 h1 h2 h3 h4 h5 h6 h7 h8 h9 h10 h11 h12 h13 h14 h16;go_wp2_with fail;exact zad _ rfl rfl (zac rfl hs)
  ·obtain ⟨⟨(h18:u 18=.bool W),t18⟩,⟨(h20:u 20=.int .i64 A),t20⟩,⟨(h0:u 0=.pointer (some ⟨s,0,none⟩)),t0⟩,⟨(h1:u 1=.pointer (some ⟨s,0,none⟩)),t1⟩,⟨(h2:u 2=.pointer (some ⟨s,10,none⟩)),t2⟩,⟨(h3:u 3=.pointer (some ⟨s,11,none⟩)),t3⟩,⟨(h4:u 4=.int .i64 (I 0)),t4⟩,⟨(h5:u 5=.pointer (some ⟨s,0,none⟩)),t5⟩,⟨(h6:u 6=.pointer (some ⟨s,0,none⟩)),t6⟩,⟨(h7:u 7=.pointer (some ⟨s,0,none⟩)),t7⟩,⟨(h8:u 8=.pointer (some ⟨s,0,none⟩)),t8⟩,⟨(h9:u 9=.pointer (some ⟨s,1,none⟩)),t9⟩,⟨(h10:u 10=.int .i64 (Z 20 1)),t10⟩,⟨(h11:u 11=.pointer (some ⟨s,0,none⟩)),t11⟩,⟨(h12:u 12=.pointer (some ⟨s,0,none⟩)),t12⟩,⟨(h13:u 13=.pointer (some ⟨s,20,none⟩)),t13⟩,⟨(h14:u 14=.int .i64 (I 3)),t14⟩,⟨(h15:u 15=.tuple #[.int .i64 A,.bool W,.bool false]),t15⟩,⟨(h16:u 16=.tuple #[.int .i64 A,.bool W,.bool false]),t16⟩,⟨(h17:u 17=.int .i64 A),t17⟩,_,_,_,_⟩:=hk;simp only [h18];clear h18 h20 h0 h1 h2 h3 h4 h5 h6 h7 h8 h9 h10 h11 h12 h13 h14 h15 h16 h17;go_wp2_with fail;exact zad _ rfl rfl (zac rfl hs)
  ·obtain ⟨⟨(h19:u 19=.bool false),t19⟩,⟨(h21:u 21=.bool W),t21⟩,⟨(h0:u 0=.pointer (some ⟨s,0,none⟩)),t0⟩,⟨(h1:u 1=.pointer (some ⟨s,0,none⟩)),t1⟩,⟨(h2:u 2=.pointer (some ⟨s,10,none⟩)),t2⟩,⟨(h3:u 3=.pointer (some ⟨s,11,none⟩)),t3⟩,⟨(h4:u 4=.int .i64 (I 0)),t4⟩,⟨(h5:u 5=.pointer (some ⟨s,0,none⟩)),t5⟩,⟨(h6:u 6=.pointer (some ⟨s,0,none⟩)),t6⟩,⟨(h7:u 7=.pointer (some ⟨s,0,none⟩)),t7⟩,⟨(h8:u 8=.pointer (some ⟨s,0,none⟩)),t8⟩,⟨(h9:u 9=.pointer (some ⟨s,1,none⟩)),t9⟩,⟨(h10:u 10=.int .i64 (Z 20 1)),t10⟩,⟨(h11:u 11=.pointer (some ⟨s,0,none⟩)),t11⟩,⟨(h12:u 12=.pointer (some ⟨s,0,none⟩)),t12⟩,⟨(h13:u 13=.pointer (some ⟨s,20,none⟩)),t13⟩,⟨(h14:u 14=.int .i64 (I 3)),t14⟩,⟨(h15:u 15=.tuple #[.int .i64 A,.bool W,.bool false]),t15⟩,⟨(h16:u 16=.tuple #[.int .i64 A,.bool W,.bool false]),t16⟩,⟨(h17:u 17=.int .i64 A),t17⟩,⟨(h18:u 18=.bool W),t18⟩,_,⟨(h20:u 20=.int .i64 A),t20⟩,_,_⟩:=hk;simp only [h19];clear h19 h21 h0 h1 h2 h3 h4 h5 h6 h7 h8 h9 h10 h11 h12 h13 h14 h15 h16 h17 h18 h20;go_wp2_with fail;exact zad _ rfl rfl (zac rfl hs)
 rintro u dn x hall hs hv;obtain ⟨_,_,_,_,_,_,_,_,_,_,_,_,_,_,_,_,_,_,_,_,(h20:u 20=.int .i64 A),(h21:u 21=.bool W),(h22:u 22=.bool false),_⟩:=hv;simp only [h20,h21,h22];clear h20 h21 h22;obtain ⟨h1,o1⟩:QA w s b v c d bs nm I B t Z x:=hs;have H1:=hide h1;have O1:=hide o1;clear h1 o1 hall HE KP;go_wp2_with fail;refine under_name fun w3 hw3=>?_
 have H3:Hid (HasQ w3 s b v c d bs nm I B t Z):=hide (by rw [hw3];exact H1.out);have O3:Hid (OnlyE (EQ s b v) w w3):=hide (by rw [hw3];exact O1.out);clear hw3 H1 O1;refine zaD (zcx [.pointer (some ⟨s,0,none⟩),.pointer (some ⟨s,0,none⟩),.pointer (some ⟨s,0,none⟩),.pointer (some ⟨s,10,none⟩),.pointer (some ⟨s,11,none⟩),.int .i64 (I 0),.pointer (some ⟨s,0,none⟩),.pointer (some ⟨s,0,none⟩),.pointer (some ⟨s,0,none⟩),.pointer (some ⟨s,0,none⟩),.pointer (some ⟨s,1,none⟩),.int .i64 (Z 20 1),.pointer (some ⟨s,0,none⟩),.pointer (some ⟨s,0,none⟩),.pointer (some ⟨s,0,none⟩),.pointer (some ⟨s,0,none⟩),.pointer (some ⟨s,2,none⟩),.int .i64 (Z 20 2),.agg #[.int .i64 (Z 20 1),.int .i64 (Z 20 2)],.pointer (some ⟨s,0,none⟩),.pointer (some ⟨s,0,none⟩),.pointer (some ⟨s,20,none⟩),.int .i64 (I 3),.int .i64 0,.tuple #[.int .i64 V,.bool U],.tuple #[.int .i64 V,.bool U],.int .i64 V,.bool U,.pointer (some ⟨s,0,none⟩),.pointer (some ⟨s,23,none⟩),undef]) (fun dd ww=>(stgs [QA w3 s b v c d bs nm I B t Z,QA w3 s b v c d bs nm (up I 6 V) B t Z]) (cntD [30] dd) ww) _ (fun u=>by simp only [zaA,Act.put,List.setIfInBounds_toArray,List.set_cons_succ,List.set_cons_zero,Nat.reduceAdd];rfl) (by kernel_rfl) (by kernel_rfl) (by kernel_rfl) (fun dn hd=>zbe hd (QA.mk H3.out)) ?_ ?_
 ·repeat' first|refine zaW (fun u dn x hi hc hk hs=>?_) ?_|exact zbb
  ·go_wp2_with fail;exact zad _ rfl rfl (zac rfl hs)
  ·go_wp2_with fail;exact zad _ rfl rfl (zac rfl hs)
  ·obtain ⟨⟨(h1:u 1=.pointer (some ⟨s,0,none⟩)),t1⟩,_⟩:=hk;simp only [h1];clear h1;go_wp2_with fail;exact zad _ rfl rfl (zac rfl hs)
  ·obtain ⟨⟨(h2:u 2=.pointer (some ⟨s,0,none⟩)),t2⟩,_⟩:=hk;simp only [h2];clear h2;go_wp2_with fail;exact zad _ rfl rfl (zac rfl hs)
  ·obtain ⟨⟨(h3:u 3=.pointer (some ⟨s,10,none⟩)),t3⟩,_⟩:=hk;simp only [h3];clear h3;go_wp2_with fail;exact zad _ rfl rfl (zac rfl hs)
  ·obtain ⟨⟨(h4:u 4=.pointer (some ⟨s,11,none⟩)),t4⟩,_⟩:=hk;simp only [h4];clear h4;have d30:=zap hc hi 30 60 (by kernel_rfl);have hn:cntD [30] dn=0:=by simp only [cntD,d30];rfl
   have hs1:=zan hn hs;have q:=(show QA w3 s b v c d bs nm I B t Z x from hs1).1.mode;go_wp2_with fail;exact zad _ rfl rfl (zac rfl hs)
  ·go_wp2_with fail;exact zad _ rfl rfl (zac rfl hs)
  ·obtain ⟨⟨(h6:u 6=.pointer (some ⟨s,0,none⟩)),t6⟩,_⟩:=hk;simp only [h6];clear h6;go_wp2_with fail;exact zad _ rfl rfl (zac rfl hs)
  ·obtain ⟨⟨(h7:u 7=.pointer (some ⟨s,0,none⟩)),t7⟩,_⟩:=hk;simp only [h7];clear h7;go_wp2_with fail;exact zad _ rfl rfl (zac rfl hs)
  ·obtain ⟨⟨(h8:u 8=.pointer (some ⟨s,0,none⟩)),t8⟩,_⟩:=hk;simp only [h8];clear h8;go_wp2_with fail;exact zad _ rfl rfl (zac rfl hs)
  ·obtain ⟨⟨(h9:u 9=.pointer (some ⟨s,0,none⟩)),t9⟩,_⟩:=hk;simp only [h9];clear h9;go_wp2_with fail;exact zad _ rfl rfl (zac rfl hs)
  ·obtain ⟨⟨(h10:u 10=.pointer (some ⟨s,1,none⟩)),t10⟩,_⟩:=hk;simp only [h10];clear h10;have d30:=zap hc hi 30 60 (by kernel_rfl);have hn:cntD [30] dn=0:=by simp only [cntD,d30];rfl
   have hs1:=zan hn hs;have q:=((show QA w3 s b v c d bs nm I B t Z x from hs1).1.reg 1 (by decide)).trans rfl;go_wp2_with fail;exact zad _ rfl rfl (zac rfl hs)
  ·go_wp2_with fail;exact zad _ rfl rfl (zac rfl hs)
  ·obtain ⟨⟨(h12:u 12=.pointer (some ⟨s,0,none⟩)),t12⟩,_⟩:=hk;simp only [h12];clear h12;go_wp2_with fail;exact zad _ rfl rfl (zac rfl hs)
  ·obtain ⟨⟨(h13:u 13=.pointer (some ⟨s,0,none⟩)),t13⟩,_⟩:=hk;simp only [h13];clear h13;go_wp2_with fail;exact zad _ rfl rfl (zac rfl hs)
  ·obtain ⟨⟨(h14:u 14=.pointer (some ⟨s,0,none⟩)),t14⟩,_⟩:=hk;simp only [h14];clear h14;go_wp2_with fail;exact zad _ rfl rfl (zac rfl hs)
  ·obtain ⟨⟨(h15:u 15=.pointer (some ⟨s,0,none⟩)),t15⟩,_⟩:=hk;simp only [h15];clear h15;go_wp2_with fail;exact zad _ rfl rfl (zac rfl hs)
  ·obtain ⟨⟨(h16:u 16=.pointer (some ⟨s,2,none⟩)),t16⟩,_⟩:=hk;simp only [h16];clear h16;have d30:=zap hc hi 30 60 (by kernel_rfl);have hn:cntD [30] dn=0:=by simp only [cntD,d30];rfl
   have hs1:=zan hn hs;have q:=((show QA w3 s b v c d bs nm I B t Z x from hs1).1.reg 2 (by decide)).trans rfl;go_wp2_with fail;exact zad _ rfl rfl (zac rfl hs)
  ·obtain ⟨⟨(h11:u 11=.int .i64 (Z 20 1)),t11⟩,⟨(h17:u 17=.int .i64 (Z 20 2)),t17⟩,_⟩:=hk;simp only [h11,h17];clear h11 h17;go_wp2_with fail;exact zad _ rfl rfl (zac rfl hs)
  ·go_wp2_with fail;exact zad _ rfl rfl (zac rfl hs)
  ·obtain ⟨⟨(h19:u 19=.pointer (some ⟨s,0,none⟩)),t19⟩,_⟩:=hk;simp only [h19];clear h19;go_wp2_with fail;exact zad _ rfl rfl (zac rfl hs)
  ·obtain ⟨⟨(h20:u 20=.pointer (some ⟨s,0,none⟩)),t20⟩,_⟩:=hk;simp only [h20];clear h20;go_wp2_with fail;exact zad _ rfl rfl (zac rfl hs)
  ·obtain ⟨⟨(h21:u 21=.pointer (some ⟨s,20,none⟩)),t21⟩,_⟩:=hk;simp only [h21];clear h21;have d30:=zap hc hi 30 60 (by kernel_rfl);have hn:cntD [30] dn=0:=by simp only [cntD,d30];rfl
   have hs1:=zan hn hs;have q:=(show QA w3 s b v c d bs nm I B t Z x from hs1).1.oper;go_wp2_with fail;exact zad _ rfl rfl (zac rfl hs)
  ·go_wp2_with fail;exact zad _ rfl rfl (zac rfl hs)
  ·obtain ⟨⟨(h5:u 5=.int .i64 (I 0)),t5⟩,⟨(h18:u 18=.agg #[.int .i64 (Z 20 1),.int .i64 (Z 20 2)]),t18⟩,⟨(h22:u 22=.int .i64 (I 3)),t22⟩,⟨(h23:u 23=.int .i64 0),t23⟩,_⟩:=hk;simp only [h5,h18,h22,h23];clear h5 h18 h22 h23;have d30:=zap hc hi 30 60 (by kernel_rfl);have hn:cntD [30] dn=0:=by simp only [cntD,d30];rfl
   have hs1:=zan hn hs;have HS:=hide hs;have HS1:=hide hs1;clear hs hs1;go_wp2_with fail;refine (KA.out _).mono ?_;rintro e x2 ⟨rfl,b2⟩;have H2:=hide (zdj (zyI QA.stab QA.stab) HS.out b2);clear b2 HS HS1;go_wp2_with fail;exact zad _ rfl rfl (zac rfl H2.out)
  ·obtain ⟨⟨(h24:u 24=.tuple #[.int .i64 V,.bool U]),t24⟩,_⟩:=hk;simp only [h24];clear h24;go_wp2_with fail;exact zad _ rfl rfl (zac rfl hs)
  ·obtain ⟨⟨(h25:u 25=.tuple #[.int .i64 V,.bool U]),t25⟩,_⟩:=hk;simp only [h25];clear h25;go_wp2_with fail;exact zad _ rfl rfl (zac rfl hs)
  ·obtain ⟨⟨(h25:u 25=.tuple #[.int .i64 V,.bool U]),t25⟩,_,_⟩:=hk;simp only [h25];clear h25;go_wp2_with fail;exact zad _ rfl rfl (zac rfl hs)
  ·obtain ⟨⟨(h0:u 0=.pointer (some ⟨s,0,none⟩)),t0⟩,_,⟨(h1:u 1=.pointer (some ⟨s,0,none⟩)),t1⟩,⟨(h2:u 2=.pointer (some ⟨s,0,none⟩)),t2⟩,⟨(h3:u 3=.pointer (some ⟨s,10,none⟩)),t3⟩,⟨(h4:u 4=.pointer (some ⟨s,11,none⟩)),t4⟩,⟨(h5:u 5=.int .i64 (I 0)),t5⟩,⟨(h6:u 6=.pointer (some ⟨s,0,none⟩)),t6⟩,⟨(h7:u 7=.pointer (some ⟨s,0,none⟩)),t7⟩,⟨(h8:u 8=.pointer (some ⟨s,0,none⟩)),t8⟩,⟨(h9:u 9=.pointer (some ⟨s,0,none⟩)),t9⟩,⟨(h10:u 10=.pointer (some ⟨s,1,none⟩)),t10⟩,⟨(h11:u 11=.int .i64 (Z 20 1)),t11⟩,⟨(h12:u 12=.pointer (some ⟨s,0,none⟩)),t12⟩,⟨(h13:u 13=.pointer (some ⟨s,0,none⟩)),t13⟩,⟨(h14:u 14=.pointer (some ⟨s,0,none⟩)),t14⟩,⟨(h15:u 15=.pointer (some ⟨s,0,none⟩)),t15⟩,⟨(h16:u 16=.pointer (some ⟨s,2,none⟩)),t16⟩,⟨(h17:u 17=.int .i64 (Z 20 2)),t17⟩,⟨(h18:u 18=.agg #[.int .i64 (Z 20 1),.int .i64 (Z 20 2)]),t18⟩,⟨(h19:u 19=.pointer (some ⟨s,0,none⟩)),t19⟩,⟨(h20:u 20=.pointer (some ⟨s,0,none⟩)),t20⟩,⟨(h21:u 21=.pointer (some ⟨s,20,none⟩)),t21⟩,⟨(h22:u 22=.int .i64 (I 3)),t22⟩,⟨(h23:u 23=.int .i64 0),t23⟩,⟨(h24:u 24=.tuple #[.int .i64 V,.bool U]),t24⟩,⟨(h25:u 25=.tuple #[.int .i64 V,.bool U]),t25⟩,⟨(h26:u 26=.int .i64 V),t26⟩,_,_⟩:=hk;simp only [h0];clear h0 h1 h2 h3 h4 h5 h6 h7 h8 h9 h10 h11 h12 h13 h14 h15 h16 h17 h18 h19 h20 h21 h22 h23 h24 h25 h26;go_wp2_with fail;exact zad _ rfl rfl (zac rfl hs)
  ·obtain ⟨⟨(h28:u 28=.pointer (some ⟨s,0,none⟩)),t28⟩,⟨(h0:u 0=.pointer (some ⟨s,0,none⟩)),t0⟩,⟨(h1:u 1=.pointer (some ⟨s,0,none⟩)),t1⟩,⟨(h2:u 2=.pointer (some ⟨s,0,none⟩)),t2⟩,⟨(h3:u 3=.pointer (some ⟨s,10,none⟩)),t3⟩,⟨(h4:u 4=.pointer (some ⟨s,11,none⟩)),t4⟩,⟨(h5:u 5=.int .i64 (I 0)),t5⟩,⟨(h6:u 6=.pointer (some ⟨s,0,none⟩)),t6⟩,⟨(h7:u 7=.pointer (some ⟨s,0,none⟩)),t7⟩,⟨(h8:u 8=.pointer (some ⟨s,0,none⟩)),t8⟩,⟨(h9:u 9=.pointer (some ⟨s,0,none⟩)),t9⟩,⟨(h10:u 10=.pointer (some ⟨s,1,none⟩)),t10⟩,⟨(h11:u 11=.int .i64 (Z 20 1)),t11⟩,⟨(h12:u 12=.pointer (some ⟨s,0,none⟩)),t12⟩,⟨(h13:u 13=.pointer (some ⟨s,0,none⟩)),t13⟩,⟨(h14:u 14=.pointer (some ⟨s,0,none⟩)),t14⟩,⟨(h15:u 15=.pointer (some ⟨s,0,none⟩)),t15⟩,⟨(h16:u 16=.pointer (some ⟨s,2,none⟩)),t16⟩,⟨(h17:u 17=.int .i64 (Z 20 2)),t17⟩,⟨(h18:u 18=.agg #[.int .i64 (Z 20 1),.int .i64 (Z 20 2)]),t18⟩,⟨(h19:u 19=.pointer (some ⟨s,0,none⟩)),t19⟩,⟨(h20:u 20=.pointer (some ⟨s,0,none⟩)),t20⟩,⟨(h21:u 21=.pointer (some ⟨s,20,none⟩)),t21⟩,⟨(h22:u 22=.int .i64 (I 3)),t22⟩,⟨(h23:u 23=.int .i64 0),t23⟩,⟨(h24:u 24=.tuple #[.int .i64 V,.bool U]),t24⟩,⟨(h25:u 25=.tuple #[.int .i64 V,.bool U]),t25⟩,⟨(h26:u 26=.int .i64 V),t26⟩,_,_⟩:=hk;simp only [h28];clear h28 h0 h1 h2 h3 h4 h5 h6 h7 h8 h9 h10 h11 h12 h13 h14 h15 h16 h17 h18 h19 h20 h21 h22 h23 h24 h25 h26;go_wp2_with fail;exact zad _ rfl rfl (zac rfl hs)
  ·obtain ⟨⟨(h29:u 29=.pointer (some ⟨s,23,none⟩)),t29⟩,⟨(h26:u 26=.int .i64 V),t26⟩,⟨(h24:u 24=.tuple #[.int .i64 V,.bool U]),t24⟩,⟨(h0:u 0=.pointer (some ⟨s,0,none⟩)),t0⟩,⟨(h1:u 1=.pointer (some ⟨s,0,none⟩)),t1⟩,⟨(h2:u 2=.pointer (some ⟨s,0,none⟩)),t2⟩,⟨(h3:u 3=.pointer (some ⟨s,10,none⟩)),t3⟩,⟨(h4:u 4=.pointer (some ⟨s,11,none⟩)),t4⟩,⟨(h5:u 5=.int .i64 (I 0)),t5⟩,⟨(h6:u 6=.pointer (some ⟨s,0,none⟩)),t6⟩,⟨(h7:u 7=.pointer (some ⟨s,0,none⟩)),t7⟩,⟨(h8:u 8=.pointer (some ⟨s,0,none⟩)),t8⟩,⟨(h9:u 9=.pointer (some ⟨s,0,none⟩)),t9⟩,⟨(h10:u 10=.pointer (some ⟨s,1,none⟩)),t10⟩,⟨(h11:u 11=.int .i64 (Z 20 1)),t11⟩,⟨(h12:u 12=.pointer (some ⟨s,0,none⟩)),t12⟩,⟨(h13:u 13=.pointer (some ⟨s,0,none⟩)),t13⟩,⟨(h14:u 14=.pointer (some ⟨s,0,none⟩)),t14⟩,⟨(h15:u 15=.pointer (some ⟨s,0,none⟩)),t15⟩,⟨(h16:u 16=.pointer (some ⟨s,2,none⟩)),t16⟩,⟨(h17:u 17=.int .i64 (Z 20 2)),t17⟩,⟨(h18:u 18=.agg #[.int .i64 (Z 20 1),.int .i64 (Z 20 2)]),t18⟩,⟨(h19:u 19=.pointer (some ⟨s,0,none⟩)),t19⟩,⟨(h20:u 20=.pointer (some ⟨s,0,none⟩)),t20⟩,⟨(h21:u 21=.pointer (some ⟨s,20,none⟩)),t21⟩,⟨(h22:u 22=.int .i64 (I 3)),t22⟩,⟨(h23:u 23=.int .i64 0),t23⟩,_,⟨(h25:u 25=.tuple #[.int .i64 V,.bool U]),t25⟩,_,_,_⟩:=hk;simp only [h29,h26];clear h29 h26 h24 h0 h1 h2 h3 h4 h5 h6 h7 h8 h9 h10 h11 h12 h13 h14 h15 h16 h17 h18 h19 h20 h21 h22 h23 h25;have d30:=hi;have hn:cntD [30] dn=0:=by simp only [cntD,d30];rfl
   have hs1:=zan hn hs;have hn2:cntD [30] (updD dn 30)=1:=by show (if updD dn 30 30=true then 1 else 0)+0=1;rw [zaI];rfl
   have HN2:=hide hn2;clear hn hn2;have q:=(fun h:QA w3 s b v c d bs nm I B t Z x=>h.1.plac) hs1;have z:=(fun h:QA w3 s b v c d bs nm I B t Z x=>h.1.frz 23) hs1;have H2:=hide ((fun h:QA w3 s b v c d bs nm I B t Z x=>show QA w3 s b v c d bs nm (up I 6 V) B t Z _ from ⟨h.1.putI 3 (by decide) V (a:=23) rfl,zcP h.2 23 _⟩) hs1);clear hs hs1;go_wp2_with fail;exact zad _ rfl rfl (zbu HN2.out H2.out)
 rintro u dn x hall hs hv;clear hv;have hn:cntD [30] dn=1:=by show (if dn 30=true then 1 else 0)+0=1;rw [hall 30 (by decide)];rfl
 have hs:=zan hn hs;clear hn hall;obtain ⟨h4,o4⟩:QA w3 s b v c d bs nm (up I 6 V) B t Z x:=hs;have H4:=hide h4;have O4:=hide (O3.out.trans o4);clear h4 o4 hs;go_wp2;go_end0;rw [HV.out];exact ⟨rfl,H4.out,O4.out⟩
end Go.Proofs.YtdiidjehdginnaaGreatDoor.L25
