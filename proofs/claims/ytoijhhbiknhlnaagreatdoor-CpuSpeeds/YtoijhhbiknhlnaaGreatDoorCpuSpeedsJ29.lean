/- Texts put together. -/
import Derived.Test.YtoijhhbiknhlnaaGreatDoorRows
import Derived.Test.YtoijhhbiknhlnaaGreatDoorCpuSpeedsJ01
import Derived.Test.YtoijhhbiknhlnaaGreatDoorCpuSpeedsJ26
import Derived.Laws.Tables
import Derived.Laws.Rows
import Derived.Laws.ResultCell
import Derived.Laws.CopyOwn
import Derived.Great.FillDense
import Derived.WalkKit
import Derived.Below
import Derived.OneCell
import Derived.Maps.Own
import Derived.Maps.OwnOps
import Derived.Test.YtoijhhbiknhlnaaGreatDoorCpuSpeedsJ02
import Derived.Deep.RegionWith
import Derived.WalkMore
import Derived.Handy
namespace Go.Proofs.YtoijhhbiknhlnaaGreatDoor.O7
set_option maxRecDepth 20000
open Go.RowKit
set_option linter.unusedVariables false
def rowV (r:List UInt8×Int×Int):Value:=.agg #[.string ⟨⟨r.1⟩⟩,.int .i64 r.2.1,.int .i64 r.2.2]
def zkM (k:Nat) (r:List UInt8×Int×Int):Oper:=
 { dst:=some k,op:=.build 152 #[(0,.const (.string ⟨⟨r.1⟩⟩)),(1,.const (.int .i64 r.2.1)),(2,.const (.int .i64 r.2.2))],type:=152,pos:= "opcode.go:81",after:=#[],guard:=none }
def zlP:Nat→List (List UInt8×Int×Int)→List Oper
 |_,[]=>[]
 |k,r::l=>zkM k r::zlP (k+1) l
def zdp:Nat→List (List UInt8×Int×Int)→Act→Act
 |_,[],a=>a
 |k,r::l,a=>zdp (k+1) l (a.put (some k) (rowV r))
theorem zdw {P:Program} {ops:Array Oper} {rest:List Oper} {o:Oper} {a:Act} {w:World} {Q:Exit→Act→World→Prop} (hg:o.guard=none) (v:Value)
  (h:(execOp a.eval o).run P w=.ok (.value v) w) (hK:wpList P ops Q rest (a.put o.dst v) w):wpList P ops Q (o::rest) a w:=
 wpList_plain hg fun K hK'=>by
  unfold Oper.wp;rw [h];exact hK' _ _ hK
theorem zvz (e:Operand→Value) (he:∀v,e (.const v)=v) (k:Nat) (r:List UInt8×Int×Int) (w:World):(execOp e (zkM k r)).run Tryz.prog w=.ok (.value (rowV r)) w:=by
 simp [execOp,zkM,he];rw [run_build w 152 _ #[.string ⟨⟨r.1⟩⟩,.int .i64 r.2.1,.int .i64 r.2.2] (by kernel_rfl)];rfl
theorem zpY {ops:Array Oper} {rest:List Oper} {w:World} {Q:Exit→Act→World→Prop}:∀(l:List (List UInt8×Int×Int)) (k:Nat) (a:Act),
  wpList Tryz.prog ops Q rest (zdp k l a) w→wpList Tryz.prog ops Q (zlP k l++rest) a w
 |[],_,_,h=>h
 |r::l,k,a,h=>zdw rfl (rowV r) (zvz a.eval (fun _=>rfl) k r w) (zpY l (k+1) _ h)
theorem zeP:∀(l:List (List UInt8×Int×Int)) (k:Nat) (a:Act),(zdp k l a).defers=a.defers
 |[],_,_=>rfl
 |r::l,k,a=>zeP l (k+1) _
theorem zgf:∀(l:List (List UInt8×Int×Int)) (k:Nat) (a:Act),(zdp k l a).tmps.size=a.tmps.size
 |[],_,_=>rfl
 |r::l,k,a=>by
  rw [zdp,zgf l (k+1)];simp [Act.put]
theorem zdV:∀(l:List (List UInt8×Int×Int)) (k:Nat) (a:Act) (j:Nat),j<k→(zdp k l a).tmps[j]? = a.tmps[j]?
 |[],_,_,_,_=>rfl
 |r::l,k,a,j,h=>by
  rw [zdp,zdV l (k+1) _ j (by omega)];simp only [Act.put];rw [Array.getElem?_setIfInBounds_ne (by omega)]
theorem zhX:∀(l:List (List UInt8×Int×Int)) (k:Nat) (a:Act) (j:Nat) (hj:j<l.length),k+j<a.tmps.size→(zdp k l a).tmps[k+j]? = some (rowV l[j])
 |[],_,_,j,hj,_=>by simp at hj
 |r::l,k,a,0,hj,hs=>by
  rw [zdp,zdV l (k+1) _ (k+0) (by omega)];simp only [Act.put,Nat.add_zero];rw [Array.getElem?_setIfInBounds_self_of_lt (by omega)];rfl
 |r::l,k,a,j+1,hj,hs=>by
  have e:k+(j+1)=k+1+j:=by omega
  rw [zdp,e,zhX l (k+1) _ j (by simpa using hj) (by simp [Act.put];omega)];rfl
def zfA (c:Option Code):List Oper:=match c with
 |some (.seq _ (.seq (.region _ o _) _))=>o.toList
 |_=>[]
theorem zza:∃o1 o2 o3 o4:Oper,Tryz.f87.body=some (.seq (.region 0 #[{ dst:=some 2,op:=.alloc 152,type:=0,pos:= "opcode.go:80",after:=#[],guard:=none }] false) (.seq (.region 1 (zlP 3 tbl++[o1,o2,o3,o4]).toArray false) .ret)) ∧
   (o1.guard=none∧o1.dst=some 259∧o1.op=.build 193 ((List.range 256).map fun i=>(i,Operand.tmp (3+i))).toArray)∧(o2.guard=none∧o2.dst=some 260∧o2.op=.move (.tmp 0)) ∧
   (o3.guard=none∧o3.dst=some 261∧o3.op=.index 193 (.tmp 259) (.tmp 260))∧(o4.guard=none∧o4.dst=none∧o4.op=.store 152 (.tmp 2) (.tmp 261)):=
 ⟨(zfA Tryz.f87.body).getD 256 (zkM 0 ([],0,0)),(zfA Tryz.f87.body).getD 257 (zkM 0 ([],0,0)),(zfA Tryz.f87.body).getD 258 (zkM 0 ([],0,0)),(zfA Tryz.f87.body).getD 259 (zkM 0 ([],0,0)),
   by kernel_rfl,⟨by kernel_rfl,by kernel_rfl,by kernel_rfl⟩,⟨by kernel_rfl,by kernel_rfl,by kernel_rfl⟩,⟨by kernel_rfl,by kernel_rfl,by kernel_rfl⟩,⟨by kernel_rfl,by kernel_rfl,by kernel_rfl⟩⟩
theorem zkN {P:Program} {ops:Array Oper} {rest:List Oper} {o:Oper} {a:Act} {w w':World} {Q:Exit→Act→World→Prop} (hg:o.guard=none) (v:Value)
  (h:(execOp a.eval o).run P w=.ok (.value v) w') (hK:wpList P ops Q rest (a.put o.dst v) w'):wpList P ops Q (o::rest) a w:=
 wpList_plain hg fun K hK'=>by
  unfold Oper.wp;rw [h];exact hK' _ _ hK
theorem zvA:∃z:Array Value,z.size=768∧∀l:List (Nat×Value),Tryz.prog.built 193 l=Instr.fill (fun i=>some (i*3,3)) z l:=
 ⟨(((Tryz.prog.info? 193).bind (·.zero)).map (·.cells)).getD #[],by kernel_rfl,fun l=>by kernel_rfl⟩
theorem zlQ:∀(l:List (List UInt8×Int×Int)) (j:Nat) (hj:j<l.length),(((l.map rowV).flatMap fun v=>v.cells.toList).drop (3*j)).take 3=(rowV l[j]).cells.toList
 |[],j,hj=>by simp at hj
 |r::l,0,_=>rfl
 |r::l,j+1,hj=>by
  have e:3*(j+1)=3*j+1+1+1:=by omega
  rw [e];show (List.drop (3*j) ((l.map rowV).flatMap fun v=>v.cells.toList)).take 3=_;exact zlQ l j (by simpa using hj)
theorem zkO (T:List (List UInt8×Int×Int)) (b:Nat) (hl:b<T.length) (hb:b<256) (w:World):(Instr.index 193 (.agg ((T.map rowV).flatMap fun v=>v.cells.toList).toArray) (.int .i64 (b:Int))).run Tryz.prog w=.ok (rowV T[b]) w:=by
 have h0:(0:Int)≤b∧(b:Int)<((256:Nat):Int):=by omega
 have hs:(sizeOf 152).run Tryz.prog w=.ok 3 w:=by kernel_rfl
 have hg:(isAgg 152).run Tryz.prog w=.ok true w:=by kernel_rfl
 have hr:=zlQ T b hl;generalize ((T.map rowV).flatMap fun v=>v.cells.toList)=cs at hr ⊢;have e2:List.take 3 (List.drop (b*3) cs)=(rowV T[b]).cells.toList:=by rw [Nat.mul_comm];exact hr
 have h1:(b:Int)<256:=by omega
 simp only [Instr.index,asIntOf,part];simp only [run_underlying Tryz.underlying193,Sem.run_bind,Result.andThen];simp [h0,hs,hg,Result.andThen];rw [if_pos h1,e2];rfl
theorem zsF (T:List (List UInt8×Int×Int)) (hT:T.length=256) (o1 o2 o3 o4:Oper)
  (hbody:Tryz.f87.body=some (.seq (.region 0 #[{ dst:=some 2,op:=.alloc 152,type:=0,pos:= "opcode.go:80",after:=#[],guard:=none }] false) (.seq (.region 1 (zlP 3 T++[o1,o2,o3,o4]).toArray false) .ret)))
  (g1:o1.guard=none) (d1:o1.dst=some 259) (p1:o1.op=.build 193 ((List.range 256).map fun i=>(i,Operand.tmp (3+i))).toArray)
  (g2:o2.guard=none) (d2:o2.dst=some 260) (p2:o2.op=.move (.tmp 0)) (g3:o3.guard=none) (d3:o3.dst=some 261) (p3:o3.op=.index 193 (.tmp 259) (.tmp 260))
  (g4:o4.guard=none) (d4:o4.dst=none) (p4:o4.op=.store 152 (.tmp 2) (.tmp 261)) (b:Nat) (hb:b<256) (w:World):
  Calls Tryz.prog 87 #[.int .i64 (b:Int)] w fun e w'=>e=.returned (rowV (T[b]'(by omega)))∧Below w.heap.size w w':=by
 refine calls_of_wp Tryz.func87 hbody ?_;rw [Tryz.ntmps87];refine wp_seq (wp_region_lit ?_);refine zkN rfl (.pointer (some ⟨w.heap.size,0,none⟩)) (w':=w.alloc (.cells #[.string ⟨#[]⟩,.int .i64 0,.int .i64 0] 152)) (by kernel_rfl) ?_;refine wpList_nil ?_;refine wp_seq (wp_region_lit ?_);refine zpY T 3 _ ?_;generalize ha:zdp 3 T _=a;have hz:∀(i:Nat) (hi:i<T.length),a.eval (.tmp (3+i))=rowV T[i]:=by
  intro i hi;rw [←ha];show (Array.getD _ (3+i) undef)=_;rw [Array.getD_eq_getD_getElem?,zhX T 3 _ i hi (by simp [Act.put];omega)];rfl
 have h0:a.eval (.tmp 0)=.int .i64 (b:Int):=by
  rw [←ha];show (Array.getD _ 0 undef)=_;rw [Array.getD_eq_getD_getElem?,zdV T 3 _ 0 (by omega)];simp [Act.put]
 have h2:a.eval (.tmp 2)=.pointer (some ⟨w.heap.size,0,none⟩):=by
  rw [←ha];show (Array.getD _ 2 undef)=_;rw [Array.getD_eq_getD_getElem?,zdV T 3 _ 2 (by omega)];simp [Act.put]
 have hs:a.tmps.size=262:=by
  rw [←ha,zgf];simp [Act.put]
 have hd:a.defers=[]:=by
  rw [←ha,zeP];rfl
 clear ha;refine zdw g1 (.agg ((T.map rowV).flatMap fun v=>v.cells.toList).toArray) ?_ ?_
 ·obtain ⟨z,z1,z2⟩:=zvA;have hp:(((List.range 256).map fun i=>(i,Operand.tmp (3+i))).toArray.map fun x=>(x.1,a.eval x.2)).toList=((T.map rowV).zipIdx 0).map fun x=>(x.2,x.1):=by
   apply List.ext_getElem
   ·simp [hT]
   ·intro n h1 h2;have hn:n<T.length:=by simp [hT] at h2;omega
    simp [hz n hn]
  have hv:=run_build (P:=Tryz.prog) (w.alloc (.cells #[.string ⟨#[]⟩,.int .i64 0,.int .i64 0] 152)) 193 (((List.range 256).map fun i=>(i,Operand.tmp (3+i))).toArray.map fun x=>(x.1,a.eval x.2)) ((T.map rowV).flatMap fun v=>v.cells.toList).toArray
   (by rw [hp,z2];exact Great.fill_whole (by omega) _ _ (by intro v hv;obtain ⟨r,_,rfl⟩:=List.mem_map.1 hv;rfl) (by rw [z1,List.length_map,hT]))
  have he:∀w:World,(execOp a.eval o1).run Tryz.prog w=((Instr.build 193 (((List.range 256).map fun i=>(i,Operand.tmp (3+i))).toArray.map fun x=>(x.1,a.eval x.2))).run Tryz.prog w).andThen fun a w'=>.ok (.value a) w':=by
   intro w;simp only [execOp,p1,Sem.run_bind,Sem.run_pure]
  rw [he,hv];rfl
 rw [d1];have a0:(a.put (some 259) (.agg ((T.map rowV).flatMap fun v=>v.cells.toList).toArray)).eval (.tmp 0)=.int .i64 (b:Int):=by
  rw [←h0];show Array.getD (Array.setIfInBounds a.tmps 259 _) 0 undef=Array.getD a.tmps 0 undef;simp [Array.getD_eq_getD_getElem?]
 have a2:(a.put (some 259) (.agg ((T.map rowV).flatMap fun v=>v.cells.toList).toArray)).eval (.tmp 2)=.pointer (some ⟨w.heap.size,0,none⟩):=by
  rw [←h2];show Array.getD (Array.setIfInBounds a.tmps 259 _) 2 undef=Array.getD a.tmps 2 undef;simp [Array.getD_eq_getD_getElem?]
 have a9:(a.put (some 259) (.agg ((T.map rowV).flatMap fun v=>v.cells.toList).toArray)).eval (.tmp 259)=.agg ((T.map rowV).flatMap fun v=>v.cells.toList).toArray:=by
  show Array.getD (Array.setIfInBounds a.tmps 259 _) 259 undef=_;simp [Array.getD_eq_getD_getElem?,hs]
 have asz:(a.put (some 259) (.agg ((T.map rowV).flatMap fun v=>v.cells.toList).toArray)).tmps.size=262:=by simp [Act.put,hs]
 have ad:(a.put (some 259) (.agg ((T.map rowV).flatMap fun v=>v.cells.toList).toArray)).defers=[]:=hd;generalize (a.put (some 259) (.agg ((T.map rowV).flatMap fun v=>v.cells.toList).toArray))=a' at a0 a2 a9 asz ad ⊢;clear hz h0 h2 hs hd a;refine zdw g2 (.int .i64 (b:Int)) (by simp only [execOp,p2,a0];rfl) ?_;rw [d2];have b2:(a'.put (some 260) (.int .i64 (b:Int))).eval (.tmp 2)=.pointer (some ⟨w.heap.size,0,none⟩):=by
  rw [←a2];show Array.getD (Array.setIfInBounds a'.tmps 260 _) 2 undef=Array.getD a'.tmps 2 undef;simp [Array.getD_eq_getD_getElem?]
 have b9:(a'.put (some 260) (.int .i64 (b:Int))).eval (.tmp 259)=.agg ((T.map rowV).flatMap fun v=>v.cells.toList).toArray:=by
  rw [←a9];show Array.getD (Array.setIfInBounds a'.tmps 260 _) 259 undef=Array.getD a'.tmps 259 undef;simp [Array.getD_eq_getD_getElem?]
 have b0:(a'.put (some 260) (.int .i64 (b:Int))).eval (.tmp 260)=.int .i64 (b:Int):=by
  show Array.getD (Array.setIfInBounds a'.tmps 260 _) 260 undef=_;simp [Array.getD_eq_getD_getElem?,asz]
 have bs:(a'.put (some 260) (.int .i64 (b:Int))).tmps.size=262:=by simp [Act.put,asz]
 have bd:(a'.put (some 260) (.int .i64 (b:Int))).defers=[]:=ad;generalize (a'.put (some 260) (.int .i64 (b:Int)))=a at b0 b2 b9 bs bd ⊢;clear a0 a2 a9 asz ad a';refine zdw g3 (rowV (T[b]'(by omega))) ?_ ?_
 ·have he:∀w:World,(execOp a.eval o3).run Tryz.prog w=((Instr.index 193 (a.eval (.tmp 259)) (a.eval (.tmp 260))).run Tryz.prog w).andThen fun a w'=>.ok (.value a) w':=by
   intro w;simp only [execOp,p3,Sem.run_bind,Sem.run_pure]
  rw [he,b9,b0,zkO T b (by omega) hb];rfl
 rw [d3];have c2:(a.put (some 261) (rowV (T[b]'(by omega)))).eval (.tmp 2)=.pointer (some ⟨w.heap.size,0,none⟩):=by
  rw [←b2];show Array.getD (Array.setIfInBounds a.tmps 261 _) 2 undef=Array.getD a.tmps 2 undef;simp [Array.getD_eq_getD_getElem?]
 have c1:(a.put (some 261) (rowV (T[b]'(by omega)))).eval (.tmp 261)=rowV (T[b]'(by omega)):=by
  show Array.getD (Array.setIfInBounds a.tmps 261 _) 261 undef=_;simp [Array.getD_eq_getD_getElem?,bs]
 have cd:(a.put (some 261) (rowV (T[b]'(by omega)))).defers=[]:=bd;generalize (a.put (some 261) (rowV (T[b]'(by omega))))=a' at c1 c2 cd ⊢;have hR:=heap_alloc_new w (.cells #[.string ⟨#[]⟩,.int .i64 0,.int .i64 0] 152);refine wpList_store_row g4 152 (.tmp 2) (.tmp 261) p4 w.heap.size _ c2 c1 152 _ hR (by kernel_rfl) rfl (by kernel_rfl) ?_;refine wpList_nil ?_;rw [d4];refine wp_ret ?_;refine bodyPost_ret (results_cell_row rfl _ _ w.heap.size 152 _ (0,0) _ c2 (setRow_heap _ _ _ _ _ _ hR) Tryz.underlying152 rfl (by kernel_rfl)) cd ?_;exact ⟨rfl,below_setRow ((Below.refl _ w).alloc (Nat.le_refl _) _) (Nat.le_refl _) _⟩
theorem zvB (b:Nat) (hb:b<256) (w:World):Calls Tryz.prog 87 #[.int .i64 (b:Int)] w fun e w'=>e=.returned (rowV (zns b))∧Below w.heap.size w w':=by
 obtain ⟨o1,o2,o3,o4,hbody,⟨g1,d1,p1⟩,⟨g2,d2,p2⟩,⟨g3,d3,p3⟩,⟨g4,d4,p4⟩⟩:=zza;have hl:b<tbl.length:=by rw [zhU];exact hb
 have ht:zns b=tbl[b]:=by unfold zns;rw [List.getD_eq_getElem?_getD,List.getElem?_eq_getElem hl];rfl
 rw [ht];exact zsF tbl zhU o1 o2 o3 o4 hbody g1 d1 p1 g2 d2 p2 g3 d3 p3 g4 d4 p4 b hb w
open Go.RowKit Go.Maps
theorem keyI:Keyed Tryz.prog 3:=int_keyed Tryz.underlying3
theorem zvC (w:World):(zeroValue 3).run Tryz.prog w=.ok (.int .i64 0) w:=by kernel_rfl
theorem zci {w0 w:World} {b n:Nat} {D:DataW Unit} (h:w.ownsMap Tryz.prog 3 (plainElem Tryz.prog 3) b n D) (hw:Below b w0 w) (hn:n<100) (k v:Int) (hk:(Lit.int .i64 k).wf=true) (hv:(Lit.int .i64 v).wf=true):
  ∃w',(∀t,t=194→(Instr.mapUpdate t (.map (some b)) (.int .i64 k) (.int .i64 v)).run Tryz.prog w=.ok () w')∧w'.ownsMap Tryz.prog 3 (plainElem Tryz.prog 3) b (n+1) (D.put (.int .i64 k) (.lit (.int .i64 v)))∧Below b w0 w':=by
 obtain ⟨w',hrun,r1,r2⟩:=h.update keyI Tryz.underlying194 (by unfold maxLen;omega) (keyOf_int_mk Tryz.underlying3 hk) (plainElem_int Tryz.underlying3 hv);exact ⟨w',fun t e=>by rw [e];exact hrun,r1,hw.grown r2 (Nat.le_of_lt h.lt) (fun j hj=>by cases hj;exact Nat.le_refl _)⟩
theorem len_a (m:Int) (w:World) (h0:0≤m) (h1:m<8):Calls Tryz.prog 88 #[.int .i64 m] w fun e w'=>e=.returned (.int .i64 (lenM m))∧Below w.heap.size w w':=by
 have hwf:(Lit.int .i64 m).wf=true:=WalkArith.wf_i64 (by omega);have hmm:=@run_makeMap Tryz.prog;have o0:=World.ownsMap_made w Tryz.prog 3 (plainElem (H:=Unit) Tryz.prog 3);have b0:=(Below.refl w.heap.size w).alloc (Nat.le_refl _) (.map #[] 0);obtain ⟨w1,r1,o1,b1⟩:=zci o0 b0 (by omega) 0 1 (by decide) (by decide);replace r1:=r1 194 rfl;obtain ⟨w2,r2,o2,b2⟩:=zci o1 b1 (by omega) 1 1 (by decide) (by decide);replace r2:=r2 194 rfl;obtain ⟨w3,r3,o3,b3⟩:=zci o2 b2 (by omega) 2 2 (by decide) (by decide);replace r3:=r3 194 rfl;obtain ⟨w4,r4,o4,b4⟩:=zci o3 b3 (by omega) 3 2 (by decide) (by decide);replace r4:=r4 194 rfl;obtain ⟨w5,r5,o5,b5⟩:=zci o4 b4 (by omega) 4 2 (by decide) (by decide);replace r5:=r5 194 rfl;obtain ⟨w6,r6,o6,b6⟩:=zci o5 b5 (by omega) 5 2 (by decide) (by decide);replace r6:=r6 194 rfl;obtain ⟨w7,r7,o7,b7⟩:=zci o6 b6 (by omega) 6 2 (by decide) (by decide);replace r7:=r7 194 rfl;obtain ⟨w8,r8,o8,b8⟩:=zci o7 b7 (by omega) 7 2 (by decide) (by decide);replace r8:=r8 194 rfl;obtain ⟨c,hrun,hat,hwc⟩:=o8.lookup_int keyI Tryz.underlying194 Tryz.underlying3 (zvC _) (keyOf_int_mk Tryz.underlying3 hwf);have HA:=hide hat;have BB:=hide b8;clear hat hwc;clear o0 o1 o2 o3 o4 o5 o6 o7 o8 b0 b1 b2 b3 b4 b5 b6 b7 b8;go_enter Tryz.func88,Tryz.ntmps88;go_wp2;go_ret;refine ⟨zay ?_,BB.out⟩;have hat:=HA.out;have hm:m=0∨m=1∨m=2∨m=3∨m=4∨m=5∨m=6∨m=7:=by omega
 rcases hm with rfl|rfl|rfl|rfl|rfl|rfl|rfl|rfl
 all_goals
  simp [DataW.put,DataW.insert,DataW.atKey,Lit.sameKey,Lit.before] at hat;rw [←hat];rfl
theorem len_b (m:Int) (w:World) (h0:8≤m) (h1:m<16):Calls Tryz.prog 88 #[.int .i64 m] w fun e w'=>e=.returned (.int .i64 (lenM m))∧Below w.heap.size w w':=by
 have hwf:(Lit.int .i64 m).wf=true:=WalkArith.wf_i64 (by omega);have hd:m/8=1:=by omega
 have hmm:=@run_makeMap Tryz.prog;have o0:=World.ownsMap_made w Tryz.prog 3 (plainElem (H:=Unit) Tryz.prog 3);have b0:=(Below.refl w.heap.size w).alloc (Nat.le_refl _) (.map #[] 0);obtain ⟨w1,r1,o1,b1⟩:=zci o0 b0 (by omega) 8 2 (by decide) (by decide);replace r1:=r1 194 rfl;obtain ⟨w2,r2,o2,b2⟩:=zci o1 b1 (by omega) 9 3 (by decide) (by decide);replace r2:=r2 194 rfl;obtain ⟨w3,r3,o3,b3⟩:=zci o2 b2 (by omega) 10 3 (by decide) (by decide);replace r3:=r3 194 rfl;obtain ⟨w4,r4,o4,b4⟩:=zci o3 b3 (by omega) 11 3 (by decide) (by decide);replace r4:=r4 194 rfl;obtain ⟨w5,r5,o5,b5⟩:=zci o4 b4 (by omega) 12 3 (by decide) (by decide);replace r5:=r5 194 rfl;obtain ⟨w6,r6,o6,b6⟩:=zci o5 b5 (by omega) 13 3 (by decide) (by decide);replace r6:=r6 194 rfl;obtain ⟨w7,r7,o7,b7⟩:=zci o6 b6 (by omega) 14 2 (by decide) (by decide);replace r7:=r7 194 rfl;obtain ⟨w8,r8,o8,b8⟩:=zci o7 b7 (by omega) 15 3 (by decide) (by decide);replace r8:=r8 194 rfl;obtain ⟨c,hrun,hat,hwc⟩:=o8.lookup_int keyI Tryz.underlying194 Tryz.underlying3 (zvC _) (keyOf_int_mk Tryz.underlying3 hwf);have HA:=hide hat;have BB:=hide b8;clear hat hwc;clear o0 o1 o2 o3 o4 o5 o6 o7 o8 b0 b1 b2 b3 b4 b5 b6 b7 b8;go_enter Tryz.func88,Tryz.ntmps88;go_wp2;go_ret;refine ⟨zay ?_,BB.out⟩;have hat:=HA.out;have hm:m=8∨m=9∨m=10∨m=11∨m=12∨m=13∨m=14∨m=15:=by omega
 clear hd;rcases hm with rfl|rfl|rfl|rfl|rfl|rfl|rfl|rfl
 all_goals
  simp [DataW.put,DataW.insert,DataW.atKey,Lit.sameKey,Lit.before] at hat;rw [←hat];rfl
theorem len_c (m:Int) (w:World) (h0:16≤m) (h1:m<21):Calls Tryz.prog 88 #[.int .i64 m] w fun e w'=>e=.returned (.int .i64 (lenM m))∧Below w.heap.size w w':=by
 have hwf:(Lit.int .i64 m).wf=true:=WalkArith.wf_i64 (by omega);have hd:m/8=2:=by omega
 have hmm:=@run_makeMap Tryz.prog;have o0:=World.ownsMap_made w Tryz.prog 3 (plainElem (H:=Unit) Tryz.prog 3);have b0:=(Below.refl w.heap.size w).alloc (Nat.le_refl _) (.map #[] 0);obtain ⟨w1,r1,o1,b1⟩:=zci o0 b0 (by omega) 16 7 (by decide) (by decide);replace r1:=r1 194 rfl;obtain ⟨w2,r2,o2,b2⟩:=zci o1 b1 (by omega) 17 3 (by decide) (by decide);replace r2:=r2 194 rfl;obtain ⟨w3,r3,o3,b3⟩:=zci o2 b2 (by omega) 18 3 (by decide) (by decide);replace r3:=r3 194 rfl;obtain ⟨w4,r4,o4,b4⟩:=zci o3 b3 (by omega) 19 4 (by decide) (by decide);replace r4:=r4 194 rfl;obtain ⟨w5,r5,o5,b5⟩:=zci o4 b4 (by omega) 20 4 (by decide) (by decide);replace r5:=r5 194 rfl;obtain ⟨c,hrun,hat,hwc⟩:=o5.lookup_int keyI Tryz.underlying194 Tryz.underlying3 (zvC _) (keyOf_int_mk Tryz.underlying3 hwf);have HA:=hide hat;have BB:=hide b5;clear hat hwc;clear o0 o1 o2 o3 o4 o5 b0 b1 b2 b3 b4 b5;go_enter Tryz.func88,Tryz.ntmps88;go_wp2;go_ret;refine ⟨zay ?_,BB.out⟩;have hat:=HA.out;have hm:m=16∨m=17∨m=18∨m=19∨m=20:=by omega
 clear hd;rcases hm with rfl|rfl|rfl|rfl|rfl
 all_goals
  simp [DataW.put,DataW.insert,DataW.atKey,Lit.sameKey,Lit.before] at hat;rw [←hat];rfl
theorem zvD (m:Int) (w:World) (h0:0≤m) (h1:m≤20):Calls Tryz.prog 88 #[.int .i64 m] w fun e w'=>e=.returned (.int .i64 (lenM m))∧Below w.heap.size w w':=by
 by_cases k:m<8
 ·exact len_a m w h0 k
 ·by_cases k1:m<16
  ·exact len_b m w (by omega) k1
  ·exact len_c m w (by omega) (by omega)
def infoC (b:Nat):Array Value:=#[.string (zcW b),.int .i64 (zbH b),.int .i64 (zce b),.int .i64 (zdZ b)]
theorem zvE (n:Int) (b:Nat) (s:ByteArray) (m l c:Int) (w:World)
  (cb:∀w,Calls Tryz.prog 32 #[.int .i64 n] w fun e w'=>e=.returned (.int .i64 (b:Int))∧w'=w)
  (cr:∀w,Calls Tryz.prog 87 #[.int .i64 (b:Int)] w fun e w'=>e=.returned (.agg #[.string s,.int .i64 m,.int .i64 c])∧Below w.heap.size w w')
  (cl:∀w,Calls Tryz.prog 88 #[.int .i64 m] w fun e w'=>e=.returned (.int .i64 l)∧Below w.heap.size w w'):
  Calls Tryz.prog 37 #[.int .i64 n] w fun e w'=>e=.returned (.agg #[.string s,.int .i64 m,.int .i64 l,.int .i64 c])∧Below w.heap.size w w':=by
 have CB:=hide cb;have CR:=hide cr;have CL:=hide cl;clear cb cr cl;go_enter Tryz.func37,Tryz.ntmps37;go_wp2_with fail;refine (CB.out _).mono ?_;rintro e w1 ⟨rfl,hw⟩;subst w1;go_wp2_with fail;refine (CR.out _).mono ?_;rintro e w1 ⟨rfl,b1⟩;obtain ⟨wr,hwr⟩:∃wr,wr=w1.alloc (.cells #[.string s,.int .i64 m,.int .i64 c] 152):=⟨_,rfl⟩
 have s1:=b1.size;have r2:=(b1.block w.heap.size (by simp)).trans (heap_alloc_new w _)
 have R2:=hide (show wr.heap[w.heap.size]? = some (.cells #[.string ⟨#[]⟩,.int .i64 0,.int .i64 0,.int .i64 0] 82 (0,0)) by
  rw [hwr];exact (((Below.refl w1.heap.size w1).alloc (Nat.le_refl _) _).block w.heap.size (lt_of_block r2)).trans r2)
 have hg:wr.heap[w1.heap.size]? = some (.cells #[.string s,.int .i64 m,.int .i64 c] 152 (0,0)):=by rw [hwr];exact heap_alloc_new w1 _
 have BW:=hide (show Below w.heap.size w wr by rw [hwr];exact (((Below.refl w.heap.size w).alloc (Nat.le_refl _) _).trans (b1.mono (by simp))).alloc (by simp at s1;omega) _);have LT:=hide (lt_of_block hg);have c0:wr.cell? ⟨w1.heap.size,0,none⟩=some (.string s):=by simp [World.cell?,hg]
 have c1:wr.cell? ⟨w1.heap.size,1,none⟩=some (.int .i64 m):=by simp [World.cell?,hg]
 have c2:wr.cell? ⟨w1.heap.size,2,none⟩=some (.int .i64 c):=by simp [World.cell?,hg]
 have k0:=zac c0 LT.out;have k1:=zac c1 LT.out;have k2:=zac c2 LT.out;clear r2 hg c0 c1 c2;go_wp2_with fail;rw [←hwr];clear hwr;haveI:=zal wr;refine zbt _ _ (show _=[_,_,_,_,_,_,_,_,_,_]++[_] from rfl) (by kernel_rfl) (by kernel_rfl) (by kernel_rfl) ?_
 repeat (go_big_quiet_step ((first
  |(go_at_call 88;exact zaU (CL.out _)))))
 refine wpQuiet_nil ?_;rintro _ ⟨wk,rfl⟩;have R3:=hide ((wk.block w.heap.size (lt_of_block R2.out)).trans R2.out);have B3:=hide (zar BW.out wk.below);clear CB CR CL k0 k1 k2 R2 BW LT
 go_wp2_with (first
  |(refine wpList_store_row rfl 82 (.tmp 2) (.tmp 16) rfl w.heap.size _ rfl rfl 82 _ R3.out (by kernel_rfl) rfl (by kernel_rfl) ?_))
 (try simp only [Exit.inBlock,Exit.then])
 refine bodyPost_ret (results_cell_row rfl _ _ w.heap.size 82 _ (0,0) _ rfl (setRow_heap _ _ _ _ _ _ R3.out) Tryz.underlying82 rfl (by kernel_rfl)) rfl ?_;exact ⟨rfl,below_setRow B3.out (Nat.le_refl _) _⟩
theorem zzb (n:Int) (w:World):Calls Tryz.prog 37 #[.int .i64 n] w fun e w'=>e=.returned (.agg (infoC (n%256).toNat))∧Below w.heap.size w w':=by
 obtain ⟨b,hb⟩:∃b:Nat,b=(n%256).toNat:=⟨_,rfl⟩
 have e:(b:Int)=n%256:=by omega
 have lt:b<256:=by omega
 rw [←hb];have hm:=zpQ b lt;exact zvE n b (zcW b) (zbH b) (zce b) (zdZ b) w (fun w=>by rw [e];exact zaj n w) (fun w=>zvB b lt w) (fun w=>zvD (zbH b) w hm.1 hm.2)
end Go.Proofs.YtoijhhbiknhlnaaGreatDoor.O7
