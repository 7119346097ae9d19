/- Texts without a word of the program, one behind the other. -/
import Derived.Test.YtoijhhbiknhlnaaGreatDoorCpuSpeedsJ02
import Derived.Laws.Rows
import Derived.Laws.Tables
import Derived.Laws.CopyOwn
import Derived.WalkMore
import Derived.OneCell
import Derived.Handy
import Derived.Deep.RegionWith
import Derived.Laws.MakeOwn
import Derived.Laws.OwnMore
namespace Go.Proofs.YtoijhhbiknhlnaaGreatDoor.W13
set_option maxRecDepth 20000
open Go.RowKit
set_option linter.unusedVariables false
def zmp (wr rd st lo bu:Int):List Value:=[.int .i64 wr,.int .i64 rd,.int .i64 st,.int .i64 lo,.int .i64 bu]
def zcK (f:Nat→Int):List Value:=(List.range 32768).map fun j=>Value.int .i64 (f j)
def rowM (m:Bool) (f:Nat→Int) (wr rd st lo bu:Int):Array Value:=(.bool m::(zcK f++zmp wr rd st lo bu)).toArray
theorem zbR (f:Nat→Int):(zcK f).length=32768:=by simp [zcK]
theorem zjr (m:Bool) (f:Nat→Int) (wr rd st lo bu:Int):(rowM m f wr rd st lo bu).size=32774:=by simp [rowM,zbR,zmp]
theorem zoa (f:Nat→Int) (j:Nat) (h:j<32768):(zcK f)[j]? = some (.int .i64 (f j)):=by simp [zcK,h]
theorem zxN (m:Bool) (f:Nat→Int) (wr rd st lo bu:Int):(rowM m f wr rd st lo bu)[0]? = some (.bool m):=by simp [rowM]
theorem zuB (m:Bool) (f:Nat→Int) (wr rd st lo bu:Int) (j:Nat) (h:j<32768):(rowM m f wr rd st lo bu)[1+j]? = some (.int .i64 (f j)):=by
 unfold rowM;rw [show 1+j=j+1 by omega,List.getElem?_toArray,List.getElem?_cons_succ,List.getElem?_append_left (by rw [zbR];exact h)];exact zoa f j h
theorem zej (m:Bool) (f:Nat→Int) (wr rd st lo bu:Int) (j:Nat):(rowM m f wr rd st lo bu)[32769+j]? = (zmp wr rd st lo bu)[j]? :=by
 unfold rowM;rw [show 32769+j=(32768+j)+1 by omega,List.getElem?_toArray,List.getElem?_cons_succ,List.getElem?_append_right (by rw [zbR];omega),zbR,show 32768+j-32768=j by omega]
def upd (f:Nat→Int) (i:Nat) (v:Int):Nat→Int:=fun j=>if j=i then v else f j
theorem zmq (i:Nat) (x:Int) (f:Nat→Int):(zcK f).set i (.int .i64 x)=zcK (upd f i x):=by
 unfold zcK;apply List.ext_getElem?;intro j;rw [List.getElem?_set];simp only [List.getElem?_map,List.length_map,List.length_range]
 by_cases h:i=j
 ·subst h
  by_cases k:i<32768
  ·simp [k,upd]
  ·simp [k]
 ·rw [if_neg h]
  by_cases k:j<32768
  ·simp [k,upd,show ¬j=i from fun e=>h e.symm]
  ·simp [k]
theorem zrn (m:Bool) (f:Nat→Int) (wr rd st lo bu x:Int) (i:Nat) (h:i<32768):(rowM m f wr rd st lo bu).setIfInBounds (1+i) (.int .i64 x)=rowM m (upd f i x) wr rd st lo bu:=by
 unfold rowM;rw [List.setIfInBounds_toArray,show 1+i=i+1 by omega,List.set_cons_succ,List.set_append_left _ _ (by rw [zbR];exact h),zmq]
theorem zcm (m:Bool) (f:Nat→Int) (wr rd st lo bu x:Int) (i:Nat):(rowM m f wr rd st lo bu).setIfInBounds (32769+i) (.int .i64 x)=(.bool m::(zcK f++(zmp wr rd st lo bu).set i (.int .i64 x))).toArray:=by
 unfold rowM;rw [List.setIfInBounds_toArray,show 32769+i=(32768+i)+1 by omega,List.set_cons_succ,List.set_append_right _ _ (by rw [zbR];omega),zbR,show 32768+i-32768=i by omega]
theorem zjs (m q:Bool) (f:Nat→Int) (wr rd st lo bu:Int):(rowM m f wr rd st lo bu).setIfInBounds 0 (.bool q)=rowM q f wr rd st lo bu:=by
 unfold rowM;rw [List.setIfInBounds_toArray,List.set_cons_zero]
def HasM (w:World) (b:Nat) (m:Bool) (f:Nat→Int) (wr rd st lo bu:Int):Prop:=w.heap[b]? = some (.cells (rowM m f wr rd st lo bu) 222 (0,0))
theorem HasM.lt {w:World} {b:Nat} {m:Bool} {f:Nat→Int} {wr rd st lo bu:Int} (h:HasM w b m f wr rd st lo bu):b<w.heap.size:=lt_of_block h
theorem HasM.c0 {w:World} {b:Nat} {m:Bool} {f:Nat→Int} {wr rd st lo bu:Int} (h:HasM w b m f wr rd st lo bu):w.cell? ⟨b,0,none⟩=some (.bool m):=(cell_of_row w b 0 _ _ _ h).trans (zxN _ _ _ _ _ _ _)
theorem HasM.at {w:World} {b:Nat} {m:Bool} {f:Nat→Int} {wr rd st lo bu:Int} (h:HasM w b m f wr rd st lo bu) (j:Nat) (hj:j<32768):w.cell? ⟨b,1+j,none⟩=some (.int .i64 (f j)):=(cell_of_row w b (1+j) _ _ _ h).trans (zuB _ _ _ _ _ _ _ j hj)
theorem HasM.c1 {w:World} {b:Nat} {m:Bool} {f:Nat→Int} {wr rd st lo bu:Int} (h:HasM w b m f wr rd st lo bu):w.cell? ⟨b,32769,none⟩=some (.int .i64 wr):=(cell_of_row w b 32769 _ _ _ h).trans (zej m f wr rd st lo bu 0)
theorem HasM.c2 {w:World} {b:Nat} {m:Bool} {f:Nat→Int} {wr rd st lo bu:Int} (h:HasM w b m f wr rd st lo bu):w.cell? ⟨b,32770,none⟩=some (.int .i64 rd):=(cell_of_row w b 32770 _ _ _ h).trans (zej m f wr rd st lo bu 1)
theorem HasM.c3 {w:World} {b:Nat} {m:Bool} {f:Nat→Int} {wr rd st lo bu:Int} (h:HasM w b m f wr rd st lo bu):w.cell? ⟨b,32771,none⟩=some (.int .i64 st):=(cell_of_row w b 32771 _ _ _ h).trans (zej m f wr rd st lo bu 2)
theorem HasM.c4 {w:World} {b:Nat} {m:Bool} {f:Nat→Int} {wr rd st lo bu:Int} (h:HasM w b m f wr rd st lo bu):w.cell? ⟨b,32772,none⟩=some (.int .i64 lo):=(cell_of_row w b 32772 _ _ _ h).trans (zej m f wr rd st lo bu 3)
theorem HasM.c5 {w:World} {b:Nat} {m:Bool} {f:Nat→Int} {wr rd st lo bu:Int} (h:HasM w b m f wr rd st lo bu):w.cell? ⟨b,32773,none⟩=some (.int .i64 bu):=(cell_of_row w b 32773 _ _ _ h).trans (zej m f wr rd st lo bu 4)
theorem HasM.frozen {w:World} {b:Nat} {m:Bool} {f:Nat→Int} {wr rd st lo bu:Int} (h:HasM w b m f wr rd st lo bu) (j:Nat):w.frozen? ⟨b,j,none⟩=false:=frozen_of_row w b j _ _ h
theorem HasM.set {w:World} {b:Nat} {m:Bool} {f:Nat→Int} {wr rd st lo bu:Int} (h:HasM w b m f wr rd st lo bu) (i:Nat) (hi:i<32768) (x:Int):HasM (w.setCell ⟨b,1+i,none⟩ (.int .i64 x)) b m (upd f i x) wr rd st lo bu:=by
 have k:=heap_setCell_same w b (1+i) _ _ (.int .i64 x) h;rw [zrn _ _ _ _ _ _ _ _ _ hi] at k;exact k
theorem HasM.set1 {w:World} {b:Nat} {m:Bool} {f:Nat→Int} {wr rd st lo bu:Int} (h:HasM w b m f wr rd st lo bu) (x:Int):HasM (w.setCell ⟨b,32769,none⟩ (.int .i64 x)) b m f x rd st lo bu:=by
 have k:=heap_setCell_same w b 32769 _ _ (.int .i64 x) h;rw [zcm _ _ _ _ _ _ _ _ 0] at k;exact k
theorem HasM.set2 {w:World} {b:Nat} {m:Bool} {f:Nat→Int} {wr rd st lo bu:Int} (h:HasM w b m f wr rd st lo bu) (x:Int):HasM (w.setCell ⟨b,32770,none⟩ (.int .i64 x)) b m f wr x st lo bu:=by
 have k:=heap_setCell_same w b 32770 _ _ (.int .i64 x) h;rw [zcm _ _ _ _ _ _ _ _ 1] at k;exact k
theorem HasM.set3 {w:World} {b:Nat} {m:Bool} {f:Nat→Int} {wr rd st lo bu:Int} (h:HasM w b m f wr rd st lo bu) (x:Int):HasM (w.setCell ⟨b,32771,none⟩ (.int .i64 x)) b m f wr rd x lo bu:=by
 have k:=heap_setCell_same w b 32771 _ _ (.int .i64 x) h;rw [zcm _ _ _ _ _ _ _ _ 2] at k;exact k
theorem HasM.set4 {w:World} {b:Nat} {m:Bool} {f:Nat→Int} {wr rd st lo bu:Int} (h:HasM w b m f wr rd st lo bu) (x:Int):HasM (w.setCell ⟨b,32772,none⟩ (.int .i64 x)) b m f wr rd st x bu:=by
 have k:=heap_setCell_same w b 32772 _ _ (.int .i64 x) h;rw [zcm _ _ _ _ _ _ _ _ 3] at k;exact k
theorem HasM.set5 {w:World} {b:Nat} {m:Bool} {f:Nat→Int} {wr rd st lo bu:Int} (h:HasM w b m f wr rd st lo bu) (x:Int):HasM (w.setCell ⟨b,32773,none⟩ (.int .i64 x)) b m f wr rd st lo x:=by
 have k:=heap_setCell_same w b 32773 _ _ (.int .i64 x) h;rw [zcm _ _ _ _ _ _ _ _ 4] at k;exact k
theorem HasM.next {w:World} {b:Nat} {m:Bool} {f:Nat→Int} {wr rd st lo bu:Int} (h:HasM w b m f wr rd st lo bu) {w':World} (k:Below w.heap.size w w'):HasM w' b m f wr rd st lo bu:=(k.block b (lt_of_block h)).trans h
theorem zro (w:World) (m:Bool) (f:Nat→Int) (wr rd st lo bu:Int):HasM (w.alloc (.cells (rowM m f wr rd st lo bu) 222)) w.heap.size m f wr rd st lo bu:=heap_alloc_new _ _
def Only (b:Nat) (w w':World):Prop:=w'.os=w.os∧w'.tape=w.tape∧w'.output=w.output∧w.heap.size≤w'.heap.size∧∀k,k<w.heap.size→k≠b→w'.heap[k]? = w.heap[k]?
theorem Only.of {b:Nat} {w w':World} (h:Below w.heap.size w w'):Only b w w':=⟨h.os,h.tape,h.output,h.size,fun k hk _=>h.block k hk⟩
theorem Only.refl (b:Nat) (w:World):Only b w w:=Only.of (Below.refl _ _)
theorem Only.size {b:Nat} {w w':World} (h:Only b w w'):w.heap.size≤w'.heap.size:=h.2.2.2.1
theorem Only.block {b:Nat} {w w':World} (h:Only b w w') (k:Nat) (hk:k<w.heap.size) (hb:k≠b):w'.heap[k]? = w.heap[k]? :=h.2.2.2.2 k hk hb
theorem Only.trans {b:Nat} {w1 w2 w3:World} (h:Only b w1 w2) (k:Only b w2 w3):Only b w1 w3:=
 ⟨k.1.trans h.1,k.2.1.trans h.2.1,k.2.2.1.trans h.2.2.1,Nat.le_trans h.size k.size,fun i hi hb=>(k.block i (Nat.lt_of_lt_of_le hi h.size) hb).trans (h.block i hi hb)⟩
theorem Only.set {b:Nat} {w w':World} (h:Only b w w') (o:Nat) (v:Value):Only b w (w'.setCell ⟨b,o,none⟩ v):=
 h.trans ⟨rfl,rfl,rfl,by simp [World.setCell],fun k _ hk=>Below.heap_setCell _ _ _ _ hk⟩
theorem Only.obj {b c:Nat} {w w':World} {o:Obj} (h:Only b w w') (k:w.heap[c]? = some o) (hc:c≠b):w'.heap[c]? = some o:=(h.block c (lt_of_block k) hc).trans k
def isZ:Value→Bool|.int .i64 0=>true|_=>false
def allZ:Nat→List Value→Bool
 |0,[]=>true
 |n+1,x::xs=>isZ x&&allZ n xs
 |_,_=>false
def zob:Option Value→Bool|some (.agg ⟨.bool false::xs⟩)=>allZ 32773 xs|_=>false
theorem zxO {v:Value} (h:isZ v=true):v=.int .i64 0:=by
 unfold isZ at h;split at h
 ·rfl
 ·cases h
theorem zoc:∀(n:Nat) (l:List Value),allZ n l=true→l=List.replicate n (.int .i64 0)
 |0,[],_=>rfl
 |0,x::xs,h=>by simp [allZ] at h
 |n+1,[],h=>by simp [allZ] at h
 |n+1,x::xs,h=>by
  simp only [allZ,Bool.and_eq_true] at h;rw [zxO h.1,zoc n xs h.2,List.replicate_succ]
def zeroC:Array Value:=rowM false (fun _=>0) 0 0 0 0 0
theorem zod:zcK (fun _=>0)++zmp 0 0 0 0 0=List.replicate 32773 (.int .i64 0):=by
 have e:zcK (fun _=>0)=List.replicate 32768 (.int .i64 0):=by
  unfold zcK;rw [List.map_const',List.length_range]
 rw [e,show zmp 0 0 0 0 0=List.replicate 5 (.int .i64 0) from rfl,List.replicate_append_replicate]
theorem zmr {v:Option Value} (h:zob v=true):v=some (.agg zeroC):=by
 unfold zob at h;split at h
 ·rename_i xs;have k:=zoc _ _ h;subst k;unfold zeroC rowM;rw [zod]
 ·cases h
theorem zuC:Tryz.t222.zero=some (.agg zeroC):=zmr (by kernel_rfl)
theorem zxP:zeroC=rowM false (fun _=>0) 0 0 0 0 0:=rfl
set_option maxRecDepth 100000 in
theorem zrp (parts:List (Nat×Value)):Tryz.prog.built 222 parts=Instr.fill (fun i=>#[(0,1),(1,32768),(32769,1),(32770,1),(32771,1),(32772,1),(32773,1)][i]?) zeroC parts:=by
 have h1:Tryz.prog.info? 222=some Tryz.t222:=by kernel_rfl
 unfold Program.built;simp only [h1,Tryz.underlying222,zuC];rfl
theorem zlr {place:Nat→Option (Nat×Nat)} {cells:Array Value} {i off:Nat} {v:Value} {rest:List (Nat×Value)} (hp:place i=some (off,1)) (hv:v.cells=#[v]) (ho:off+1≤cells.size):
  Instr.fill place cells ((i,v)::rest)=Instr.fill place (cells.setIfInBounds off v) rest:=by
 have hn:¬off+1>cells.size:=by omega
 rw [Instr.fill,hp];simp only [hv,List.size_toArray,List.length_cons,List.length_nil];rw [if_neg (by simp;omega)];rfl
theorem zuD (w:World):(Instr.build 222 #[(0,.bool true),(4,.int .i64 1)]).run Tryz.prog w=.ok (.agg (rowM true (fun _=>0) 0 0 1 0 0)) w:=by
 refine run_build w _ _ _ ?_;rw [zrp,zxP,zlr (off:=0) rfl rfl (by rw [zjr];omega),zjs,zlr (off:=32771) rfl rfl (by rw [zjr];omega),zcm _ _ _ _ _ _ _ _ 2];rfl
theorem wpList_built {P:Program} {ops:Array Oper} {rest:List Oper} {o:Oper} {a:Act} {w:World} {Q:Exit→Act→World→Prop} (hg:o.guard=none) (t:TypeId) (parts:Array (Nat×Operand)) (ho:o.op=.build t parts)
  (u:Array (Nat×Value)) (hp:(parts.map fun (i,x)=>(i,a.eval x))=u) (R:Array Value) (h:∀w,(Instr.build t u).run P w=.ok (.agg R) w) (hK:wpList P ops Q rest (a.put o.dst (.agg R)) w):wpList P ops Q (o::rest) a w:=
 wpList_plain hg fun K hK'=>by
  unfold Oper.wp execOp;simp only [ho,hp,Sem.run_bind,h,Result.andThen_ok];exact hK' _ _ hK
theorem new_any (w:World):Calls Tryz.prog 119 #[] w fun e w'=>e=.returned (.pointer (some ⟨w.heap.size,0,none⟩))∧HasM w' w.heap.size true (fun _=>0) 0 0 1 0 0∧Below w.heap.size w w':=by
 go_enter Tryz.func119,Tryz.ntmps119;go_wp2_with (first|(refine wpList_built rfl 222 _ rfl #[(0,.bool true),(4,.int .i64 1)] (by simp [Act.eval]) _ zuD ?_));go_ret;exact ⟨rfl,zro _ _ _ _ _ _ _ _,(Below.refl _ w).alloc (Nat.le_refl _) _⟩
theorem missing_is (b:Nat) (m:Bool) (w:World) (c0:w.cell? ⟨b,0,none⟩=some (.bool m)):Calls Tryz.prog 163 #[.pointer (some ⟨b,0,none⟩)] w fun e w'=>e=.returned (.bool (!m))∧w'=w:=by
 go_enter Tryz.func163,Tryz.ntmps163;go_wp2;go_ret;exact ⟨rfl,rfl⟩
theorem zgO (b:Nat) (f:Nat→Int) (wr rd st lo bu:Int) (w:World) (h:HasM w b true f wr rd st lo bu) (n x:Int) (hx:n%65536=x):Calls Tryz.prog 174 #[.pointer (some ⟨b,0,none⟩),.int .i64 n] w fun e w'=>e=.returned (.tuple #[])∧HasM w' b true f x rd st lo bu∧Only b w w':=by
 have c0:=h.c0;have c1:=h.c1;have z1:=h.frozen 32769;have H:=hide h;clear h;go_enter Tryz.func174,Tryz.ntmps174;go_wp2_with (first|(go_at_call 163;refine (missing_is b true _ c0).mono ?_;rintro e w' ⟨rfl,hw⟩;subst w')|(go_at_call 33;refine (zbd _ _).mono ?_;rintro e w' ⟨rfl,hw⟩;subst w'));go_end0;exact ⟨rfl,H.out.set1 x,(Only.refl b w).set _ _⟩
theorem zms (b:Nat) (f:Nat→Int) (wr rd st lo bu:Int) (w:World) (h:HasM w b true f wr rd st lo bu) (n x:Int) (hx:n%65536=x):Calls Tryz.prog 176 #[.pointer (some ⟨b,0,none⟩),.int .i64 n] w fun e w'=>e=.returned (.tuple #[])∧HasM w' b true f wr rd x lo bu∧Only b w w':=by
 have c0:=h.c0;have c3:=h.c3;have z3:=h.frozen 32771;have H:=hide h;clear h;go_enter Tryz.func176,Tryz.ntmps176;go_wp2_with (first|(go_at_call 163;refine (missing_is b true _ c0).mono ?_;rintro e w' ⟨rfl,hw⟩;subst w')|(go_at_call 33;refine (zbd _ _).mono ?_;rintro e w' ⟨rfl,hw⟩;subst w'));go_end0;exact ⟨rfl,H.out.set3 x,(Only.refl b w).set _ _⟩
theorem zjt {fn:Func} {a b c d e:Tmp} (h:fn.results=#[.tmp a,.tmp b,.tmp c,.tmp d,.tmp e]) (tmps:Array Value) (P:Program) (w:World):
  (results fn tmps).run P w=.ok (.tuple #[tmps.getD a undef,tmps.getD b undef,tmps.getD c undef,tmps.getD d undef,tmps.getD e undef]) w:=by
 simp [results,h]
theorem zrq (b:Nat) (f:Nat→Int) (wr rd st lo bu:Int) (w:World) (h:HasM w b true f wr rd st lo bu):Calls Tryz.prog 132 #[.pointer (some ⟨b,0,none⟩)] w fun e w'=>e=.returned (.tuple #[.int .i64 wr,.int .i64 rd,.int .i64 st,.int .i64 lo,.int .i64 bu])∧Below w.heap.size w w':=by
 have c0:=h.c0;have k1:=zac h.c1 h.lt;have k2:=zac h.c2 h.lt;have k3:=zac h.c3 h.lt;have k4:=zac h.c4 h.lt;have k5:=zac h.c5 h.lt;clear h;go_enter Tryz.func132,Tryz.ntmps132;go_wp2_with (first|(go_at_call 163;refine (missing_is b true _ c0).mono ?_;rintro e w' ⟨rfl,hw⟩;subst w'));haveI:=zal w;refine zan (by kernel_rfl) (by kernel_rfl) ?_
 repeat (go_big_quiet_step (fail))
 refine wpQuiet_nil ?_;rintro _ ⟨wk,rfl⟩;go_wp2;refine bodyPost_ret (zjt rfl _ _ _) rfl ?_;exact ⟨rfl,wk.below⟩
def zcV (f:Nat→Int) (n:Int):Int:=if n%65536<32768 then f (n%65536).toNat else 0
def zek (f:Nat→Int) (n x:Int):Nat→Int:=if n%65536<32768 then upd f (n%65536).toNat (x%65536) else f
theorem zoe (b:Nat) (f:Nat→Int) (wr rd st lo bu:Int) (w:World) (h:HasM w b true f wr rd st lo bu) (n x:Int) (hx:zcV f n=x):Calls Tryz.prog 189 #[.pointer (some ⟨b,0,none⟩),.int .i64 n] w fun e w'=>e=.returned (.int .i64 x)∧w'=w:=by
 have c0:=h.c0;obtain ⟨p,hp⟩:∃p,n%65536=p:=⟨_,rfl⟩
 have h0:0≤p:=by omega
 by_cases hlt:p<32768
 ·have e:x=f p.toNat:=by rw [←hx];unfold zcV;rw [hp,if_pos hlt]
  have cj:=h.at p.toNat (by omega);rw [←e] at cj;clear e hx h;go_enter Tryz.func189,Tryz.ntmps189;go_wp2_with (first|(go_at_call 163;refine (missing_is b true _ c0).mono ?_;rintro e w' ⟨rfl,hw⟩;subst w')|(go_at_call 33;refine (zbd _ _).mono ?_;rintro e w' ⟨rfl,hw⟩;subst w'));go_ret;exact ⟨rfl,rfl⟩
 ·have e:x=0:=by rw [←hx];unfold zcV;rw [hp,if_neg hlt]
  clear hx h;subst e;go_enter Tryz.func189,Tryz.ntmps189;go_wp2_with (first|(go_at_call 163;refine (missing_is b true _ c0).mono ?_;rintro e w' ⟨rfl,hw⟩;subst w')|(go_at_call 33;refine (zbd _ _).mono ?_;rintro e w' ⟨rfl,hw⟩;subst w'));go_ret;exact ⟨rfl,rfl⟩
theorem zof (b:Nat) (f:Nat→Int) (wr rd st lo bu:Int) (w:World) (h:HasM w b true f wr rd st lo bu) (n x:Int) (F:Nat→Int) (hF:zek f n x=F):Calls Tryz.prog 194 #[.pointer (some ⟨b,0,none⟩),.int .i64 n,.int .i64 x] w fun e w'=>e=.returned (.tuple #[])∧HasM w' b true F wr rd st lo bu∧Only b w w':=by
 have c0:=h.c0;obtain ⟨p,hp⟩:∃p,n%65536=p:=⟨_,rfl⟩
 have h0:0≤p:=by omega
 obtain ⟨y,hy⟩:∃y,x%65536=y:=⟨_,rfl⟩
 by_cases hlt:p<32768
 ·have e:F=upd f p.toNat y:=by rw [←hF];unfold zek;rw [hp,if_pos hlt,hy]
  have HP:=hide (show p.toNat<32768 by omega);have cj:=h.at p.toNat HP.out;have zj:=h.frozen (1+p.toNat);have H:=hide h;subst e;clear hF h;go_enter Tryz.func194,Tryz.ntmps194;go_wp2_with (first|(go_at_call 163;refine (missing_is b true _ c0).mono ?_;rintro e w' ⟨rfl,hw⟩;subst w')|(go_at_call 33;refine (zbd _ _).mono ?_;rintro e w' ⟨rfl,hw⟩;subst w'));go_region_with (first|(go_at_call 33;refine (zbd _ _).mono ?_;rintro e w' ⟨rfl,hw⟩;subst w'))
  all_goals (try go_wp2)
  all_goals
   go_end0;exact ⟨rfl,H.out.set p.toNat HP.out y,(Only.refl b w).set _ _⟩
 ·have e:F=f:=by rw [←hF];unfold zek;rw [hp,if_neg hlt]
  have H:=hide h;subst e;clear hF h;go_enter Tryz.func194,Tryz.ntmps194;go_wp2_with (first|(go_at_call 163;refine (missing_is b true _ c0).mono ?_;rintro e w' ⟨rfl,hw⟩;subst w')|(go_at_call 33;refine (zbd _ _).mono ?_;rintro e w' ⟨rfl,hw⟩;subst w'));refine bodyPost_ret (results_none rfl _ _ _) rfl ?_;exact ⟨rfl,H.out,Only.refl b w⟩
theorem zhM (b:Nat) (f:Nat→Int) (wr rd st lo bu:Int) (w:World) (h:HasM w b true f wr rd st lo bu) (n x y:Int) (hx:n%65536=x) (hy:zcV f x=y):Calls Tryz.prog 164 #[.pointer (some ⟨b,0,none⟩),.int .i64 n] w fun e w'=>e=.returned (.tuple #[])∧HasM w' b true f wr x st lo y∧Only b w w':=by
 have c0:=h.c0;have c2:=h.c2;have z2:=h.frozen 32770;have H:=hide h;have HY:=hide hy;clear h hy;go_enter Tryz.func164,Tryz.ntmps164;go_wp2_with (first|(go_at_call 163;refine (missing_is b true _ c0).mono ?_;rintro e w' ⟨rfl,hw⟩;subst w')|(go_at_call 33;refine (zbd _ _).mono ?_;rintro e w' ⟨rfl,hw⟩;subst w'));have H2:=hide (H.out.set2 x);have O2:=hide ((Only.refl b w).set 32770 (.int .i64 x));obtain ⟨w2,hw2⟩:∃w2,w2=w.setCell ⟨b,32770,none⟩ (.int .i64 x):=⟨_,rfl⟩
 rw [←hw2] at H2 O2 ⊢;clear hw2 H c0 c2 z2;refine (zoe b f _ _ _ _ _ _ H2.out x y HY.out).mono ?_;rintro e w' ⟨rfl,hw⟩;subst w';have c5:=H2.out.c5;have z5:=H2.out.frozen 32773;go_wp2;go_end0;exact ⟨rfl,H2.out.set5 y,O2.out.set _ _⟩
theorem zog (b:Nat) (f:Nat→Int) (wr rd st lo bu:Int) (w:World) (h:HasM w b true f wr rd st lo bu) (n x:Int) (hx:n%256=x):Calls Tryz.prog 175 #[.pointer (some ⟨b,0,none⟩),.bool false,.int .i64 n] w fun e w'=>e=.returned (.tuple #[])∧HasM w' b true f wr rd st x bu∧Only b w w':=by
 have c0:=h.c0;have c4:=h.c4;have z4:=h.frozen 32772;have H:=hide h;clear h;go_enter Tryz.func175,Tryz.ntmps175;go_wp2_with (first|(go_at_call 163;refine (missing_is b true _ c0).mono ?_;rintro e w' ⟨rfl,hw⟩;subst w')|(go_at_call 32;refine (zaj _ _).mono ?_;rintro e w' ⟨rfl,hw⟩;subst w'));refine bodyPost_ret (results_none rfl _ _ _) rfl ?_;exact ⟨rfl,H.out.set4 x,(Only.refl b w).set _ _⟩
theorem zuE {a c:Int} (h:a=c):Ending.returned (.int .i64 a)=.returned (.int .i64 c):=by rw [h]
theorem zmt (b:Nat) (f:Nat→Int) (wr rd st lo bu:Int) (w:World) (h:HasM w b true f wr rd st lo bu) (n x y:Int) (F:Nat→Int) (hx:lo%256+256*(n%256)=x) (hF:zek f wr x=F) (hw0:0≤wr) (hw1:wr<65536) (hs0:0≤st) (hs1:st<65536) (hy:(wr+st)%65536=y):
  Calls Tryz.prog 175 #[.pointer (some ⟨b,0,none⟩),.bool true,.int .i64 n] w fun e w'=>e=.returned (.tuple #[])∧HasM w' b true F y rd st lo bu∧Only b w w':=by
 have c0:=h.c0;have k1:=zac h.c1 h.lt;have k4:=zac h.c4 h.lt;have H:=hide h;have HF:=hide hF;have HX:=hide hx;have HY:=hide hy;clear h hF hx hy;go_enter Tryz.func175,Tryz.ntmps175;go_wp2_with (first|(go_at_call 163;refine (missing_is b true _ c0).mono ?_;rintro e w' ⟨rfl,hw⟩;subst w'));haveI:=zal w;refine zau _ _ (show _=[_,_,_,_,_,_,_,_,_,_,_]++[_] from rfl) (by kernel_rfl) (by kernel_rfl) (by kernel_rfl) ?_
 repeat (go_big_quiet_step ((first|(go_at_call 90;exact zaU ((zbY _ _ _).mono (fun _ _ hh=>⟨hh.1.trans (zuE HX.out),hh.2⟩))))))
 refine wpQuiet_nil ?_;rintro _ ⟨wk,rfl⟩;clear c0 k1 k4;go_wp2_with fail;refine (zof b f _ _ _ _ _ _ (H.out.next wk.below) wr x F HF.out).mono ?_;rintro e w2 ⟨rfl,h2,o2⟩;have H2:=hide h2;have O2:=hide ((Only.of (b:=b) wk.below).trans o2);have k1:=zac h2.c1 h2.lt;have k3:=zac h2.c3 h2.lt;clear h2 o2 H;go_wp2_with fail;haveI:=zal w2;refine zau _ _ (show _=[_,_,_,_,_,_,_,_,_,_]++[_] from rfl) (by kernel_rfl) (by kernel_rfl) (by kernel_rfl) ?_
 repeat (go_big_quiet_step (fail))
 refine wpQuiet_nil ?_;rintro _ ⟨wj,rfl⟩;clear k1 k3;go_wp2_with fail;refine (zgO b F _ _ _ _ _ _ (H2.out.next wj.below) (wr+st) y HY.out).mono ?_;rintro e w3 ⟨rfl,h3,o3⟩;go_wp2_with fail;go_end0;exact ⟨rfl,h3,(O2.out.trans (Only.of wj.below)).trans o3⟩
theorem zoh (b:Nat) (f:Nat→Int) (wr rd st lo bu:Int) (w:World) (h:HasM w b true f wr rd st lo bu):Calls Tryz.prog 127 #[.pointer (some ⟨b,0,none⟩),.bool false] w fun e w'=>e=.returned (.int .i64 (bu%256))∧w'=w:=by
 have c0:=h.c0;have c5:=h.c5;clear h;go_enter Tryz.func127,Tryz.ntmps127;go_wp2_with (first|(go_at_call 163;refine (missing_is b true _ c0).mono ?_;rintro e w' ⟨rfl,hw⟩;subst w')|(go_at_call 85;refine (zbo _ _).mono ?_;rintro e w' ⟨rfl,hw⟩;subst w'));go_ret;exact ⟨rfl,rfl⟩
theorem zmu (b:Nat) (f:Nat→Int) (wr rd st lo bu:Int) (w:World) (h:HasM w b true f wr rd st lo bu) (x y:Int) (hr0:0≤rd) (hr1:rd<65536) (hs0:0≤st) (hs1:st<65536) (hx:(rd+st)%65536=x) (hy:zcV f x=y):
  Calls Tryz.prog 127 #[.pointer (some ⟨b,0,none⟩),.bool true] w fun e w'=>e=.returned (.int .i64 (bu/256%256))∧HasM w' b true f wr x st lo y∧Only b w w':=by
 have c0:=h.c0;have c5:=h.c5;have k2:=zac h.c2 h.lt;have k3:=zac h.c3 h.lt;have H:=hide h;have HX:=hide hx;have HY:=hide hy;clear h hx hy;go_enter Tryz.func127,Tryz.ntmps127;go_wp2_with (first|(go_at_call 163;refine (missing_is b true _ c0).mono ?_;rintro e w' ⟨rfl,hw⟩;subst w')|(go_at_call 85;refine (zbo _ _).mono ?_;rintro e w' ⟨rfl,hw⟩;subst w'));haveI:=zal w;refine zau _ _ (show _=[_,_,_,_,_,_,_,_,_,_]++[_] from rfl) (by kernel_rfl) (by kernel_rfl) (by kernel_rfl) ?_
 repeat (go_big_quiet_step (fail))
 refine wpQuiet_nil ?_;rintro _ ⟨wj,rfl⟩;clear k2 k3 c0 c5;go_wp2_with fail;refine (zhM b f _ _ _ _ _ _ (H.out.next wj.below) (rd+st) x y HX.out HY.out).mono ?_;rintro e w3 ⟨rfl,h3,o3⟩;go_wp2_with fail;go_ret;exact ⟨rfl,h3,(Only.of wj.below).trans o3⟩
theorem own:ownKnob Tryz.prog.godebug=none:=by kernel_rfl
theorem and_31 (n:Int):bits .and .i64 n 31=n%32:=zbM 5 (by decide) n
def zbr (A S:Int) (k:Nat):Int:=(A+k*S)%65536
theorem zfZ (A S:Int) (k:Nat):(zbr A S k+S)%65536=zbr A S (k+1):=by
 unfold zbr;have:((k+1:Nat):Int)*S=k*S+S:=by rw [Int.natCast_add,Int.add_mul];simp
 rw [this];omega
theorem zeB (A S:Int) (k:Nat):0≤zbr A S k:=by unfold zbr;omega
theorem zeC (A S:Int) (k:Nat):zbr A S k<65536:=by unfold zbr;omega
theorem zga (A S:Int) (h0:0≤A) (h1:A<65536):zbr A S 0=A:=by unfold zbr;simp;omega
def HasRow (w:World) (g:Nat) (l:List Value):Prop:=w.heap[g]? = some (.cells l.toArray 3 (0,0))
theorem HasRow.next {w w':World} {g:Nat} {l:List Value} (h:HasRow w g l) (k:Below w.heap.size w w'):HasRow w' g l:=(k.block g (lt_of_block h)).trans h
def zgP (N:Nat):List Value:=List.replicate N (.int .i64 0)
theorem zju (n:Int) (h0:0≤n) (h1:n≤65536) (w:World):
  (Instr.makeSlice 122 (.int .i64 n) (.int .i64 n)).run Tryz.prog w=.ok (.slice (some ⟨w.heap.size,0,none⟩) n.toNat n.toNat) (w.alloc (.cells (zgP n.toNat).toArray 3)):=by
 obtain ⟨N,rfl⟩:∃N:Nat,n=(N:Int):=⟨n.toNat,by omega⟩
 have hb:Tryz.t3.bytes=8:=rfl;rw [Go.run_make w 122 3 Tryz.t3 (.int .i64 0) Tryz.underlying122 (by kernel_rfl) rfl .i64 .i64 N N (by omega) (by omega) (by rw [hb];omega) (by omega)];have e1:madeCells (Value.cells (.int .i64 0)) (N*Tryz.t3.size)=(zgP N).toArray:=by
  rw [show Tryz.t3.size=1 from rfl,Nat.mul_one];apply Array.toList_inj.1;show (madeCells #[.int .i64 0] N).toList=_;rw [toList_madeCells_one];rfl
 simp only [Int.toNat_natCast,e1]
def OnlyE (E:Nat→Prop) (w w':World):Prop:=w'.os=w.os∧w'.tape=w.tape∧w'.output=w.output∧w.heap.size≤w'.heap.size∧∀k,k<w.heap.size→¬E k→w'.heap[k]? = w.heap[k]?
theorem OnlyE.of {E:Nat→Prop} {w w':World} (h:Below w.heap.size w w'):OnlyE E w w':=⟨h.os,h.tape,h.output,h.size,fun k hk _=>h.block k hk⟩
theorem OnlyE.size {E:Nat→Prop} {w w':World} (h:OnlyE E w w'):w.heap.size≤w'.heap.size:=h.2.2.2.1
theorem OnlyE.block {E:Nat→Prop} {w w':World} (h:OnlyE E w w') (k:Nat) (hk:k<w.heap.size) (hb:¬E k):w'.heap[k]? = w.heap[k]? :=h.2.2.2.2 k hk hb
theorem OnlyE.trans {E:Nat→Prop} {w1 w2 w3:World} (h:OnlyE E w1 w2) (k:OnlyE E w2 w3):OnlyE E w1 w3:=
 ⟨k.1.trans h.1,k.2.1.trans h.2.1,k.2.2.1.trans h.2.2.1,Nat.le_trans h.size k.size,fun i hi hb=>(k.block i (Nat.lt_of_lt_of_le hi h.size) hb).trans (h.block i hi hb)⟩
theorem OnlyE.obj {E:Nat→Prop} {c:Nat} {w w':World} {o:Obj} (h:OnlyE E w w') (k:w.heap[c]? = some o) (hc:¬E c):w'.heap[c]? = some o:=(h.block c (lt_of_block k) hc).trans k
theorem OnlyE.setRow {E:Nat→Prop} {w w':World} (h:OnlyE E w w') (g:Nat) (hg:w.heap.size≤g) (cs:Array Value):OnlyE E w (w'.setRow g cs):=
 ⟨h.1,h.2.1,h.2.2.1,by have:=h.size;simp [World.setRow];omega,fun i hi hb=>(setRow_other w' g i cs (by omega)).trans (h.block i hi hb)⟩
theorem OnlyE.set {E:Nat→Prop} {w w':World} (h:OnlyE E w w') (b o:Nat) (v:Value) (hb:E b):OnlyE E w (w'.setCell ⟨b,o,none⟩ v):=
 ⟨h.1,h.2.1,h.2.2.1,by have:=h.size;simpa [World.setCell] using this,fun k hk hE=>(Below.heap_setCell _ _ _ _ fun e=>hE (by rw [e];exact hb)).trans (h.block k hk hE)⟩
theorem OnlyE.below {E:Nat→Prop} {B:Nat} {w w':World} (h:OnlyE E w w') (hE:∀k,E k→B≤k) (hB:B≤w.heap.size):Below B w w':=
 ⟨h.1,h.2.1,h.2.2.1,h.size,fun k hk=>h.block k (Nat.lt_of_lt_of_le hk hB) fun e=>by have:=hE k e;omega⟩
def rowR (d:Nat) (wr rd st lo bu:Int):Array Value:=#[.slice (some ⟨d,0,none⟩) 32768 32768,.int .i64 wr,.int .i64 rd,.int .i64 st,.int .i64 lo,.int .i64 bu]
def HasR (w:World) (c d:Nat) (f:Nat→Int) (wr rd st lo bu:Int):Prop:=w.heap[c]? = some (.cells (rowR d wr rd st lo bu) 224 (0,0))∧HasRow w d (zcK f)∧c≠d
theorem HasR.next {w:World} {c d:Nat} {f:Nat→Int} {wr rd st lo bu:Int} (h:HasR w c d f wr rd st lo bu) {w':World} (k:Below w.heap.size w w'):HasR w' c d f wr rd st lo bu:=⟨(k.block c (lt_of_block h.1)).trans h.1,h.2.1.next k,h.2.2⟩
theorem zks:zgP 32768=zcK (fun _=>0):=by
 unfold zgP zcK;rw [List.map_const',List.length_range]
theorem zrr (w:World):Calls Tryz.prog 121 #[] w fun e w'=>e=.returned (.pointer (some ⟨w.heap.size+1,0,none⟩))∧HasR w' (w.heap.size+1) w.heap.size (fun _=>0) 0 0 1 0 0∧Below w.heap.size w w':=by
 have hm:=zju 32768 (by omega) (by omega);rw [show (32768:Int).toNat=32768 from rfl] at hm;obtain ⟨Z,hZ⟩:∃Z,zgP 32768=Z:=⟨_,rfl⟩
 rw [hZ] at hm;have HZ:=hide hZ;clear hZ;go_enter Tryz.func121,Tryz.ntmps121;go_wp2;go_ret;refine ⟨rfl,⟨heap_alloc2_new _ _ _,?_,by omega⟩,((Below.refl _ w).alloc (Nat.le_refl _) _).alloc (by simp) _⟩;rw [←zks,HZ.out];exact (Below.heap_alloc _ _ _ (by simp)).trans (heap_alloc_new _ _)
end Go.Proofs.YtoijhhbiknhlnaaGreatDoor.W13
