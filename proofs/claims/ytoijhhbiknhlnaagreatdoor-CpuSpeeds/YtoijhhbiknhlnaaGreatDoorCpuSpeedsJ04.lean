/- Texts without a word of the program, one behind the other. -/
import Derived.Test.YtoijhhbiknhlnaaGreatDoorCpuSpeedsJ01
import Derived.Test.YtoijhhbiknhlnaaGreatDoorCpuSpeedsJ02
import Derived.Laws.StructEq
import Derived.Laws.Rows
import Derived.Laws.Tables
import Derived.Laws.ResultCell
import Derived.Laws.CopyOwn
import Derived.Deep.Quiet
import Derived.Deep.MidRow
import Derived.BigFrame
import Derived.WalkMore
import Derived.OneCell
import Derived.Handy
namespace Go.Proofs.YtoijhhbiknhlnaaGreatDoor.R15
set_option maxRecDepth 20000
def andW (n m:Int):Int:=(((n%65536).toNat &&& m.toNat:Nat):Int)
def zxK (m:Int):Prop:=0≤m∧m<65536
def zuy (n b:Int):Int:=b%256+256*(n/256%256)
def znW (n b:Int):Int:=n%256+256*(b%256)
def zxL:List Int:=[65535,65535,65535,0,0,8191,1023,1023,511,255,32543,32639,65311,511,255,31,65535,65535,65535,65535]
def mk (k:Nat):Int:=zxL.getD k 0
theorem zxM:∀k:Fin 20,0≤mk k.val∧mk k.val<65536∧andW (znW (andW (zuy 0 255) (mk k.val)) 255) (mk k.val)=mk k.val:=by decide +kernel
theorem zuz (k:Nat):zxK (mk k):=by
 by_cases h:k<20
 ·have:=zxM ⟨k,h⟩;exact ⟨this.1,this.2.1⟩
 ·have e:mk k=0:=by
   unfold mk;rw [List.getD_eq_getElem?_getD,List.getElem?_eq_none (by simp [zxL];omega)];rfl
  rw [e];exact ⟨by decide,by decide⟩
open Go.RowKit
set_option linter.unusedVariables false
def rowG (s:Int) (f:Nat→Int):Array Value:=(.int .i64 s::(List.range 20).map fun j=>Value.int .i64 (f j)).toArray
theorem rowG_size (s:Int) (f:Nat→Int):(rowG s f).size=21:=by simp [rowG]
theorem rowG_0 (s:Int) (f:Nat→Int):(rowG s f)[0]? = some (.int .i64 s):=by simp [rowG]
theorem rowG_at (s:Int) (f:Nat→Int) (j:Nat) (h:j<20):(rowG s f)[1+j]? = some (.int .i64 (f j)):=by
 rw [show 1+j=j+1 by omega];simp [rowG,h]
def HasG (T:TypeId) (w:World) (b:Nat) (s:Int) (f:Nat→Int):Prop:=w.heap[b]? = some (.cells (rowG s f) T (0,0))
theorem HasG.next {T:TypeId} {w w':World} {b:Nat} {s:Int} {f:Nat→Int} (h:HasG T w b s f) (k:Below w.heap.size w w'):HasG T w' b s f:=(k.block b (lt_of_block h)).trans h
theorem HasG.alloc {T:TypeId} {w:World} {b:Nat} {s:Int} {f:Nat→Int} (h:HasG T w b s f) (x:Obj):HasG T (w.alloc x) b s f:=h.next ((Below.refl _ w).alloc (Nat.le_refl _) _)
theorem zdb (T:TypeId) (w:World) (s:Int) (f:Nat→Int):HasG T (w.alloc (.cells (rowG s f) T)) w.heap.size s f:=heap_alloc_new _ _
theorem HasG.lt {T:TypeId} {w:World} {b:Nat} {s:Int} {f:Nat→Int} (h:HasG T w b s f):b<w.heap.size:=lt_of_block h
theorem HasG.c0 {T:TypeId} {w:World} {b:Nat} {s:Int} {f:Nat→Int} (h:HasG T w b s f):w.cell? ⟨b,0,none⟩=some (.int .i64 s):=(cell_of_row w b 0 _ _ _ h).trans (rowG_0 s f)
theorem HasG.at {T:TypeId} {w:World} {b:Nat} {s:Int} {f:Nat→Int} (h:HasG T w b s f) (j:Nat) (hj:j<20):w.cell? ⟨b,1+j,none⟩=some (.int .i64 (f j)):=(cell_of_row w b (1+j) _ _ _ h).trans (rowG_at s f j hj)
theorem HasG.frozen {T:TypeId} {w:World} {b:Nat} {s:Int} {f:Nat→Int} (h:HasG T w b s f) (j:Nat):w.frozen? ⟨b,j,none⟩=false:=frozen_of_row w b j _ _ h
def upd (f:Nat→Int) (i:Nat) (v:Int):Nat→Int:=fun j=>if j=i then v else f j
theorem znX (s x:Int) (f:Nat→Int):(rowG s f).setIfInBounds 0 (.int .i64 x)=rowG x f:=by
 unfold rowG;rw [List.setIfInBounds_toArray];rfl
theorem map_set (N i:Nat) (x:Int) (f:Nat→Int):((List.range N).map fun j=>Value.int .i64 (f j)).set i (.int .i64 x)=(List.range N).map fun j=>Value.int .i64 (upd f i x j):=by
 apply List.ext_getElem?;intro j;rw [List.getElem?_set];simp only [List.getElem?_map,List.length_map,List.length_range]
 by_cases h:i=j
 ·subst h
  by_cases k:i<N
  ·simp [k,upd]
  ·simp [k]
 ·rw [if_neg h]
  by_cases k:j<N
  ·simp [k,upd,show ¬j=i from fun e=>h e.symm]
  ·simp [k]
theorem zri (s x:Int) (f:Nat→Int) (i:Nat):(rowG s f).setIfInBounds (1+i) (.int .i64 x)=rowG s (upd f i x):=by
 unfold rowG;rw [List.setIfInBounds_toArray,show 1+i=i+1 by omega,List.set_cons_succ,map_set]
theorem zdt (s:Int) (f:Nat→Int):(rowG s f).all (·.oneCell')=true:=by
 unfold rowG;rw [←Array.all_toList];simp [Value.oneCell']
theorem HasG.set {T:TypeId} {w:World} {b:Nat} {s:Int} {f:Nat→Int} (h:HasG T w b s f) (i:Nat) (x:Int):HasG T (w.setCell ⟨b,1+i,none⟩ (.int .i64 x)) b s (upd f i x):=by
 have k:=heap_setCell_same w b (1+i) _ _ (.int .i64 x) h;rw [zri] at k;exact k
theorem zrj:(#[.int .i64 0,.int .i64 0,.int .i64 0,.int .i64 0,.int .i64 0,.int .i64 0,.int .i64 0,.int .i64 0,.int .i64 0,.int .i64 0,.int .i64 0,.int .i64 0,.int .i64 0,.int .i64 0,.int .i64 0,.int .i64 0,.int .i64 0,.int .i64 0,.int .i64 0,.int .i64 0,.int .i64 0]:Array Value)=rowG 0 (fun _=>0):=rfl
theorem zbZ (s:Int) (f:Nat→Int):(Tryz.prog.info? 27).map (·.size)=some (rowG s f).size:=by
 rw [rowG_size]
 kernel_rfl
def zrk (f:Nat→Int):List Int:=(List.range 20).map f
theorem size_int (w:World):(sizeOf 3).run Tryz.prog w=.ok 1 w:=by
 have h:(Tryz.prog.info? 3).map (·.size)=some 1:=by kernel_rfl
 cases hq:Tryz.prog.info? 3 with
 |none=>rw [hq] at h;cases h
 |some i=>
  rw [hq] at h;have:i.size=1:=by simpa using h
  simp [sizeOf,typeInfo,hq,this]
theorem wpList_load_want {P:Program} {ops:Array Oper} {rest:List Oper} {o:Oper} {a:Act} {w:World} {Q:Exit→Act→World→Prop} (hw:Region.wanted o (yielded ops a.tmps)=true) (ty:TypeId) (x:Operand) (ho:o.op=.load ty x)
  (g:Nat) (hx:a.eval x=.pointer (some ⟨g,0,none⟩)) (t:TypeId) (cs:Array Value) (fr:Nat×Nat) (d:TypeDesc) (hg:w.heap[g]? = some (.cells cs t fr))
  (hu:P.underlying ty=some d) (hd:(match d with|.struct _|.array _ _=>true|_=>false)=true) (hi:(P.info? ty).map (·.size)=some cs.size)
  (h:wpList P ops Q rest (a.put o.dst (.agg cs)) w):wpList P ops Q (o::rest) a w:=
 BigFrame.wpList_want hw fun _ hK=>wp_load_row ty x ho g hx t cs fr d hg hu hd hi (hK _ _ h)
theorem wpQuiet_row {P:Program} {ops:Array Oper} {C:World→Prop} {Q:Act→Prop} {a:Act} {o:Oper} {rest:List Oper} (hw:Region.wanted o (yielded ops a.tmps)=true) (ty:TypeId) (x:Operand) (ho:o.op=.load ty x)
  (g:Nat) (hx:a.eval x=.pointer (some ⟨g,0,none⟩)) (t:TypeId) (cs:Array Value) (fr:Nat×Nat) (d:TypeDesc) (hg:∀w,C w→w.heap[g]? = some (.cells cs t fr))
  (hu:P.underlying ty=some d) (hd:(match d with|.struct _|.array _ _=>true|_=>false)=true) (hi:(P.info? ty).map (·.size)=some cs.size)
  (h:wpQuiet P ops C Q rest (a.put o.dst (.agg cs))):wpQuiet P ops C Q (o::rest) a:=by
 unfold wpQuiet;rw [if_pos hw];refine ⟨.agg cs,fun w hC=>?_,h⟩;unfold Oper.quietAt execOp;simp only [ho,hx,Instr.loadAt,Instr.sureAddr,Sem.run_bind,Sem.run_pure,Result.andThen_ok,run_loadVar_row w g t ty cs fr d (hg w hC) hu hd hi];exact ⟨rfl,rfl⟩
theorem tab_index (f:Nat→Int) (k:Nat) (hk:k<20) (w:World):(Instr.index 25 (.agg ((zrk f).map (Value.int .i64)).toArray) (.int .i64 (k:Int))).run Tryz.prog w=.ok (.int .i64 (f k)) w:=by
 have e:((zrk f).map (Value.int .i64)).toArray[k]? = some (.int .i64 (f k)):=by simp [zrk,hk]
 have h0:(0:Int)≤k∧(k:Int)<((20:Nat):Int):=by omega
 have h1:(k:Int)<20:=by omega
 have hs:=size_int w;generalize ((zrk f).map (Value.int .i64)).toArray=cs at e ⊢;simp only [Instr.index,asIntOf,part];simp only [run_underlying Tryz.underlying25,Sem.run_bind,Result.andThen];simp [h0,h1,hs,e,isAgg,run_underlying Tryz.underlying3,Result.andThen]
def zeh:Array Value:=(zxL.map (Value.int .i64)).toArray
def HasMask (w:World):Prop:=∃t fr,w.heap[7]? = some (.cells zeh t fr)
theorem HasMask.pos {w:World} (h:HasMask w):7<w.heap.size:=by
 obtain ⟨t,fr,e⟩:=h;exact lt_of_block e
theorem HasMask.next {w w':World} (h:HasMask w) (b:Below w.heap.size w w'):HasMask w':=by
 have k:=h.pos;obtain ⟨t,fr,e⟩:=h;exact ⟨t,fr,(b.block 7 k).trans e⟩
theorem znY:∀k:Fin 20,zxL[k.val]? = some (mk k.val):=by decide +kernel
theorem HasMask.at {w:World} (h:HasMask w) (k:Nat) (hk:k<20):w.cell? ⟨7,k,none⟩=some (.int .i64 (mk k)):=by
 obtain ⟨t,fr,e⟩:=h;rw [cell_of_row w 7 k _ _ _ e];have:=znY ⟨k,hk⟩;simp only at this;simp [zeh,this]
def halfOf (n a b:Int):Int:=if a=2 then zuy n b else znW n b
theorem zrl (n a b x:Int) (hx:halfOf n a b=x) (w:World):Calls Tryz.prog 172 #[.int .i64 n,.int .i64 a,.int .i64 b] w fun e w'=>e=.returned (.int .i64 x)∧Below w.heap.size w w':=by
 unfold halfOf zuy znW at hx;have HX:=hide hx;clear hx
 by_cases h:a=2
 ·have HH:=hide h;go_enter Tryz.func172,Tryz.ntmps172;go_wp2_with (first|(go_at_call 85;refine (zbo _ _).mono ?_;rintro e w' ⟨rfl,hw⟩;subst w')|(go_at_call 90;refine (zbY _ _ _).mono ?_;rintro e w' ⟨rfl,bw⟩));go_ret;exact ⟨zay (by rw [←HX.out,if_pos HH.out]),bw⟩
 ·have HH:=hide h;go_enter Tryz.func172,Tryz.ntmps172;go_wp2_with (first|(go_at_call 85;refine (zbo _ _).mono ?_;rintro e w' ⟨rfl,hw⟩;subst w')|(go_at_call 90;refine (zbY _ _ _).mono ?_;rintro e w' ⟨rfl,bw⟩));go_ret;exact ⟨zay (by rw [←HX.out,if_neg HH.out]),bw⟩
def bringsOf (s a:Int):Int:=if s=0 then 1 else if a=2 then (if s=2 then 3 else 0) else if s=1 then 2 else if s=2 then 4 else if s=5 then 5 else if s=18 then 6 else if s=19 then 7 else 0
theorem zmo (s a x:Int) (hx:bringsOf s a=x) (w:World):Calls Tryz.prog 173 #[.int .i64 s,.int .i64 a] w fun e w'=>e=.returned (.int .i64 x)∧w'=w:=by
 unfold bringsOf at hx;have HX:=hide hx;clear hx
 by_cases h0:s=0
 ·rw [if_pos h0] at HX;subst h0;go_enter Tryz.func173,Tryz.ntmps173;go_wp2;go_ret;exact ⟨zay HX.out,rfl⟩
 ·rw [if_neg h0] at HX
  by_cases ha:a=2
  ·rw [if_pos ha] at HX;subst ha
   by_cases h2:s=2
   ·rw [if_pos h2] at HX;subst h2;go_enter Tryz.func173,Tryz.ntmps173;go_wp2;go_ret;exact ⟨zay HX.out,rfl⟩
   ·rw [if_neg h2] at HX;go_enter Tryz.func173,Tryz.ntmps173;go_wp2;go_ret;exact ⟨zay HX.out,rfl⟩
  ·rw [if_neg ha] at HX;have ha2:(a==2)=false:=by simpa using ha
   by_cases h1:s=1
   ·subst h1;go_enter Tryz.func173,Tryz.ntmps173;go_wp2;go_ret;exact ⟨zay HX.out,rfl⟩
   ·by_cases h2:s=2
    ·subst h2;go_enter Tryz.func173,Tryz.ntmps173;go_wp2;go_ret;exact ⟨zay HX.out,rfl⟩
    ·by_cases h5:s=5
     ·subst h5;go_enter Tryz.func173,Tryz.ntmps173;go_wp2;go_ret;exact ⟨zay HX.out,rfl⟩
     ·by_cases h8:s=18
      ·subst h8;go_enter Tryz.func173,Tryz.ntmps173;go_wp2;go_ret;exact ⟨zay HX.out,rfl⟩
      ·by_cases h9:s=19
       ·subst h9;go_enter Tryz.func173,Tryz.ntmps173;go_wp2;go_ret;exact ⟨zay HX.out,rfl⟩
       ·rw [if_neg h1,if_neg h2,if_neg h5,if_neg h8,if_neg h9] at HX;go_enter Tryz.func173,Tryz.ntmps173;go_wp2;go_ret;exact ⟨zay HX.out,rfl⟩
theorem and_31 (n:Int):bits .and .i64 n 31=n%32:=zbM 5 (by decide) n
theorem write_sel (s b x:Int) (f:Nat→Int) (hx:b%32=x) (w:World):Calls Tryz.prog 143 #[.agg (rowG s f),.int .i64 0,.int .i64 b] w fun e w'=>e=.returned (.tuple #[.agg (rowG x f),.int .i64 0])∧Below w.heap.size w w':=by
 have e5:=and_31 b;rw [hx] at e5;clear hx;have V0:=(zdb 27 w s f).alloc (.cells #[.int .i64 0,.int .i64 0,.int .i64 0,.int .i64 0,.int .i64 0,.int .i64 0,.int .i64 0,.int .i64 0,.int .i64 0,.int .i64 0,.int .i64 0,.int .i64 0,.int .i64 0,.int .i64 0,.int .i64 0,.int .i64 0,.int .i64 0,.int .i64 0,.int .i64 0,.int .i64 0,.int .i64 0] 27);have Z0:=heap_alloc2_new w (.cells (rowG s f) 27) (.cells #[.int .i64 0,.int .i64 0,.int .i64 0,.int .i64 0,.int .i64 0,.int .i64 0,.int .i64 0,.int .i64 0,.int .i64 0,.int .i64 0,.int .i64 0,.int .i64 0,.int .i64 0,.int .i64 0,.int .i64 0,.int .i64 0,.int .i64 0,.int .i64 0,.int .i64 0,.int .i64 0,.int .i64 0] 27);have B0:=((Below.refl _ w).alloc (Nat.le_refl _) (.cells (rowG s f) 27)).alloc (by simp) (.cells #[.int .i64 0,.int .i64 0,.int .i64 0,.int .i64 0,.int .i64 0,.int .i64 0,.int .i64 0,.int .i64 0,.int .i64 0,.int .i64 0,.int .i64 0,.int .i64 0,.int .i64 0,.int .i64 0,.int .i64 0,.int .i64 0,.int .i64 0,.int .i64 0,.int .i64 0,.int .i64 0,.int .i64 0] 27);have c0:=V0.c0;have z0:=V0.frozen 0;clear V0 Z0 B0;have hr:=znX s x f;have V1:=hide ((zdb 27 w x f).alloc (.cells #[.int .i64 0,.int .i64 0,.int .i64 0,.int .i64 0,.int .i64 0,.int .i64 0,.int .i64 0,.int .i64 0,.int .i64 0,.int .i64 0,.int .i64 0,.int .i64 0,.int .i64 0,.int .i64 0,.int .i64 0,.int .i64 0,.int .i64 0,.int .i64 0,.int .i64 0,.int .i64 0,.int .i64 0] 27));have Z1:=hide (heap_alloc2_new w (.cells (rowG x f) 27) (.cells #[.int .i64 0,.int .i64 0,.int .i64 0,.int .i64 0,.int .i64 0,.int .i64 0,.int .i64 0,.int .i64 0,.int .i64 0,.int .i64 0,.int .i64 0,.int .i64 0,.int .i64 0,.int .i64 0,.int .i64 0,.int .i64 0,.int .i64 0,.int .i64 0,.int .i64 0,.int .i64 0,.int .i64 0] 27));have B1:=hide (((Below.refl _ w).alloc (Nat.le_refl _) (.cells (rowG x f) 27)).alloc (by simp) (.cells #[.int .i64 0,.int .i64 0,.int .i64 0,.int .i64 0,.int .i64 0,.int .i64 0,.int .i64 0,.int .i64 0,.int .i64 0,.int .i64 0,.int .i64 0,.int .i64 0,.int .i64 0,.int .i64 0,.int .i64 0,.int .i64 0,.int .i64 0,.int .i64 0,.int .i64 0,.int .i64 0,.int .i64 0] 27));go_enter Tryz.func143,Tryz.ntmps143
 go_wp2_with (first
  |(refine wpList_load_row rfl 27 (.tmp 3) rfl w.heap.size rfl 27 _ (0,0) _ V1.out Tryz.underlying27 rfl (zbZ _ _) ?_)
  |(refine wpList_store_row rfl 27 (.tmp 6) (.tmp 14) rfl (w.heap.size+1) _ rfl rfl 27 _ Z1.out (zbZ _ _) (by rw [rowG_size];rfl) (zdt _ _) ?_)
  |(refine bodyPost_ret (zaH rfl _ _ (w.heap.size+1) 27 _ (0,0) _ rfl (setRow_heap _ _ _ _ _ _ Z1.out) Tryz.underlying27 rfl (zbZ _ _)) rfl ⟨rfl,below_setRow B1.out (Nat.le_succ _) _⟩))
theorem write_no (a s b:Int) (f:Nat→Int) (h:a≠0∧(a=2∨a=3→s<0∨20≤s)) (w:World):Calls Tryz.prog 143 #[.agg (rowG s f),.int .i64 a,.int .i64 b] w fun e w'=>e=.returned (.tuple #[.agg (rowG s f),.int .i64 0])∧Below w.heap.size w w':=by
 obtain ⟨h0,hs⟩:=h
 by_cases h2:a=2
 ·subst h2;rcases hs (.inl rfl) with k|k
  ·clear hs;have V0:=(zdb 27 w s f).alloc (.cells #[.int .i64 0,.int .i64 0,.int .i64 0,.int .i64 0,.int .i64 0,.int .i64 0,.int .i64 0,.int .i64 0,.int .i64 0,.int .i64 0,.int .i64 0,.int .i64 0,.int .i64 0,.int .i64 0,.int .i64 0,.int .i64 0,.int .i64 0,.int .i64 0,.int .i64 0,.int .i64 0,.int .i64 0] 27);have Z0:=heap_alloc2_new w (.cells (rowG s f) 27) (.cells #[.int .i64 0,.int .i64 0,.int .i64 0,.int .i64 0,.int .i64 0,.int .i64 0,.int .i64 0,.int .i64 0,.int .i64 0,.int .i64 0,.int .i64 0,.int .i64 0,.int .i64 0,.int .i64 0,.int .i64 0,.int .i64 0,.int .i64 0,.int .i64 0,.int .i64 0,.int .i64 0,.int .i64 0] 27);have B0:=((Below.refl _ w).alloc (Nat.le_refl _) (.cells (rowG s f) 27)).alloc (by simp) (.cells #[.int .i64 0,.int .i64 0,.int .i64 0,.int .i64 0,.int .i64 0,.int .i64 0,.int .i64 0,.int .i64 0,.int .i64 0,.int .i64 0,.int .i64 0,.int .i64 0,.int .i64 0,.int .i64 0,.int .i64 0,.int .i64 0,.int .i64 0,.int .i64 0,.int .i64 0,.int .i64 0,.int .i64 0] 27);have c0:=V0.c0;have z0:=V0.frozen 0;have V1:=hide V0;have Z1:=hide Z0;have B1:=hide B0;clear V0 Z0 B0;go_enter Tryz.func143,Tryz.ntmps143
   go_wp2_with (first
    |(refine wpList_load_row rfl 27 (.tmp 3) rfl w.heap.size rfl 27 _ (0,0) _ V1.out Tryz.underlying27 rfl (zbZ _ _) ?_)
    |(refine wpList_store_row rfl 27 (.tmp 6) (.tmp 48) rfl (w.heap.size+1) _ rfl rfl 27 _ Z1.out (zbZ _ _) (by rw [rowG_size];rfl) (zdt _ _) ?_)
    |(refine bodyPost_ret (zaH rfl _ _ (w.heap.size+1) 27 _ (0,0) _ rfl (setRow_heap _ _ _ _ _ _ Z1.out) Tryz.underlying27 rfl (zbZ _ _)) rfl ⟨rfl,below_setRow B1.out (Nat.le_succ _) _⟩))
  ·clear hs;have V0:=(zdb 27 w s f).alloc (.cells #[.int .i64 0,.int .i64 0,.int .i64 0,.int .i64 0,.int .i64 0,.int .i64 0,.int .i64 0,.int .i64 0,.int .i64 0,.int .i64 0,.int .i64 0,.int .i64 0,.int .i64 0,.int .i64 0,.int .i64 0,.int .i64 0,.int .i64 0,.int .i64 0,.int .i64 0,.int .i64 0,.int .i64 0] 27);have Z0:=heap_alloc2_new w (.cells (rowG s f) 27) (.cells #[.int .i64 0,.int .i64 0,.int .i64 0,.int .i64 0,.int .i64 0,.int .i64 0,.int .i64 0,.int .i64 0,.int .i64 0,.int .i64 0,.int .i64 0,.int .i64 0,.int .i64 0,.int .i64 0,.int .i64 0,.int .i64 0,.int .i64 0,.int .i64 0,.int .i64 0,.int .i64 0,.int .i64 0] 27);have B0:=((Below.refl _ w).alloc (Nat.le_refl _) (.cells (rowG s f) 27)).alloc (by simp) (.cells #[.int .i64 0,.int .i64 0,.int .i64 0,.int .i64 0,.int .i64 0,.int .i64 0,.int .i64 0,.int .i64 0,.int .i64 0,.int .i64 0,.int .i64 0,.int .i64 0,.int .i64 0,.int .i64 0,.int .i64 0,.int .i64 0,.int .i64 0,.int .i64 0,.int .i64 0,.int .i64 0,.int .i64 0] 27);have c0:=V0.c0;have z0:=V0.frozen 0;have V1:=hide V0;have Z1:=hide Z0;have B1:=hide B0;clear V0 Z0 B0;go_enter Tryz.func143,Tryz.ntmps143
   go_wp2_with (first
    |(refine wpList_load_row rfl 27 (.tmp 3) rfl w.heap.size rfl 27 _ (0,0) _ V1.out Tryz.underlying27 rfl (zbZ _ _) ?_)
    |(refine wpList_store_row rfl 27 (.tmp 6) (.tmp 48) rfl (w.heap.size+1) _ rfl rfl 27 _ Z1.out (zbZ _ _) (by rw [rowG_size];rfl) (zdt _ _) ?_)
    |(refine bodyPost_ret (zaH rfl _ _ (w.heap.size+1) 27 _ (0,0) _ rfl (setRow_heap _ _ _ _ _ _ Z1.out) Tryz.underlying27 rfl (zbZ _ _)) rfl ⟨rfl,below_setRow B1.out (Nat.le_succ _) _⟩))
 ·by_cases h3:a=3
  ·subst h3;rcases hs (.inr rfl) with k|k
   ·clear hs;have V0:=(zdb 27 w s f).alloc (.cells #[.int .i64 0,.int .i64 0,.int .i64 0,.int .i64 0,.int .i64 0,.int .i64 0,.int .i64 0,.int .i64 0,.int .i64 0,.int .i64 0,.int .i64 0,.int .i64 0,.int .i64 0,.int .i64 0,.int .i64 0,.int .i64 0,.int .i64 0,.int .i64 0,.int .i64 0,.int .i64 0,.int .i64 0] 27);have Z0:=heap_alloc2_new w (.cells (rowG s f) 27) (.cells #[.int .i64 0,.int .i64 0,.int .i64 0,.int .i64 0,.int .i64 0,.int .i64 0,.int .i64 0,.int .i64 0,.int .i64 0,.int .i64 0,.int .i64 0,.int .i64 0,.int .i64 0,.int .i64 0,.int .i64 0,.int .i64 0,.int .i64 0,.int .i64 0,.int .i64 0,.int .i64 0,.int .i64 0] 27);have B0:=((Below.refl _ w).alloc (Nat.le_refl _) (.cells (rowG s f) 27)).alloc (by simp) (.cells #[.int .i64 0,.int .i64 0,.int .i64 0,.int .i64 0,.int .i64 0,.int .i64 0,.int .i64 0,.int .i64 0,.int .i64 0,.int .i64 0,.int .i64 0,.int .i64 0,.int .i64 0,.int .i64 0,.int .i64 0,.int .i64 0,.int .i64 0,.int .i64 0,.int .i64 0,.int .i64 0,.int .i64 0] 27);have c0:=V0.c0;have z0:=V0.frozen 0;have V1:=hide V0;have Z1:=hide Z0;have B1:=hide B0;clear V0 Z0 B0;go_enter Tryz.func143,Tryz.ntmps143
    go_wp2_with (first
     |(refine wpList_load_row rfl 27 (.tmp 3) rfl w.heap.size rfl 27 _ (0,0) _ V1.out Tryz.underlying27 rfl (zbZ _ _) ?_)
     |(refine wpList_store_row rfl 27 (.tmp 6) (.tmp 48) rfl (w.heap.size+1) _ rfl rfl 27 _ Z1.out (zbZ _ _) (by rw [rowG_size];rfl) (zdt _ _) ?_)
     |(refine bodyPost_ret (zaH rfl _ _ (w.heap.size+1) 27 _ (0,0) _ rfl (setRow_heap _ _ _ _ _ _ Z1.out) Tryz.underlying27 rfl (zbZ _ _)) rfl ⟨rfl,below_setRow B1.out (Nat.le_succ _) _⟩))
   ·clear hs;have V0:=(zdb 27 w s f).alloc (.cells #[.int .i64 0,.int .i64 0,.int .i64 0,.int .i64 0,.int .i64 0,.int .i64 0,.int .i64 0,.int .i64 0,.int .i64 0,.int .i64 0,.int .i64 0,.int .i64 0,.int .i64 0,.int .i64 0,.int .i64 0,.int .i64 0,.int .i64 0,.int .i64 0,.int .i64 0,.int .i64 0,.int .i64 0] 27);have Z0:=heap_alloc2_new w (.cells (rowG s f) 27) (.cells #[.int .i64 0,.int .i64 0,.int .i64 0,.int .i64 0,.int .i64 0,.int .i64 0,.int .i64 0,.int .i64 0,.int .i64 0,.int .i64 0,.int .i64 0,.int .i64 0,.int .i64 0,.int .i64 0,.int .i64 0,.int .i64 0,.int .i64 0,.int .i64 0,.int .i64 0,.int .i64 0,.int .i64 0] 27);have B0:=((Below.refl _ w).alloc (Nat.le_refl _) (.cells (rowG s f) 27)).alloc (by simp) (.cells #[.int .i64 0,.int .i64 0,.int .i64 0,.int .i64 0,.int .i64 0,.int .i64 0,.int .i64 0,.int .i64 0,.int .i64 0,.int .i64 0,.int .i64 0,.int .i64 0,.int .i64 0,.int .i64 0,.int .i64 0,.int .i64 0,.int .i64 0,.int .i64 0,.int .i64 0,.int .i64 0,.int .i64 0] 27);have c0:=V0.c0;have z0:=V0.frozen 0;have V1:=hide V0;have Z1:=hide Z0;have B1:=hide B0;clear V0 Z0 B0;go_enter Tryz.func143,Tryz.ntmps143
    go_wp2_with (first
     |(refine wpList_load_row rfl 27 (.tmp 3) rfl w.heap.size rfl 27 _ (0,0) _ V1.out Tryz.underlying27 rfl (zbZ _ _) ?_)
     |(refine wpList_store_row rfl 27 (.tmp 6) (.tmp 48) rfl (w.heap.size+1) _ rfl rfl 27 _ Z1.out (zbZ _ _) (by rw [rowG_size];rfl) (zdt _ _) ?_)
     |(refine bodyPost_ret (zaH rfl _ _ (w.heap.size+1) 27 _ (0,0) _ rfl (setRow_heap _ _ _ _ _ _ Z1.out) Tryz.underlying27 rfl (zbZ _ _)) rfl ⟨rfl,below_setRow B1.out (Nat.le_succ _) _⟩))
  ·clear hs;have V0:=(zdb 27 w s f).alloc (.cells #[.int .i64 0,.int .i64 0,.int .i64 0,.int .i64 0,.int .i64 0,.int .i64 0,.int .i64 0,.int .i64 0,.int .i64 0,.int .i64 0,.int .i64 0,.int .i64 0,.int .i64 0,.int .i64 0,.int .i64 0,.int .i64 0,.int .i64 0,.int .i64 0,.int .i64 0,.int .i64 0,.int .i64 0] 27);have Z0:=heap_alloc2_new w (.cells (rowG s f) 27) (.cells #[.int .i64 0,.int .i64 0,.int .i64 0,.int .i64 0,.int .i64 0,.int .i64 0,.int .i64 0,.int .i64 0,.int .i64 0,.int .i64 0,.int .i64 0,.int .i64 0,.int .i64 0,.int .i64 0,.int .i64 0,.int .i64 0,.int .i64 0,.int .i64 0,.int .i64 0,.int .i64 0,.int .i64 0] 27);have B0:=((Below.refl _ w).alloc (Nat.le_refl _) (.cells (rowG s f) 27)).alloc (by simp) (.cells #[.int .i64 0,.int .i64 0,.int .i64 0,.int .i64 0,.int .i64 0,.int .i64 0,.int .i64 0,.int .i64 0,.int .i64 0,.int .i64 0,.int .i64 0,.int .i64 0,.int .i64 0,.int .i64 0,.int .i64 0,.int .i64 0,.int .i64 0,.int .i64 0,.int .i64 0,.int .i64 0,.int .i64 0] 27);have c0:=V0.c0;have z0:=V0.frozen 0;have V1:=hide V0;have Z1:=hide Z0;have B1:=hide B0;clear V0 Z0 B0;go_enter Tryz.func143,Tryz.ntmps143
   go_wp2_with (first
    |(refine wpList_load_row rfl 27 (.tmp 3) rfl w.heap.size rfl 27 _ (0,0) _ V1.out Tryz.underlying27 rfl (zbZ _ _) ?_)
    |(refine wpList_store_row rfl 27 (.tmp 6) (.tmp 48) rfl (w.heap.size+1) _ rfl rfl 27 _ Z1.out (zbZ _ _) (by rw [rowG_size];rfl) (zdt _ _) ?_)
    |(refine bodyPost_ret (zaH rfl _ _ (w.heap.size+1) 27 _ (0,0) _ rfl (setRow_heap _ _ _ _ _ _ Z1.out) Tryz.underlying27 rfl (zbZ _ _)) rfl ⟨rfl,below_setRow B1.out (Nat.le_succ _) _⟩))
theorem write_at (i:Nat) (hi:i<20) (a b h m y x:Int) (f:Nat→Int) (ha:a=2∨a=3) (hh:halfOf (f i) a b=h) (hm:mk i=m) (hy:bits .and .i64 h m=y) (hx:bringsOf (i:Int) a=x) (w:World) (hM:HasMask w):
  Calls Tryz.prog 143 #[.agg (rowG (i:Int) f),.int .i64 a,.int .i64 b] w fun e w'=>e=.returned (.tuple #[.agg (rowG (i:Int) (upd f i y)),.int .i64 x])∧Below w.heap.size w w':=by
 have CH:=hide (zrl (f i) a b h hh);have CB:=hide (zmo (i:Int) a x hx);clear hh hx;have V0:=(zdb 27 w (i:Int) f).alloc (.cells #[.int .i64 0,.int .i64 0,.int .i64 0,.int .i64 0,.int .i64 0,.int .i64 0,.int .i64 0,.int .i64 0,.int .i64 0,.int .i64 0,.int .i64 0,.int .i64 0,.int .i64 0,.int .i64 0,.int .i64 0,.int .i64 0,.int .i64 0,.int .i64 0,.int .i64 0,.int .i64 0,.int .i64 0] 27);have Z0:=heap_alloc2_new w (.cells (rowG (i:Int) f) 27) (.cells #[.int .i64 0,.int .i64 0,.int .i64 0,.int .i64 0,.int .i64 0,.int .i64 0,.int .i64 0,.int .i64 0,.int .i64 0,.int .i64 0,.int .i64 0,.int .i64 0,.int .i64 0,.int .i64 0,.int .i64 0,.int .i64 0,.int .i64 0,.int .i64 0,.int .i64 0,.int .i64 0,.int .i64 0] 27);have B0:=((Below.refl _ w).alloc (Nat.le_refl _) (.cells (rowG (i:Int) f) 27)).alloc (by simp) (.cells #[.int .i64 0,.int .i64 0,.int .i64 0,.int .i64 0,.int .i64 0,.int .i64 0,.int .i64 0,.int .i64 0,.int .i64 0,.int .i64 0,.int .i64 0,.int .i64 0,.int .i64 0,.int .i64 0,.int .i64 0,.int .i64 0,.int .i64 0,.int .i64 0,.int .i64 0,.int .i64 0,.int .i64 0] 27);have M0:=hM.next B0;have c0:=V0.c0;rcases ha with rfl|rfl
 ·go_enter Tryz.func143,Tryz.ntmps143;go_wp2_with fail;obtain ⟨wr,hwr⟩:∃wr,wr=(w.alloc (.cells (rowG (i:Int) f) 27)).alloc (.cells #[.int .i64 0,.int .i64 0,.int .i64 0,.int .i64 0,.int .i64 0,.int .i64 0,.int .i64 0,.int .i64 0,.int .i64 0,.int .i64 0,.int .i64 0,.int .i64 0,.int .i64 0,.int .i64 0,.int .i64 0,.int .i64 0,.int .i64 0,.int .i64 0,.int .i64 0,.int .i64 0,.int .i64 0] 27):=⟨_,rfl⟩
  rw [←hwr] at V0 Z0 B0 M0 c0 ⊢;clear hwr;have k0:=zac c0 V0.lt;have ki:=zac (V0.at i hi) V0.lt;have km:=zac (M0.at i hi) M0.pos;rw [hm] at km;have V:=hide V0;have Z:=hide Z0;have B:=hide B0;clear V0 Z0 B0 M0 c0 hM;haveI:=zal wr;refine zau _ _ (show _=[_,_,_,_,_,_,_,_,_,_,_,_,_,_,_,_,_]++[_] from rfl) (by kernel_rfl) (by kernel_rfl) (by kernel_rfl) ?_
  repeat (go_big_quiet_step ((go_at_call 172;exact zaU (CH.out _))))
  refine wpQuiet_nil ?_;rintro _ ⟨wk,rfl⟩;have VK:=V.out.next wk.below;have ZK:=(wk.block (w.heap.size+1) (lt_of_block Z.out)).trans Z.out;have BK:=zar B.out wk.below;have ci:=VK.at i hi;have zi:=VK.frozen (1+i);have V1:=hide (VK.set i y);have Z1:=hide ((heap_setCell_other _ ⟨w.heap.size,1+i,none⟩ (w.heap.size+1) (.int .i64 y) (by simp)).trans ZK);have B1:=hide (BK.setCell (p:=⟨w.heap.size,1+i,none⟩) (Nat.le_refl _) (.int .i64 y));clear VK ZK BK V Z B k0 ki km CH;go_wp2_with fail;obtain ⟨wt,hwt⟩:∃wt,wt=wk.val.setCell ⟨w.heap.size,1+i,none⟩ (.int .i64 y):=⟨_,rfl⟩
  rw [←hwt] at V1 Z1 B1 ⊢;clear hwt ci zi;have k0:=zac V1.out.c0 V1.out.lt;haveI:=zal wt;refine zcU _ _ _ (show _=([_,_,_,_,_]++[_])++[_] from rfl) (by kernel_rfl) (by kernel_rfl) (by kernel_rfl) (by kernel_rfl) ?_
  repeat (first
   |(refine wpQuiet_row rfl 27 (.tmp 3) rfl w.heap.size rfl 27 _ (0,0) _ (fun w' ⟨x,hx⟩=>by rw [hx];exact (x.block _ V1.out.lt).trans V1.out) Tryz.underlying27 rfl (zbZ _ _) ?_;simp only [Act.put,List.setIfInBounds_toArray,List.set_cons_succ,List.set_cons_zero])
   |go_big_quiet_step ((go_at_call 173;exact zap (CB.out _))))
  refine wpQuiet_nil ?_;rintro _ ⟨wj,rfl⟩;have Z2:=hide ((wj.block (w.heap.size+1) (lt_of_block Z1.out)).trans Z1.out);have B2:=hide (zar B1.out wj.below);clear V1 Z1 B1 k0 CB
  go_wp2_with (first
   |(refine wpList_store_row rfl 27 (.tmp 6) (.tmp 43) rfl (w.heap.size+1) _ rfl rfl 27 _ Z2.out (zbZ _ _) (by rw [rowG_size];rfl) (zdt _ _) ?_)
   |(refine bodyPost_ret (zaH rfl _ _ (w.heap.size+1) 27 _ (0,0) _ rfl (setRow_heap _ _ _ _ _ _ Z2.out) Tryz.underlying27 rfl (zbZ _ _)) rfl ⟨rfl,below_setRow B2.out (Nat.le_succ _) _⟩))
 ·go_enter Tryz.func143,Tryz.ntmps143;go_wp2_with fail;obtain ⟨wr,hwr⟩:∃wr,wr=(w.alloc (.cells (rowG (i:Int) f) 27)).alloc (.cells #[.int .i64 0,.int .i64 0,.int .i64 0,.int .i64 0,.int .i64 0,.int .i64 0,.int .i64 0,.int .i64 0,.int .i64 0,.int .i64 0,.int .i64 0,.int .i64 0,.int .i64 0,.int .i64 0,.int .i64 0,.int .i64 0,.int .i64 0,.int .i64 0,.int .i64 0,.int .i64 0,.int .i64 0] 27):=⟨_,rfl⟩
  rw [←hwr] at V0 Z0 B0 M0 c0 ⊢;clear hwr;have k0:=zac c0 V0.lt;have ki:=zac (V0.at i hi) V0.lt;have km:=zac (M0.at i hi) M0.pos;rw [hm] at km;have V:=hide V0;have Z:=hide Z0;have B:=hide B0;clear V0 Z0 B0 M0 c0 hM;haveI:=zal wr;refine zau _ _ (show _=[_,_,_,_,_,_,_,_,_,_,_,_,_,_,_,_,_]++[_] from rfl) (by kernel_rfl) (by kernel_rfl) (by kernel_rfl) ?_
  repeat (go_big_quiet_step ((go_at_call 172;exact zaU (CH.out _))))
  refine wpQuiet_nil ?_;rintro _ ⟨wk,rfl⟩;have VK:=V.out.next wk.below;have ZK:=(wk.block (w.heap.size+1) (lt_of_block Z.out)).trans Z.out;have BK:=zar B.out wk.below;have ci:=VK.at i hi;have zi:=VK.frozen (1+i);have V1:=hide (VK.set i y);have Z1:=hide ((heap_setCell_other _ ⟨w.heap.size,1+i,none⟩ (w.heap.size+1) (.int .i64 y) (by simp)).trans ZK);have B1:=hide (BK.setCell (p:=⟨w.heap.size,1+i,none⟩) (Nat.le_refl _) (.int .i64 y));clear VK ZK BK V Z B k0 ki km CH;go_wp2_with fail;obtain ⟨wt,hwt⟩:∃wt,wt=wk.val.setCell ⟨w.heap.size,1+i,none⟩ (.int .i64 y):=⟨_,rfl⟩
  rw [←hwt] at V1 Z1 B1 ⊢;clear hwt ci zi;have k0:=zac V1.out.c0 V1.out.lt;haveI:=zal wt;refine zcU _ _ _ (show _=([_,_,_,_,_]++[_])++[_] from rfl) (by kernel_rfl) (by kernel_rfl) (by kernel_rfl) (by kernel_rfl) ?_
  repeat (first
   |(refine wpQuiet_row rfl 27 (.tmp 3) rfl w.heap.size rfl 27 _ (0,0) _ (fun w' ⟨x,hx⟩=>by rw [hx];exact (x.block _ V1.out.lt).trans V1.out) Tryz.underlying27 rfl (zbZ _ _) ?_;simp only [Act.put,List.setIfInBounds_toArray,List.set_cons_succ,List.set_cons_zero])
   |go_big_quiet_step ((go_at_call 173;exact zap (CB.out _))))
  refine wpQuiet_nil ?_;rintro _ ⟨wj,rfl⟩;have Z2:=hide ((wj.block (w.heap.size+1) (lt_of_block Z1.out)).trans Z1.out);have B2:=hide (zar B1.out wj.below);clear V1 Z1 B1 k0 CB
  go_wp2_with (first
   |(refine wpList_store_row rfl 27 (.tmp 6) (.tmp 43) rfl (w.heap.size+1) _ rfl rfl 27 _ Z2.out (zbZ _ _) (by rw [rowG_size];rfl) (zdt _ _) ?_)
   |(refine bodyPost_ret (zaH rfl _ _ (w.heap.size+1) 27 _ (0,0) _ rfl (setRow_heap _ _ _ _ _ _ Z2.out) Tryz.underlying27 rfl (zbZ _ _)) rfl ⟨rfl,below_setRow B2.out (Nat.le_succ _) _⟩))
theorem fresh_any (w:World):Calls Tryz.prog 118 #[] w fun e w'=>e=.returned (.agg (rowG 0 (fun _=>0)))∧Below w.heap.size w w':=by
 have Z0:=hide (show (w.alloc (.cells #[.int .i64 0,.int .i64 0,.int .i64 0,.int .i64 0,.int .i64 0,.int .i64 0,.int .i64 0,.int .i64 0,.int .i64 0,.int .i64 0,.int .i64 0,.int .i64 0,.int .i64 0,.int .i64 0,.int .i64 0,.int .i64 0,.int .i64 0,.int .i64 0,.int .i64 0,.int .i64 0,.int .i64 0] 27)).heap[w.heap.size]? = some (.cells #[.int .i64 0,.int .i64 0,.int .i64 0,.int .i64 0,.int .i64 0,.int .i64 0,.int .i64 0,.int .i64 0,.int .i64 0,.int .i64 0,.int .i64 0,.int .i64 0,.int .i64 0,.int .i64 0,.int .i64 0,.int .i64 0,.int .i64 0,.int .i64 0,.int .i64 0,.int .i64 0,.int .i64 0] 27 (0,0)) from heap_alloc_new _ _);rw [←zrj];go_enter Tryz.func118,Tryz.ntmps118
 go_wp2_with (first
  |(refine wpList_store_row rfl 27 (.tmp 0) (.tmp 1) rfl w.heap.size _ rfl rfl 27 _ Z0.out (by kernel_rfl) rfl (by kernel_rfl) ?_)
  |(refine bodyPost_ret (results_cell_row rfl _ _ w.heap.size 27 _ (0,0) _ rfl (setRow_heap _ _ _ _ _ _ Z0.out) Tryz.underlying27 rfl (by kernel_rfl)) rfl ⟨rfl,below_setRow ((Below.refl _ w).alloc (Nat.le_refl _) _) (Nat.le_refl _) _⟩))
def pairOf (n k:Int):Nat:=(zaP n k+2*zaP n (k+1)).toNat
theorem pairOf_lt (n k:Int):pairOf n k<4:=by
 have h1:=zew n k;have h2:=zew n (k+1);unfold pairOf;omega
theorem znZ (n k:Int):zaP n k+2*zaP n (k+1)=(pairOf n k:Int):=by
 have h1:=zew n k;have h2:=zew n (k+1);unfold pairOf;omega
theorem zrm (n k:Int) (h0:0≤k) (h1:k<15) (p:Nat) (hp:pairOf n k=p) (w:World):Calls Tryz.prog 195 #[.int .i64 n,.int .i64 k] w fun e w'=>e=.returned (.int .i64 (p:Int))∧w'=w:=by
 have b1:=zew n k;have b2:=zew n (k+1);have HP:=hide (show zaP n k+2*zaP n (k+1)=(p:Int) by rw [←hp];exact znZ n k);clear hp;go_enter Tryz.func195,Tryz.ntmps195;go_wp2_with (first|(go_at_call 56;refine (zaM _ _ _).mono ?_;rintro e w' ⟨rfl,hw⟩;subst w'));go_ret;exact ⟨zay HP.out,rfl⟩
def farL:List Int:=[1,32,64,128]
def farOf (p:Nat):Int:=farL.getD p 0
theorem zuA (L:List Int) (hL:L.length=4) (p:Nat) (hp:p<4):((L.map (Value.int .i64)).toArray)[p]? = some (.int .i64 (L.getD p 0)):=by
 simp [List.getD,List.getElem?_eq_getElem (show p<L.length by omega)]
theorem far_any (s:Int) (f:Nat→Int) (p:Nat) (hp:pairOf (f 5) 11=p) (w:World):Calls Tryz.prog 177 #[.agg (rowG s f)] w fun e w'=>e=.returned (.int .i64 (farOf p))∧Below w.heap.size w w':=by
 have CP:=hide (zrm (f 5) 11 (by decide) (by decide) p hp);have hp4:p<4:=by rw [←hp];exact pairOf_lt _ _
 clear hp;have c5:((w.alloc (.cells (rowG s f) 27)).alloc (.cells #[.int .i64 1,.int .i64 32,.int .i64 64,.int .i64 128] 71)).cell? ⟨w.heap.size,6,none⟩=some (.int .i64 (f 5)):=((zdb 27 w s f).alloc _).at 5 (by decide);have Z:=hide (heap_alloc2_new w (.cells (rowG s f) 27) (.cells #[.int .i64 1,.int .i64 32,.int .i64 64,.int .i64 128] 71));have B:=hide (((Below.refl _ w).alloc (Nat.le_refl _) (.cells (rowG s f) 27)).alloc (by simp) (.cells #[.int .i64 1,.int .i64 32,.int .i64 64,.int .i64 128] 71));go_enter Tryz.func177,Tryz.ntmps177;go_wp2_with fail;refine (CP.out _).mono ?_;rintro e w' ⟨rfl,hw⟩;subst w';have hl:=zuA farL rfl p hp4;have hz:=(cell_of_row _ (w.heap.size+1) p _ _ _ Z.out).trans hl;clear hl c5;generalize hx:farL.getD p 0=x at hz;have HX:=hide (show farOf p=x from hx);clear hx;go_wp2_with fail;go_ret;exact ⟨zay HX.out.symm,B.out⟩
end Go.Proofs.YtoijhhbiknhlnaaGreatDoor.R15
