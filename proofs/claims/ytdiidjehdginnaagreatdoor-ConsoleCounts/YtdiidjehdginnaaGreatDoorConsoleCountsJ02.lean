/- Texts put together. -/
import Derived.Test.YtdiidjehdginnaaGreatDoorConsoleCountsJ01
import Derived.Test.YtdiidjehdginnaaGreatDoorRows
import Derived.WalkKit
import Derived.ProofKit
import Derived.Deep.QuietTactic
import Derived.BigQuiet
import Derived.Test.YtdiidjehdginnaaGreatDoorProg
import Derived.RegionTactic
import Derived.Below
import Derived.LaidEql
import Derived.Stop.Asserts
import Derived.RowKitTokens
import Derived.OneCell
import Derived.Handy
import Derived.Laws.StructEq
import Derived.Laws.Rows
import Derived.Laws.Tables
import Derived.Laws.ResultCell
import Derived.Laws.CopyOwn
import Derived.WalkMore
import Derived.Deep.Quiet
import Derived.Deep.MidRow
import Derived.BigFrame
import Derived.Deep.RegionWith
import Derived.Laws.MakeOwn
import Derived.Laws.OwnMore
namespace Go.Proofs.YtdiidjehdginnaaGreatDoor
set_option maxRecDepth 20000
open Go.RowKit
set_option linter.unusedVariables false
variable {L:List (Nat×(Nat→Value))} {M:List Nat} {N a b k:Nat} {f:Nat→Value} {T:TypeId} {w:World}
def segs:List (Nat×(Nat→Value))→Nat→Value
 |[],_=>undef
 |(n,f)::r,j=>if j<n then f j else segs r (j-n)
def soff:List (Nat×(Nat→Value))→Nat→Nat
 |_,0=>0
 |[],_+1=>0
 |(n,_)::r,k+1=>n+soff r k
theorem zfK (m:Nat) (g:Nat→Value) (r:List (Nat×(Nat→Value))) (k:Nat):soff ((m,g)::r) (k+1)=m+soff r k:=rfl
theorem zex (L:List (Nat×(Nat→Value))):soff L 0=0:=by cases L<;>rfl
theorem zcd (m:Nat) (g:Nat→Value) (r:List (Nat×(Nat→Value))) (j:Nat):segs ((m,g)::r) j=if j<m then g j else segs r (j-m):=rfl
theorem zci:∀(L:List (Nat×(Nat→Value))) (k n:Nat) (f:Nat→Value) (j:Nat),L[k]? = some (n,f)→j<n→segs L (soff L k+j)=f j
 |[],k,n,f,j,h,_=>by simp at h
 |(m,g)::r,0,n,f,j,h,hj=>by
  obtain ⟨rfl,rfl⟩:m=n∧g=f:=by simpa using h
  rw [zex,zcd,Nat.zero_add,if_pos hj]
 |(m,g)::r,k+1,n,f,j,h,hj=>by
  have h':r[k]? = some (n,f):=by simpa using h
  have ih:=zci r k n f j h' hj;rw [zfK,zcd,if_neg (by omega),show m+soff r k+j-m=soff r k+j by omega];exact ih
theorem zfL:∀(L:List (Nat×(Nat→Value))) (k n:Nat) (f f':Nat→Value),L[k]? = some (n,f)→∀j,(if soff L k≤j∧j<soff L k+n then f' (j-soff L k) else segs L j)=segs (L.set k (n,f')) j
 |[],k,n,f,f',h,_=>by simp at h
 |(m,g)::r,0,n,f,f',h,j=>by
  obtain ⟨rfl,rfl⟩:m=n∧g=f:=by simpa using h
  rw [zex,List.set_cons_zero,zcd,zcd]
  by_cases hj:j<m
  ·rw [if_pos (show 0≤j∧j<0+m by omega),if_pos hj,Nat.sub_zero]
  ·rw [if_neg (show ¬(0≤j∧j<0+m) by omega),if_neg hj,if_neg hj]
 |(m,g)::r,k+1,n,f,f',h,j=>by
  have h':r[k]? = some (n,f):=by simpa using h
  have ih:=zfL r k n f f' h' (j-m);rw [zfK,List.set_cons_succ,zcd,zcd]
  by_cases hj:j<m
  ·rw [if_neg (show ¬(m+soff r k≤j∧j<m+soff r k+n) by omega),if_pos hj,if_pos hj]
  ·rw [if_neg hj,if_neg hj,←ih]
   by_cases hp:m+soff r k≤j∧j<m+soff r k+n
   ·rw [if_pos hp,if_pos (show soff r k≤j-m∧j-m<soff r k+n by omega),show j-m-soff r k=j-(m+soff r k) by omega]
   ·rw [if_neg hp,if_neg (show ¬(soff r k≤j-m∧j-m<soff r k+n) by omega)]
theorem zxI (L:List (Nat×(Nat→Value))) (k n:Nat) (f:Nat→Value) (i:Nat) (v:Value) (h:L[k]? = some (n,f)) (hi:i<n):∀j,updC (segs L) (soff L k+i) v j=segs (L.set k (n,updC f i v)) j:=fun j=>by
 rw [←zfL L k n f (updC f i v) h j];unfold updC
 by_cases hp:soff L k≤j∧j<soff L k+n
 ·rw [if_pos hp]
  by_cases e:j=soff L k+i
  ·rw [if_pos e,if_pos (by omega)]
  ·rw [if_neg e,if_neg (by omega)];have g:=zci L k n f (j-soff L k) h (by omega);rw [show soff L k+(j-soff L k)=j by omega] at g;exact g
 ·rw [if_neg hp,if_neg (by omega)]
theorem HasF.get (h:HasF T w b N (segs L)) (k:Nat) {n:Nat} (hk:L[k]? = some (n,f)) (j:Nat) (hj:j<n)  (ha:soff L k+j=a) (hN:a<N):w.cell? ⟨b,a,none⟩=some (f j):=by
 rw [h.at a hN,←ha,zci L k n f j hk hj]
theorem HasF.put (h:HasF T w b N (segs L)) (k:Nat) {n:Nat} (hk:L[k]? = some (n,f)) (j:Nat) (hj:j<n)  (ha:soff L k+j=a) (v:Value):HasF T (w.setCell ⟨b,a,none⟩ v) b N (segs (L.set k (n,updC f j v))):=by
 subst ha;exact (h.set _ v).ext fun i _=>zxI L k n f j v hk hj i
theorem HasF.put1 (h:HasF T w b N (segs L)) (k:Nat) {u:Value} (hk:L[k]? = some (1,fun _=>u)) (ha:soff L k=a) (v:Value):HasF T (w.setCell ⟨b,a,none⟩ v) b N (segs (L.set k (1,fun _=>v))):=by
 refine (h.put k hk 0 (by decide) (a:=a) (by omega) v).ext fun i _=>?_
 rw [←zfL L k 1 (fun _=>u) (fun _=>v) hk i,←zfL L k 1 (fun _=>u) (updC (fun _=>u) 0 v) hk i]
 by_cases hp:soff L k≤i∧i<soff L k+1
 ·rw [if_pos hp,if_pos hp];unfold updC;rw [if_pos (by omega)]
 ·rw [if_neg hp,if_neg hp]
theorem HasF.lay (h:HasF T w b N (segs L)) (k:Nat) {n:Nat} (hk:L[k]? = some (n,f)) (d:Nat→Value)  (ha:soff L k=a):HasF T (w.setCells b a (rowF d n).toList) b N (segs (L.set k (n,d))):=by
 subst ha;exact (h.cells (soff L k) n d).ext fun j _=>zfL L k n f d hk j
theorem HasF.seg (h:HasF T w b N (segs L)) (k:Nat) {n:Nat} (hk:L[k]? = some (n,f))  (ha:soff L k=a):∀j,j<n→segs L (a+j)=f j:=fun j hj=>by
 rw [←ha];exact zci L k n f j hk hj
theorem wpQuiet_mid {P:Program} {ops:Array Oper} {C:World→Prop} {Q:Act→Prop} {a:Act} {o:Oper} {rest:List Oper} (hw:Region.wanted o (yielded ops a.tmps)=true) (ty:TypeId) (x:Operand) (ho:o.op=.load ty x)
  (b off:Nat) (hx:a.eval x=.pointer (some ⟨b,off,none⟩)) (cs:Array Value) (d:TypeDesc) (hc:∀w,C w→w.rangeAt b off cs.toList)
  (hu:P.underlying ty=some d) (hd:d.isRow=true) (hi:(P.info? ty).map (·.size)=some cs.size)
  (h:wpQuiet P ops C Q rest (a.put o.dst (.agg cs))):wpQuiet P ops C Q (o::rest) a:=by
 unfold wpQuiet;rw [if_pos hw];refine ⟨.agg cs,fun w hC=>?_,h⟩;unfold Oper.quietAt execOp;have k:=run_loadVar_mid (P:=P) w b off ty cs.toList d (hc w hC) hu hd (by rw [Array.length_toList];exact hi);simp only [ho,hx,Instr.loadAt,Instr.sureAddr,Sem.run_bind,Sem.run_pure,Result.andThen_ok,k];exact ⟨rfl,rfl⟩
theorem HasF.get1 (h:HasF T w b N (segs L)) (k:Nat) {v:Value} (hk:L[k]? = some (1,fun _=>v)) (ha:soff L k=a) (hN:a<N):w.cell? ⟨b,a,none⟩=some v:=h.get k hk 0 (by decide) (by omega) hN
theorem znf:∀(L:List (Nat×(Nat→Value))) (k:Nat),soff L k=((L.map Prod.fst).take k).sum
 |L,0=>by rw [zex];simp
 |[],k+1=>rfl
 |(m,g)::r,k+1=>by rw [zfK,znf r k];simp
theorem zAh (h:L.map Prod.fst=M) (k:Nat) (ha:(M.take k).sum=a):soff L k=a:=by rw [znf,h,ha]
theorem zum (h:L.map Prod.fst=M) {n:Nat} (hk:L[k]? = some (n,f)) (f':Nat→Value):(L.set k (n,f')).map Prod.fst=M:=by
 rw [←h];apply List.ext_getElem?;intro i;rw [List.getElem?_map,List.getElem?_map,List.getElem?_set]
 by_cases e:k=i
 ·subst e;rw [if_pos rfl,hk]
  by_cases hl:k<L.length
  ·rw [if_pos hl];rfl
  ·rw [List.getElem?_eq_none (by omega)] at hk;cases hk
 ·rw [if_neg e]
theorem zcp {n:Nat} (hk:L[k]? = some (n,f)) (x:Nat×(Nat→Value)):(L.set k x)[k]? = some x:=by
 rw [List.getElem?_set,if_pos rfl]
 by_cases hl:k<L.length
 ·rw [if_pos hl]
 ·rw [List.getElem?_eq_none (by omega)] at hk;cases hk
theorem zhU {x:Nat×(Nat→Value)} (hk:L[k]? = some x):L.set k x=L:=by
 apply List.ext_getElem?;intro i
 by_cases e:k=i
 ·subst e;rw [hk];exact zcp (n:=x.1) (f:=x.2) hk x
 ·rw [List.getElem?_set,if_neg e]
theorem zaB {i:Nat} {y:Option (Nat×(Nat→Value))} (hk:L[i]? = y) (x:Nat×(Nat→Value)) (h:k≠i):(L.set k x)[i]? = y:=by
 rw [List.getElem?_set,if_neg h,hk]
theorem zam (n:Int) (w:World):
  Calls Tryz.prog 69 #[.int .i64 n] w fun e w'=>e=.returned (.int .i64 (n%256))∧w'=w:=by
 go_enter Tryz.func69,Tryz.ntmps69;go_wp2;go_ret;exact ⟨zat (zxD n),rfl⟩
theorem zaU (n:Int) (w:World):
  Calls Tryz.prog 86 #[.int .i64 n] w fun e w'=>e=.returned (.int .i64 (n%65536))∧w'=w:=by
 go_enter Tryz.func86,Tryz.ntmps86;go_wp2;go_ret;exact ⟨zat (zqt n),rfl⟩
theorem zbf (n:Int) (w:World):
  Calls Tryz.prog 125 #[.int .i64 n] w fun e w'=>e=.returned (.tuple #[.int .i64 (n%256),.int .i64 (n/256%256)])∧w'=w:=by
 go_enter Tryz.func125,Tryz.ntmps125;go_wp2_with (go_at_call 69;refine (zam _ _).mono ?_;rintro e w' ⟨rfl,rfl⟩);go_ret2;exact ⟨rfl,rfl⟩
theorem zhb (b off len cap:Nat) (zs:List Int) (w:World) (hz:zs.length=len) (hbig:len≤1000) (hc:∀j,j<zs.length→w.cell? ⟨b,off+j,none⟩=some (.int .i64 (zs[j]?.getD 0))):
  Calls Tryz.prog 181 #[.slice (some ⟨b,off,none⟩) len cap] w fun e w'=>e=.returned (.int .i64 (zhL zs))∧w'=w:=by
 go_enter Tryz.func181,Tryz.ntmps181;go_wp2;go_loop [3,8] (fun t i=>∃k:Nat,k≤len∧i=.int .i64 k∧t=.int .i64 (zhL (zs.take k))) (fun _ i=>len-(intOf i).toNat)
 case atStart=>exact ⟨0,Nat.zero_le _,rfl,rfl⟩
 case round=>
  obtain ⟨k,hk,rfl,rfl⟩:=hrel
  by_cases hlt:k<len
  ·have hcell:w.cell? ⟨b,off+k,none⟩=some (.int .i64 (zs[k]?.getD 0)):=hc k (by omega);have HS:Hid (zhL (zs.take (k+1))=bits .or .i64 (zhL (zs.take k)) (zs[k]?.getD 0)):=zop zs k (by omega);clear hc;generalize zs[k]?.getD 0=z at *;go_wp2;go_round
   case rel=>exact ⟨k+1,by omega,by go_num,by rw [HS.out]⟩
   case measure=>simp [intOf];omega
  ·go_wp2;go_ret;exact ⟨zat (by rw [List.take_of_length_le (by omega)]),rfl⟩
theorem zcT (a b:Int) (w:World):
  Calls Tryz.prog 118 #[.int .i64 a,.int .i64 b] w fun e w'=>e=.returned (.int .i64 (a%256+256*(b%256)))∧Below w.heap.size w w':=by
 go_enter Tryz.func118,Tryz.ntmps118
 go_wp2_with (first
  |(go_at_call 69;refine (zam _ _).mono ?_;rintro e w' ⟨rfl,rfl⟩))
 refine (zhb _ 0 2 2 [a%256,b%256*256] _ rfl (by decide) ?_).mono ?_
 ·exact zkR _ [a%256,b%256*256] _ _ rfl
 rintro e w1 ⟨rfl,rfl⟩;go_wp2;go_ret;exact ⟨zat (zoq a b),(Below.refl _ _).alloc (Nat.le_refl _) _⟩
theorem zoy (n:Int) (w:World):
  Calls Tryz.prog 261 #[.int .i64 n] w fun e w'=>e=.returned (.int .i64 (zfF n))∧w'=w:=by
 by_cases h:128≤n%256
 all_goals
  go_enter Tryz.func261,Tryz.ntmps261
  go_wp2_with (first
   |(go_at_call 69;refine (zam _ _).mono ?_;rintro e w' ⟨rfl,rfl⟩))
  go_ret;exact ⟨zat (by unfold zfF;split<;>omega),rfl⟩
theorem zdN (k:Int) (w:World):
  Calls Tryz.prog 116 #[.int .i64 k] w fun e w'=>e=.returned (.bool (inW k))∧w'=w:=by
 by_cases h0:0≤k
 ·by_cases h1:k<16
  ·have HB:=hide (zma h0 h1);go_enter Tryz.func116,Tryz.ntmps116;go_wp2;go_ret;exact ⟨zbc HB.out.symm,rfl⟩
  ·have HB:=hide (zmU (k:=k) (by omega));go_enter Tryz.func116,Tryz.ntmps116;go_wp2;go_ret;exact ⟨zbc HB.out.symm,rfl⟩
 ·have HB:=hide (zmU (k:=k) (by omega));go_enter Tryz.func116,Tryz.ntmps116;go_wp2;go_ret;exact ⟨zbc HB.out.symm,rfl⟩
theorem zaZ (n k:Int) (w:World):
  Calls Tryz.prog 68 #[.int .i64 n,.int .i64 k] w fun e w'=>e=.returned (.int .i64 (zaV n k))∧w'=w:=by
 by_cases h:0≤k∧k<16
 ·have hb:zaV n k=n%65536/2 ^ k.toNat%2:=by unfold zaV;rw [if_pos h]
  have HB:=hide hb;clear hb;obtain ⟨h0,h1⟩:=h;have hd:=zma h0 h1;go_enter Tryz.func68,Tryz.ntmps68
  go_wp2_with (first
   |(go_at_call 116;refine (zdN _ _).mono ?_;rintro e w' ⟨rfl,rfl⟩)
   |(go_at_call 86;refine (zaU _ _).mono ?_;rintro e w' ⟨rfl,rfl⟩))
  go_ret;exact ⟨zat (by rw [HB.out];exact zho _),rfl⟩
 ·have hb:zaV n k=0:=by unfold zaV;rw [if_neg h]
  have HB:=hide hb;clear hb;have hd:=zmU h;go_enter Tryz.func68,Tryz.ntmps68
  go_wp2_with (first
   |(go_at_call 116;refine (zdN _ _).mono ?_;rintro e w' ⟨rfl,rfl⟩)
   |(go_at_call 86;refine (zaU _ _).mono ?_;rintro e w' ⟨rfl,rfl⟩))
  go_ret;exact ⟨zat (by rw [HB.out]),rfl⟩
theorem zgB (n k:Int) (on:Bool) (w:World):
  Calls Tryz.prog 152 #[.int .i64 n,.int .i64 k,.bool on] w fun e w'=>e=.returned (.int .i64 (ziM n k on))∧Below w.heap.size w w':=by
 by_cases h:0≤k∧k<16
 ·obtain ⟨h0,h1⟩:=h;have hd:=zma h0 h1;have hp:=zAa k h0 h1;cases on
  ·have HB:=hide (zqw n k h0 h1);go_enter Tryz.func152,Tryz.ntmps152
   go_wp2_with (first
    |(go_at_call 116;refine (zdN _ _).mono ?_;rintro e w' ⟨rfl,rfl⟩))
   go_quiet ((go_at_call 86;exact Calls.quiet_of_same (zaU _ _)));go_wp2;go_ret;exact ⟨zat (by rw [HB.out];exact zwJ n k h0 h1),zeO (Below.refl _ _) _⟩
  ·have HB:=hide (zqv n k h0 h1);go_enter Tryz.func152,Tryz.ntmps152
   go_wp2_with (first
    |(go_at_call 116;refine (zdN _ _).mono ?_;rintro e w' ⟨rfl,rfl⟩))
   go_quiet ((go_at_call 86;exact Calls.quiet_of_same (zaU _ _)));go_wp2_with fail;rw [zwJ n k h0 h1];refine (zhb _ 0 2 2 [n%65536-zaV n k*2 ^ k.toNat,2 ^ k.toNat] _ rfl (by decide) ?_).mono ?_
   ·exact zkR _ [n%65536-zaV n k*2 ^ k.toNat,2 ^ k.toNat] _ _ rfl
   rintro e w1 ⟨rfl,rfl⟩;go_wp2;go_ret;exact ⟨zat (by rw [HB.out];exact zqu n k h0 h1),(zeO (Below.refl _ _) _).alloc (Nat.le_refl _) _⟩
 ·have hd:=zmU h;have HB:=hide (zqx n k on h);go_enter Tryz.func152,Tryz.ntmps152
  go_wp2_with (first
   |(go_at_call 116;refine (zdN _ _).mono ?_;rintro e w' ⟨rfl,rfl⟩)
   |(go_at_call 86;refine (zaU _ _).mono ?_;rintro e w' ⟨rfl,rfl⟩))
  go_ret;exact ⟨zat HB.out.symm,Below.refl _ _⟩
end Go.Proofs.YtdiidjehdginnaaGreatDoor
namespace Go.Proofs.YtdiidjehdginnaaGreatDoor.C3
set_option maxRecDepth 20000
open Go.RowKit
set_option linter.unusedVariables false
variable {w:World}
def zeS:Array Value:=#[.int .i64 1,.int .i64 0,.int .i64 2,.int .i64 0,.int .i64 4,.int .i64 0,.int .i64 8,.int .i64 0,.int .i64 16,.int .i64 0,.int .i64 32,.int .i64 0,.int .i64 64,.int .i64 0,.int .i64 128,.int .i64 0,.int .i64 48,.int .i64 1,.int .i64 96,.int .i64 1,.int .i64 320,.int .i64 2]
def HasTab (w:World):Prop:=∃t fr,w.heap[1]? = some (.cells zeS t fr)
theorem HasTab.below {B:Nat} {w':World} (h:HasTab w) (b:Below B w w') (hB:1<B):HasTab w':=by
 obtain ⟨t,fr,e⟩:=h;exact ⟨t,fr,(b.block 1 hB).trans e⟩
theorem HasTab.pos (h:HasTab w):1<w.heap.size:=by
 obtain ⟨t,fr,e⟩:=h;exact lt_of_block e
theorem HasTab.next {w':World} (h:HasTab w) (b:Below w.heap.size w w'):HasTab w':=h.below b h.pos
def zfM (j:Nat):Int:=[(1:Int),2,4,8,16,32,64,128,48,96,320].getD j 0
def zkZ (j:Nat):Int:=[(0:Int),0,0,0,0,0,0,0,1,1,2].getD j 0
theorem tab_index (j:Nat) (hj:j<11) (w:World):(Instr.index 187 (.agg zeS) (.int .i64 (j:Int))).run Tryz.prog w=.ok (.agg #[.int .i64 (zfM j),.int .i64 (zkZ j)]) w:=by
 rcases j with _|_|_|_|_|_|_|_|_|_|_|j
 ·kernel_rfl
 ·kernel_rfl
 ·kernel_rfl
 ·kernel_rfl
 ·kernel_rfl
 ·kernel_rfl
 ·kernel_rfl
 ·kernel_rfl
 ·kernel_rfl
 ·kernel_rfl
 ·kernel_rfl
 ·omega
theorem zun (n:Int) (w:World) (cs:Array Value) (t:TypeId) (fr:Nat×Nat) (hT:w.heap[1]? = some (.cells cs t fr)) (hs:some 22=some cs.size)
  (hx:∀(j:Nat),j<11→∀w:World,(Instr.index 187 (.agg cs) (.int .i64 (j:Int))).run Tryz.prog w=.ok (.agg #[.int .i64 (zfM j),.int .i64 (zkZ j)]) w):
  Calls Tryz.prog 48 #[.int .i64 n] w fun e w'=>((∃j,j<11∧zfM j=n∧e=.returned (.tuple #[.int .i64 (zkZ j),.bool true]))∨((∀i,i<11→zfM i≠n)∧e=.returned (.tuple #[.int .i64 0,.bool false])))∧Below w.heap.size w w':=by
 have hi:(Tryz.prog.info? 187).map (·.size)=some cs.size:=Eq.trans (by kernel_rfl) hs;have HX:=hide hx;have HT:=hide hT;have HI:=hide hi;clear hx hs hi hT;go_enter Tryz.func48,Tryz.ntmps48;go_wp2_with (first|(refine wpList_load_row rfl 187 (.global 1) rfl 1 rfl t cs fr _ HT.out Tryz.underlying187 rfl HI.out ?_));go_loopw [7] (fun si wr=>∃j:Nat,j≤11∧si=.int .i64 (j:Int)∧(∀i,i<j→zfM i≠n)∧Below w.heap.size w wr) (fun si _=>11-(intOf si).toNat)
 case atStart=>exact ⟨0,by omega,rfl,fun i hi=>absurd hi (by omega),Below.refl _ _⟩
 case round=>
  obtain ⟨j,hj,rfl,hne,bel⟩:=hrel;have HN:=hide hne;have BL:=hide bel;clear hne bel
  by_cases h:j<11
  ·have hx:=HX.out j h;obtain ⟨p,hp⟩:∃p,p=zfM j:=⟨_,rfl⟩
   obtain ⟨k,hk⟩:∃k,k=zkZ j:=⟨_,rfl⟩
   rw [←hp,←hk] at hx;have HP:=hide hp;have HK:=hide hk;clear hp hk
   by_cases hpn:p=n
   ·go_wp2_with fail;go_ret2;refine ⟨.inl ⟨j,h,by rw [←HP.out];exact hpn,ziZ HK.out rfl⟩,BL.out.alloc BL.out.size _⟩
   ·go_wp2_with fail;go_roundw
    case rel=>
     refine ⟨j+1,by omega,by go_num,fun i hi=>?_,?_⟩
     ·by_cases hij:i=j
      ·subst hij;rw [←HP.out];exact hpn
      ·exact HN.out i (by omega)
     ·exact BL.out.alloc BL.out.size _
    case measure=>simp [intOf];omega
  ·have hj:j=11:=by omega
   subst hj;go_wp2_with fail;go_ret2;exact ⟨.inr ⟨HN.out,rfl⟩,BL.out⟩
def zda (n:Int):Int:=if n=48∨n=96 then 1 else if n=320 then 2 else 0
def zdb (n:Int):Bool:=decide (n=1∨n=2∨n=4∨n=8∨n=16∨n=32∨n=64∨n=128∨n=48∨n=96∨n=320)
theorem zng (j:Nat) (hj:j<11):zdb (zfM j)=true∧zda (zfM j)=zkZ j:=by
 revert j;decide
theorem zjf {n:Int} (h:∀i,i<11→zfM i≠n):zdb n=false∧zda n=0:=by
 have h0:(1:Int)≠n:=h 0 (by decide);have h1:(2:Int)≠n:=h 1 (by decide);have h2:(4:Int)≠n:=h 2 (by decide);have h3:(8:Int)≠n:=h 3 (by decide);have h4:(16:Int)≠n:=h 4 (by decide);have h5:(32:Int)≠n:=h 5 (by decide);have h6:(64:Int)≠n:=h 6 (by decide);have h7:(128:Int)≠n:=h 7 (by decide);have h8:(48:Int)≠n:=h 8 (by decide);have h9:(96:Int)≠n:=h 9 (by decide);have hA:(320:Int)≠n:=h 10 (by decide);constructor
 ·unfold zdb;rw [decide_eq_false_iff_not];omega
 ·unfold zda;rw [if_neg (by omega),if_neg (by omega)]
theorem zhV (n:Int) (w:World) (hT:HasTab w):
  Calls Tryz.prog 48 #[.int .i64 n] w fun e w'=>e=.returned (.tuple #[.int .i64 (zda n),.bool (zdb n)])∧Below w.heap.size w w':=by
 obtain ⟨t,fr,hT⟩:=hT;refine (zun n w zeS t fr hT rfl (fun j hj w=>tab_index j hj w)).mono ?_;rintro e w' ⟨⟨j,hj,rfl,rfl⟩|⟨h,rfl⟩,b⟩
 ·rw [(zng j hj).1,(zng j hj).2];exact ⟨rfl,b⟩
 ·rw [(zjf h).1,(zjf h).2];exact ⟨rfl,b⟩
theorem zeT (a:Addr) (s:Option Addr) (len cap:Nat) (w:World) (hl:len<4611686018427387904) (h:w.cell? a=some (.slice s len cap)):
  Calls Tryz.prog 49 #[.pointer (some a)] w fun e w'=>e=.returned (.int .i64 ((len/8192:Nat):Int))∧w'=w:=by
 go_enter Tryz.func49,Tryz.ntmps49;go_wp2;go_ret;exact ⟨rfl,rfl⟩
theorem zxJ (a:Addr) (b off len cap p q:Nat) (z:Int) (w:World) (hl:len<4611686018427387904) (h:w.cell? a=some (.slice (some ⟨b,off,none⟩) len cap)) (hp:p<len/8192) (hq:q<8192)
  (hz:w.cell? ⟨b,off+(p*8192+q),none⟩=some (.int .u8 z)) (z0:0≤z) (z1:z<256):
  Calls Tryz.prog 172 #[.pointer (some a),.int .i64 p,.int .i64 q] w fun e w'=>e=.returned (.int .i64 z)∧w'=w:=by
 have HP:=hide (zeT a (some ⟨b,off,none⟩) len cap w hl h);have hm:(p:Int)<((len/8192:Nat):Int):=by omega
 have h1:(p:Int)*8192+q<len:=by omega
 have h2:((p:Int)*8192+q).toNat=p*8192+q:=by omega
 generalize ((len/8192:Nat):Int)=m at *;clear hp;go_enter Tryz.func172,Tryz.ntmps172;go_wp2_with (first|(go_at_call 49;refine HP.out.mono ?_;rintro e w' ⟨rfl,rfl⟩));go_ret;exact ⟨rfl,rfl⟩
end Go.Proofs.YtdiidjehdginnaaGreatDoor.C3
namespace Go.Proofs.YtdiidjehdginnaaGreatDoor.G6
set_option maxRecDepth 20000
open Go.RowKit
set_option linter.unusedVariables false
variable {w:World}
def zey:Array Value:=#[.int .i64 0,.int .i64 0,.int .i64 4,.int .i64 8,.int .i64 16,.int .i64 2,.int .i64 1,.int .i64 4]
def HasPorts (w:World):Prop:=∃t fr,w.heap[5]? = some (.cells zey t fr)
theorem HasPorts.below {B:Nat} {w':World} (h:HasPorts w) (b:Below B w w') (hB:5<B):HasPorts w':=by
 obtain ⟨t,fr,e⟩:=h;exact ⟨t,fr,(b.block 5 hB).trans e⟩
theorem HasPorts.pos (h:HasPorts w):5<w.heap.size:=by
 obtain ⟨t,fr,e⟩:=h;exact lt_of_block e
theorem HasPorts.next {w':World} (h:HasPorts w) (b:Below w.heap.size w w'):HasPorts w':=h.below b h.pos
def znh (j:Nat):Int:=[(0:Int),0,4,8,16,2,1,4].getD j 0
theorem HasPorts.cell (h:HasPorts w) (j:Nat) (hj:j<8):w.cell? ⟨5,j,none⟩=some (.int .i64 (znh j)):=by
 obtain ⟨t,fr,e⟩:=h;rcases j with _|_|_|_|_|_|_|_|j
 all_goals first|omega|(simp [World.cell?,e,zey,znh])
theorem zoz (x y z:Value) (w:World):(Instr.field 216 (.agg #[x,y,z]) 0).run Tryz.prog w=.ok x w:=by kernel_rfl
def zaH (p:Int):Int:=if p<0∨2097152≤p then 8 else if p<1048576 then 0 else if 2031616≤p∧p<2064384 then 1 else if p<2088960∨2095104≤p then 8 else 2+(p-2088960)/1024
def zcD (p:Int):Int:=if 0≤p∧p<1048576 then p/8192 else 0
def atW (p:Int):Int:=
 if zaH p=0∨zaH p=1 then p%8192 else if zaH p=2∨zaH p=7 then p%4 else if zaH p=3 then p%8 else if zaH p=4 then p%16 else if zaH p=5 then p%2 else 0
def zqL (k:Int):Int:=if k=2∨k=3 then 1 else 0
theorem zuo (k:Int) (w:World):Calls Tryz.prog 230 #[.int .i64 k] w fun e w'=>e=.returned (.int .i64 (zqL k))∧w'=w:=by
 unfold zqL
 by_cases h2:k=2
 ·subst h2;go_enter Tryz.func230,Tryz.ntmps230;go_wp2;go_ret;exact ⟨rfl,rfl⟩
 ·by_cases h3:k=3
  ·subst h3;go_enter Tryz.func230,Tryz.ntmps230;go_wp2;go_ret;exact ⟨rfl,rfl⟩
  ·rw [if_neg (by omega)];go_enter Tryz.func230,Tryz.ntmps230;go_wp2;go_ret;exact ⟨rfl,rfl⟩
theorem zcU (k:Int) (w:World):Calls Tryz.prog 214 #[.int .i64 k] w fun e w'=>e=.returned (.bool (decide (4≤k∧k≤7)))∧w'=w:=by
 by_cases h:4≤k∧k≤7
 ·rw [decide_eq_true h];have hk:k=4∨k=5∨k=6∨k=7:=by omega
  rcases hk with rfl|rfl|rfl|rfl
  all_goals
   go_enter Tryz.func214,Tryz.ntmps214;go_wp2;go_ret;exact ⟨rfl,rfl⟩
 ·rw [decide_eq_false h];have n4:¬k=4:=by omega
  have n5:¬k=5:=by omega
  have n6:¬k=6:=by omega
  have n7:¬k=7:=by omega
  clear h;go_enter Tryz.func214,Tryz.ntmps214;go_wp2;go_ret;exact ⟨rfl,rfl⟩
theorem zxK (g r:Int) (w:World) (h:g≤127):Calls Tryz.prog 170 #[.int .i64 g,.int .i64 r] w fun e w'=>e=.returned (.agg #[.int .i64 0,.int .i64 g,.int .i64 r])∧Below w.heap.size w w':=by
 go_enter Tryz.func170,Tryz.ntmps170;go_wp2;go_returns;exact ⟨rfl,(Below.refl _ w).alloc (Nat.le_refl _) _⟩
theorem zxL (g r:Int) (w:World) (h:248≤g) (k:g≤251):Calls Tryz.prog 170 #[.int .i64 g,.int .i64 r] w fun e w'=>e=.returned (.agg #[.int .i64 1,.int .i64 0,.int .i64 r])∧Below w.heap.size w w':=by
 go_enter Tryz.func170,Tryz.ntmps170;go_wp2;go_returns;exact ⟨rfl,(Below.refl _ w).alloc (Nat.le_refl _) _⟩
theorem zni (g r:Int) (w:World) (h:127<g) (k:g<248∨251<g):Calls Tryz.prog 170 #[.int .i64 g,.int .i64 r] w fun e w'=>e=.returned (.agg #[.int .i64 8,.int .i64 0,.int .i64 0])∧Below w.heap.size w w':=by
 by_cases k1:g<248
 ·clear k;go_enter Tryz.func170,Tryz.ntmps170;go_wp2;go_returns;exact ⟨rfl,(Below.refl _ w).alloc (Nat.le_refl _) _⟩
 ·have k2:251<g:=by omega
  clear k;go_enter Tryz.func170,Tryz.ntmps170;go_wp2;go_returns;exact ⟨rfl,(Below.refl _ w).alloc (Nat.le_refl _) _⟩
theorem zxM (r:Int) (q:Nat) (w:World) (hT:HasPorts w) (hq:q<6) (h0:1024*(q:Int)≤r) (h1:r<1024*(q:Int)+1024):
  Calls Tryz.prog 171 #[.int .i64 r] w fun e w'=>e=.returned (.agg #[.int .i64 (2+(q:Int)),.int .i64 0,.int .i64 (r%znh (2+q))])∧Below w.heap.size w w':=by
 have hp:=hT.pos;have hc:=hT.cell (2+q) (by omega);have hd:r/1024=(q:Int):=by omega
 have r0:0≤r:=by omega
 clear hT h1 h0;rcases q with _|_|_|_|_|_|q
 ·
  go_enter Tryz.func171,Tryz.ntmps171;go_wp2;go_returns;exact ⟨rfl,(Below.refl _ w).alloc (Nat.le_refl _) _⟩
 ·
  go_enter Tryz.func171,Tryz.ntmps171;go_wp2;go_returns;exact ⟨rfl,(Below.refl _ w).alloc (Nat.le_refl _) _⟩
 ·
  go_enter Tryz.func171,Tryz.ntmps171;go_wp2;go_returns;exact ⟨rfl,(Below.refl _ w).alloc (Nat.le_refl _) _⟩
 ·
  go_enter Tryz.func171,Tryz.ntmps171;go_wp2;go_returns;exact ⟨rfl,(Below.refl _ w).alloc (Nat.le_refl _) _⟩
 ·
  go_enter Tryz.func171,Tryz.ntmps171;go_wp2;go_returns;exact ⟨rfl,(Below.refl _ w).alloc (Nat.le_refl _) _⟩
 ·
  go_enter Tryz.func171,Tryz.ntmps171;go_wp2;go_returns;exact ⟨rfl,(Below.refl _ w).alloc (Nat.le_refl _) _⟩
 ·omega
theorem zup (r:Int) (w:World) (h:6144≤r) (k:r<8192):Calls Tryz.prog 171 #[.int .i64 r] w fun e w'=>e=.returned (.agg #[.int .i64 8,.int .i64 0,.int .i64 0])∧Below w.heap.size w w':=by
 have hd:6≤r/1024:=by omega
 have hd1:r/1024≤7:=by omega
 go_enter Tryz.func171,Tryz.ntmps171;go_wp2;go_returns;exact ⟨rfl,(Below.refl _ w).alloc (Nat.le_refl _) _⟩
theorem zla (p:Int) (w:World) (h:p<0∨2097152≤p):Calls Tryz.prog 106 #[.int .i64 p] w fun e w'=>e=.returned (.agg #[.int .i64 8,.int .i64 0,.int .i64 0])∧Below w.heap.size w w':=by
 by_cases k1:p<0
 ·clear h;go_enter Tryz.func106,Tryz.ntmps106;go_wp2;go_returns;exact ⟨rfl,((Below.refl _ w).alloc (Nat.le_refl _) _).alloc (by simp) _⟩
 ·have k2:2097152≤p:=by omega
  clear h;go_enter Tryz.func106,Tryz.ntmps106;go_wp2;go_returns;exact ⟨rfl,((Below.refl _ w).alloc (Nat.le_refl _) _).alloc (by simp) _⟩
theorem zhW (p:Int) (w:World) (h:0≤p) (k:p<1048576):Calls Tryz.prog 106 #[.int .i64 p] w fun e w'=>e=.returned (.agg #[.int .i64 0,.int .i64 (p/8192),.int .i64 (p%8192)])∧Below w.heap.size w w':=by
 obtain ⟨g,hg⟩:∃g,g=p/8192:=⟨_,rfl⟩
 obtain ⟨r,hr⟩:∃r,r=p%8192:=⟨_,rfl⟩
 have c:=hide (fun w=>zxK g r w (by omega));have g0:0≤g∧g≤127:=by omega
 have eg:p/8192=g:=hg.symm;have er:p%8192=r:=hr.symm;rw [eg,er];clear hg hr;go_enter Tryz.func106,Tryz.ntmps106;go_wp2_with fail;refine (c.out _).mono ?_;rintro e w1 ⟨rfl,b1⟩;have s1:=b1.size;have r2:=b1.block w.heap.size (by simp;omega);have r3:=b1.block (w.heap.size+1) (by simp);rw [heap_alloc2_old] at r2;rw [heap_alloc2_new] at r3;have q2:(w1.alloc (.cells #[.int .i64 0,.int .i64 g,.int .i64 r] 216)).heap[w.heap.size]? = some (.cells #[.int .i64 0,.int .i64 0,.int .i64 0] 216 (0,0)):=(((Below.refl w1.heap.size w1).alloc (Nat.le_refl _) _).block w.heap.size (lt_of_block r2)).trans r2;have q3:(w1.alloc (.cells #[.int .i64 0,.int .i64 g,.int .i64 r] 216)).heap[w.heap.size+1]? = some (.cells #[.int .i64 8,.int .i64 0,.int .i64 0] 216 (0,0)):=(((Below.refl w1.heap.size w1).alloc (Nat.le_refl _) _).block (w.heap.size+1) (lt_of_block r3)).trans r3;have BW:=hide (((((Below.refl w.heap.size w).alloc (Nat.le_refl _) (.cells #[.int .i64 0,.int .i64 0,.int .i64 0] 216)).alloc (by simp) (.cells #[.int .i64 8,.int .i64 0,.int .i64 0] 216)).trans (b1.mono (by simp;omega))).alloc (by simp at s1;omega) (.cells #[.int .i64 0,.int .i64 g,.int .i64 r] 216));have R2:=hide q2;have R3:=hide q3;clear b1 s1 r2 r3 q2 q3
 go_wp2_with (first
  |(refine wpList_load_row rfl 216 (.tmp 3) rfl (w.heap.size+1) rfl 216 _ (0,0) _ R3.out Tryz.underlying216 rfl (by kernel_rfl) ?_)
  |(refine wpList_store_row rfl 216 (.tmp 2) (.tmp 25) rfl w.heap.size _ rfl rfl 216 _ R2.out (by kernel_rfl) rfl (by kernel_rfl) ?_))
 (try simp only [Exit.inBlock,Exit.then])
 refine bodyPost_ret (results_cell_row rfl _ _ w.heap.size 216 _ (0,0) _ rfl (setRow_heap _ _ _ _ _ _ R2.out) Tryz.underlying216 rfl (by kernel_rfl)) rfl ?_;exact ⟨rfl,below_setRow BW.out (Nat.le_refl _) _⟩
theorem zhX (p:Int) (w:World) (h:2031616≤p) (k:p<2064384):Calls Tryz.prog 106 #[.int .i64 p] w fun e w'=>e=.returned (.agg #[.int .i64 1,.int .i64 0,.int .i64 (p%8192)])∧Below w.heap.size w w':=by
 obtain ⟨g,hg⟩:∃g,g=p/8192:=⟨_,rfl⟩
 obtain ⟨r,hr⟩:∃r,r=p%8192:=⟨_,rfl⟩
 have c:=hide (fun w=>zxL g r w (by omega) (by omega));have g0:248≤g∧g≤251:=by omega
 have eg:p/8192=g:=hg.symm;have er:p%8192=r:=hr.symm;rw [er];clear hg hr;go_enter Tryz.func106,Tryz.ntmps106;go_wp2_with fail;refine (c.out _).mono ?_;rintro e w1 ⟨rfl,b1⟩;have s1:=b1.size;have r2:=b1.block w.heap.size (by simp;omega);have r3:=b1.block (w.heap.size+1) (by simp);rw [heap_alloc2_old] at r2;rw [heap_alloc2_new] at r3;have q2:(w1.alloc (.cells #[.int .i64 1,.int .i64 0,.int .i64 r] 216)).heap[w.heap.size]? = some (.cells #[.int .i64 0,.int .i64 0,.int .i64 0] 216 (0,0)):=(((Below.refl w1.heap.size w1).alloc (Nat.le_refl _) _).block w.heap.size (lt_of_block r2)).trans r2;have q3:(w1.alloc (.cells #[.int .i64 1,.int .i64 0,.int .i64 r] 216)).heap[w.heap.size+1]? = some (.cells #[.int .i64 8,.int .i64 0,.int .i64 0] 216 (0,0)):=(((Below.refl w1.heap.size w1).alloc (Nat.le_refl _) _).block (w.heap.size+1) (lt_of_block r3)).trans r3;have BW:=hide (((((Below.refl w.heap.size w).alloc (Nat.le_refl _) (.cells #[.int .i64 0,.int .i64 0,.int .i64 0] 216)).alloc (by simp) (.cells #[.int .i64 8,.int .i64 0,.int .i64 0] 216)).trans (b1.mono (by simp;omega))).alloc (by simp at s1;omega) (.cells #[.int .i64 1,.int .i64 0,.int .i64 r] 216));have R2:=hide q2;have R3:=hide q3;clear b1 s1 r2 r3 q2 q3
 go_wp2_with (first
  |(refine wpList_load_row rfl 216 (.tmp 3) rfl (w.heap.size+1) rfl 216 _ (0,0) _ R3.out Tryz.underlying216 rfl (by kernel_rfl) ?_)
  |(refine wpList_store_row rfl 216 (.tmp 2) (.tmp 25) rfl w.heap.size _ rfl rfl 216 _ R2.out (by kernel_rfl) rfl (by kernel_rfl) ?_))
 (try simp only [Exit.inBlock,Exit.then])
 refine bodyPost_ret (results_cell_row rfl _ _ w.heap.size 216 _ (0,0) _ rfl (setRow_heap _ _ _ _ _ _ R2.out) Tryz.underlying216 rfl (by kernel_rfl)) rfl ?_;exact ⟨rfl,below_setRow BW.out (Nat.le_refl _) _⟩
theorem zoA (p:Int) (w:World) (h:1048576≤p) (k:p<2031616∨2064384≤p) (l:p<2088960):Calls Tryz.prog 106 #[.int .i64 p] w fun e w'=>e=.returned (.agg #[.int .i64 8,.int .i64 0,.int .i64 0])∧Below w.heap.size w w':=by
 obtain ⟨g,hg⟩:∃g,g=p/8192:=⟨_,rfl⟩
 obtain ⟨r,hr⟩:∃r,r=p%8192:=⟨_,rfl⟩
 have c:=hide (fun w=>zni g r w (by omega) (by omega));have g0:g<255:=by omega
 have p1:p<2097152:=by omega
 have eg:p/8192=g:=hg.symm;have er:p%8192=r:=hr.symm;clear hg hr k l;go_enter Tryz.func106,Tryz.ntmps106;go_wp2_with fail;refine (c.out _).mono ?_;rintro e w1 ⟨rfl,b1⟩;have s1:=b1.size;have r2:=b1.block w.heap.size (by simp;omega);have r3:=b1.block (w.heap.size+1) (by simp);rw [heap_alloc2_old] at r2;rw [heap_alloc2_new] at r3;have q2:(w1.alloc (.cells #[.int .i64 8,.int .i64 0,.int .i64 0] 216)).heap[w.heap.size]? = some (.cells #[.int .i64 0,.int .i64 0,.int .i64 0] 216 (0,0)):=(((Below.refl w1.heap.size w1).alloc (Nat.le_refl _) _).block w.heap.size (lt_of_block r2)).trans r2;have q3:(w1.alloc (.cells #[.int .i64 8,.int .i64 0,.int .i64 0] 216)).heap[w.heap.size+1]? = some (.cells #[.int .i64 8,.int .i64 0,.int .i64 0] 216 (0,0)):=(((Below.refl w1.heap.size w1).alloc (Nat.le_refl _) _).block (w.heap.size+1) (lt_of_block r3)).trans r3;have BW:=hide (((((Below.refl w.heap.size w).alloc (Nat.le_refl _) (.cells #[.int .i64 0,.int .i64 0,.int .i64 0] 216)).alloc (by simp) (.cells #[.int .i64 8,.int .i64 0,.int .i64 0] 216)).trans (b1.mono (by simp;omega))).alloc (by simp at s1;omega) (.cells #[.int .i64 8,.int .i64 0,.int .i64 0] 216));have R2:=hide q2;have R3:=hide q3;clear b1 s1 r2 r3 q2 q3
 go_wp2_with (first
  |(refine wpList_load_row rfl 216 (.tmp 3) rfl (w.heap.size+1) rfl 216 _ (0,0) _ R3.out Tryz.underlying216 rfl (by kernel_rfl) ?_)
  |(refine wpList_store_row rfl 216 (.tmp 2) (.tmp 30) rfl w.heap.size _ rfl rfl 216 _ R2.out (by kernel_rfl) rfl (by kernel_rfl) ?_))
 (try simp only [Exit.inBlock,Exit.then])
 refine bodyPost_ret (results_cell_row rfl _ _ w.heap.size 216 _ (0,0) _ rfl (setRow_heap _ _ _ _ _ _ R2.out) Tryz.underlying216 rfl (by kernel_rfl)) rfl ?_;exact ⟨rfl,below_setRow BW.out (Nat.le_refl _) _⟩
theorem zjg (p x y:Int) (w:World) (hT:HasPorts w) (h:2088960≤p) (k:p<2097152)
  (cp:∀w,HasPorts w→Calls Tryz.prog 171 #[.int .i64 (p%8192)] w fun e w'=>e=.returned (.agg #[.int .i64 x,.int .i64 0,.int .i64 y])∧Below w.heap.size w w'):
  Calls Tryz.prog 106 #[.int .i64 p] w fun e w'=>e=.returned (.agg #[.int .i64 x,.int .i64 0,.int .i64 y])∧Below w.heap.size w w':=by
 obtain ⟨r,hr⟩:∃r,r=p%8192:=⟨_,rfl⟩
 have c:=hide (fun w=>zni 255 r w (by omega) (by omega));have eg:p/8192=255:=by omega
 have er:p%8192=r:=hr.symm;rw [er] at cp;have CP:=hide cp;have HT:=hide hT;clear hr cp hT;go_enter Tryz.func106,Tryz.ntmps106;go_wp2_with fail;refine (c.out _).mono ?_;rintro e w1 ⟨rfl,b1⟩;have s1:=b1.size;have r2:=b1.block w.heap.size (by simp;omega);have r3:=b1.block (w.heap.size+1) (by simp);rw [heap_alloc2_old] at r2;rw [heap_alloc2_new] at r3;have q2:(w1.alloc (.cells #[.int .i64 8,.int .i64 0,.int .i64 0] 216)).heap[w.heap.size]? = some (.cells #[.int .i64 0,.int .i64 0,.int .i64 0] 216 (0,0)):=(((Below.refl w1.heap.size w1).alloc (Nat.le_refl _) _).block w.heap.size (lt_of_block r2)).trans r2;have q3:(w1.alloc (.cells #[.int .i64 8,.int .i64 0,.int .i64 0] 216)).heap[w.heap.size+1]? = some (.cells #[.int .i64 8,.int .i64 0,.int .i64 0] 216 (0,0)):=(((Below.refl w1.heap.size w1).alloc (Nat.le_refl _) _).block (w.heap.size+1) (lt_of_block r3)).trans r3;have BW:=hide (((((Below.refl w.heap.size w).alloc (Nat.le_refl _) (.cells #[.int .i64 0,.int .i64 0,.int .i64 0] 216)).alloc (by simp) (.cells #[.int .i64 8,.int .i64 0,.int .i64 0] 216)).trans (b1.mono (by simp;omega))).alloc (by simp at s1;omega) (.cells #[.int .i64 8,.int .i64 0,.int .i64 0] 216));have R2:=hide q2;have R3:=hide q3;clear b1 s1 r2 r3 q2 q3
 go_wp2_with (first
  |(refine wpList_load_row rfl 216 (.tmp 3) rfl (w.heap.size+1) rfl 216 _ (0,0) _ R3.out Tryz.underlying216 rfl (by kernel_rfl) ?_))
 refine (CP.out _ (HT.out.next BW.out)).mono ?_;rintro e w3 ⟨rfl,b3⟩;have q3:=(b3.block w.heap.size (lt_of_block R2.out)).trans R2.out;have BX:=hide (zaz BW.out b3);clear R2 BW;have R2:=hide q3;have BW:=hide BX.out;clear q3 b3
 go_wp2_with (first
  |(refine wpList_store_row rfl 216 (.tmp 2) (.tmp 29) rfl w.heap.size _ rfl rfl 216 _ R2.out (by kernel_rfl) rfl (by kernel_rfl) ?_))
 (try simp only [Exit.inBlock,Exit.then])
 refine bodyPost_ret (results_cell_row rfl _ _ w.heap.size 216 _ (0,0) _ rfl (setRow_heap _ _ _ _ _ _ R2.out) Tryz.underlying216 rfl (by kernel_rfl)) rfl ?_;exact ⟨rfl,below_setRow BW.out (Nat.le_refl _) _⟩
theorem zlb (p:Int) (w:World) (hT:HasPorts w):Calls Tryz.prog 106 #[.int .i64 p] w fun e w'=>e=.returned (.agg #[.int .i64 (zaH p),.int .i64 (zcD p),.int .i64 (atW p)])∧Below w.heap.size w w':=by
 by_cases h1:p<0∨2097152≤p
 ·have ek:zaH p=8:=by unfold zaH;rw [if_pos h1]
  have eg:zcD p=0:=by unfold zcD;rw [if_neg (by omega)]
  have ea:atW p=0:=by unfold atW;rw [ek];rfl
  rw [ek,eg,ea];exact zla p w h1
 ·by_cases h2:p<1048576
  ·have ek:zaH p=0:=by unfold zaH;rw [if_neg h1,if_pos h2]
   have eg:zcD p=p/8192:=by unfold zcD;rw [if_pos (by omega)]
   have ea:atW p=p%8192:=by unfold atW;rw [ek];rfl
   rw [ek,eg,ea];exact zhW p w (by omega) h2
  ·have eg:zcD p=0:=by unfold zcD;rw [if_neg (by omega)]
   by_cases h3:2031616≤p∧p<2064384
   ·have ek:zaH p=1:=by unfold zaH;rw [if_neg h1,if_neg h2,if_pos h3]
    have ea:atW p=p%8192:=by unfold atW;rw [ek];rfl
    rw [ek,eg,ea];exact zhX p w h3.1 h3.2
   ·by_cases h4:p<2088960
    ·have ek:zaH p=8:=by unfold zaH;rw [if_neg h1,if_neg h2,if_neg h3,if_pos (by omega)]
     have ea:atW p=0:=by unfold atW;rw [ek];rfl
     rw [ek,eg,ea];exact zoA p w (by omega) (by omega) h4
    ·by_cases h5:2095104≤p
     ·have ek:zaH p=8:=by unfold zaH;rw [if_neg h1,if_neg h2,if_neg h3,if_pos (by omega)]
      have ea:atW p=0:=by unfold atW;rw [ek];rfl
      rw [ek,eg,ea];exact zjg p 8 0 w hT (by omega) (by omega) fun w _=>zup _ w (by omega) (by omega)
     ·obtain ⟨q,hq⟩:∃q:Nat,(q:Int)=(p-2088960)/1024:=⟨((p-2088960)/1024).toNat,by omega⟩
      have ek:zaH p=2+(q:Int):=by unfold zaH;rw [if_neg h1,if_neg h2,if_neg h3,if_neg (by omega),hq]
      have q6:q<6:=by omega
      have ea:atW p=p%8192%znh (2+q):=by
       unfold atW;rw [ek];rcases q with _|_|_|_|_|_|q
       ·show p%4=p%8192%4;omega
       ·show p%8=p%8192%8;omega
       ·show p%16=p%8192%16;omega
       ·show p%2=p%8192%2;omega
       ·show 0=p%8192%1;omega
       ·show p%4=p%8192%4;omega
       ·omega
      rw [ek,eg,ea];exact zjg p _ _ w hT (by omega) (by omega) fun w hT=>zxM _ q w hT q6 (by omega) (by omega)
end Go.Proofs.YtdiidjehdginnaaGreatDoor.G6
namespace Go.Proofs.YtdiidjehdginnaaGreatDoor.R15
set_option maxRecDepth 20000
variable {a:Act} {ops:Array Oper} {s:Int} {rest:List Oper} {b:Nat} {f:Nat→Int} {o:Oper} {P:Program} {T:TypeId} {w:World}
def andW (n m:Int):Int:=(((n%65536).toNat &&& m.toNat:Nat):Int)
def zjh (m:Int):Prop:=0≤m∧m<65536
theorem zuq (n m:Int) (h:zjh m):bits .and .i64 n m=andW n m:=by
 obtain ⟨h0,h1⟩:=h;obtain ⟨m,rfl⟩:=Int.eq_ofNat_of_zero_le h0;have e:(BitVec.ofInt 64 n &&& BitVec.ofInt 64 (m:Int)).toNat=(n%65536).toNat &&& m:=by
  rw [BitVec.toNat_and,BitVec.ofInt_natCast,BitVec.toNat_ofNat,Nat.mod_eq_of_lt (by omega:m<2 ^ 64),BitVec.toNat_ofInt];have h2:m=m%2 ^ 16:=(Nat.mod_eq_of_lt (by omega)).symm;have h3:(n%65536).toNat=(n%((2 ^ 64:Nat):Int)).toNat%2 ^ 16:=by omega
  rw [h3];generalize (n%((2 ^ 64:Nat):Int)).toNat=x
  conv=>rhs;rw [h2,←Nat.and_mod_two_pow]
  exact (Nat.mod_eq_of_lt (Nat.and_lt_two_pow _ (by omega))).symm
 show IntKind.i64.wrap ((BitVec.ofInt 64 n &&& BitVec.ofInt 64 (m:Int)).toNat:Nat)=_;rw [e];have hl:=Nat.and_lt_two_pow (n%65536).toNat (n:=16) (y:=m) (by omega);rw [zbE _ (by omega) (by omega)];unfold andW;simp
theorem zqM (n m:Int) (h:zjh m):zjh (andW n m):=by
 obtain ⟨h0,h1⟩:=h;unfold andW zjh;have hl:=Nat.and_lt_two_pow (n%65536).toNat (n:=16) (y:=m.toNat) (by omega);omega
def zAi (n m:Int):Nat→Int
 |0=>0
 |k+1=>zAi n m k+zaV n k*zaV m k*2 ^ k
def fits (n m:Int):Bool:=decide (0≤n∧n≤65535∧andW n m=n)
theorem zur (n m:Int) (hn:(Lit.int .i64 n).wf=true) (h:zjh m):(bits .andNot .i64 n m != 0)=!fits n m:=by
 have hw:IntKind.i64.wrap n=n:=by
  have k:IntKind.i64.min≤n∧n≤9223372036854775807:=by simpa [Lit.wf] using hn
  rw [show IntKind.i64.min = -9223372036854775808 by decide] at k;rw [IntKind.wrap_i64];omega
 have hand:=zuq n m h;have hm:=zqM n m h;have hs:=zmT (BitVec.ofInt 64 n) (BitVec.ofInt 64 m);have hb:bits .andNot .i64 n m=IntKind.i64.wrap ((BitVec.ofInt 64 n &&& ~~~ BitVec.ofInt 64 m).toNat:Nat):=rfl;have ha:bits .and .i64 n m=IntKind.i64.wrap ((BitVec.ofInt 64 n &&& BitVec.ofInt 64 m).toNat:Nat):=rfl;have hx:((BitVec.ofInt 64 n).toNat:Int)=n%((2 ^ 64:Nat):Int):=by
  rw [BitVec.toNat_ofInt];exact Int.toNat_of_nonneg (Int.emod_nonneg _ (by decide))
 have ht:=BitVec.toNat_add_of_and_eq_zero (zjG (BitVec.ofInt 64 n) (BitVec.ofInt 64 m));rw [hs] at ht;rw [hand] at ha;have l1:=(BitVec.ofInt 64 n &&& ~~~ BitVec.ofInt 64 m).isLt;have l2:=(BitVec.ofInt 64 n &&& BitVec.ofInt 64 m).isLt;have l3:=(BitVec.ofInt 64 n).isLt;rw [hb];obtain ⟨m0,m1⟩:=hm;generalize (BitVec.ofInt 64 n &&& ~~~ BitVec.ofInt 64 m).toNat=a at *;generalize (BitVec.ofInt 64 n &&& BitVec.ofInt 64 m).toNat=b at *;generalize (BitVec.ofInt 64 n).toNat=c at *;rw [IntKind.wrap_i64] at ha hw ⊢;unfold fits;generalize andW n m=d at *
 by_cases hq:0≤n∧n≤65535∧d=n
 ·rw [decide_eq_true hq];have:(a:Int)=0:=by omega
  rw [this]
  decide
 ·rw [decide_eq_false hq];have:((a:Int)+2 ^ 63)%2 ^ 64-2 ^ 63≠0:=by omega
  simpa using this
def zxN (n b:Int):Int:=b%256+256*(n/256%256)
def zqN (n b:Int):Int:=n%256+256*(b%256)
def zAj:List Int:=[65535,65535,65535,0,0,8191,1023,1023,511,255,32543,32639,65311,511,255,31,65535,65535,65535,65535]
def mk (k:Nat):Int:=zAj.getD k 0
theorem zAk:∀k:Fin 20,0≤mk k.val∧mk k.val<65536∧andW (zqN (andW (zxN 0 255) (mk k.val)) 255) (mk k.val)=mk k.val:=by decide +kernel
theorem zqO (k:Nat):zjh (mk k):=by
 by_cases h:k<20
 ·have:=zAk ⟨k,h⟩;exact ⟨this.1,this.2.1⟩
 ·have e:mk k=0:=by
   unfold mk;rw [List.getD_eq_getElem?_getD,List.getElem?_eq_none (by simp [zAj];omega)];rfl
  rw [e];exact ⟨by decide,by decide⟩
def okTo (f:Nat→Int):Nat→Bool
 |0=>true
 |k+1=>okTo f k&&fits (f k) (mk k)
theorem zjR (f:Nat→Int):∀n:Nat,okTo f n=true↔∀k,k<n→fits (f k) (mk k)=true
 |0=>by simp [okTo]
 |n+1=>by
  simp only [okTo,Bool.and_eq_true,zjR f n];constructor
  ·rintro ⟨a,b⟩ k hk
   by_cases e:k=n
   ·subst e;exact b
   ·exact a k (by omega)
  ·intro a;exact ⟨fun k hk=>a k (by omega),a n (by omega)⟩
def okR (s:Int) (f:Nat→Int):Bool:=okTo f 20&&decide (0≤s∧s≤31)
open Go.RowKit
set_option linter.unusedVariables false
def rowG (s:Int) (f:Nat→Int):Array Value:=(.int .i64 s::(List.range 20).map fun j=>Value.int .i64 (f j)).toArray
theorem rowG_size (s:Int) (f:Nat→Int):(rowG s f).size=21:=by simp [rowG]
theorem rowG_0 (s:Int) (f:Nat→Int):(rowG s f)[0]? = some (.int .i64 s):=by simp [rowG]
theorem rowG_at (s:Int) (f:Nat→Int) (j:Nat) (h:j<20):(rowG s f)[1+j]? = some (.int .i64 (f j)):=by
 rw [show 1+j=j+1 by omega];simp [rowG,h]
def HasG (T:TypeId) (w:World) (b:Nat) (s:Int) (f:Nat→Int):Prop:=w.heap[b]? = some (.cells (rowG s f) T (0,0))
theorem HasG.next {w':World} (h:HasG T w b s f) (k:Below w.heap.size w w'):HasG T w' b s f:=(k.block b (lt_of_block h)).trans h
theorem HasG.alloc (h:HasG T w b s f) (x:Obj):HasG T (w.alloc x) b s f:=h.next ((Below.refl _ w).alloc (Nat.le_refl _) _)
theorem zcj (T:TypeId) (w:World) (s:Int) (f:Nat→Int):HasG T (w.alloc (.cells (rowG s f) T)) w.heap.size s f:=heap_alloc_new _ _
theorem HasG.lt (h:HasG T w b s f):b<w.heap.size:=lt_of_block h
theorem HasG.c0 (h:HasG T w b s f):w.cell? ⟨b,0,none⟩=some (.int .i64 s):=(cell_of_row w b 0 _ _ _ h).trans (rowG_0 s f)
theorem HasG.at (h:HasG T w b s f) (j:Nat) (hj:j<20):w.cell? ⟨b,1+j,none⟩=some (.int .i64 (f j)):=(cell_of_row w b (1+j) _ _ _ h).trans (rowG_at s f j hj)
theorem HasG.frozen (h:HasG T w b s f) (j:Nat):w.frozen? ⟨b,j,none⟩=false:=frozen_of_row w b j _ _ h
def upd (f:Nat→Int) (i:Nat) (v:Int):Nat→Int:=fun j=>if j=i then v else f j
theorem zqP (s x:Int) (f:Nat→Int):(rowG s f).setIfInBounds 0 (.int .i64 x)=rowG x f:=by
 unfold rowG;rw [List.setIfInBounds_toArray];rfl
theorem map_set (N i:Nat) (x:Int) (f:Nat→Int):((List.range N).map fun j=>Value.int .i64 (f j)).set i (.int .i64 x)=(List.range N).map fun j=>Value.int .i64 (upd f i x j):=by
 apply List.ext_getElem?;intro j;rw [List.getElem?_set];simp only [List.getElem?_map,List.length_map,List.length_range]
 by_cases h:i=j
 ·subst h
  by_cases k:i<N
  ·simp [k,upd]
  ·simp [k]
 ·rw [if_neg h]
  by_cases k:j<N
  ·simp [k,upd,show ¬j=i from fun e=>h e.symm]
  ·simp [k]
theorem zus (s x:Int) (f:Nat→Int) (i:Nat):(rowG s f).setIfInBounds (1+i) (.int .i64 x)=rowG s (upd f i x):=by
 unfold rowG;rw [List.setIfInBounds_toArray,show 1+i=i+1 by omega,List.set_cons_succ,map_set]
theorem zdu (s:Int) (f:Nat→Int):(rowG s f).all (·.oneCell')=true:=by
 unfold rowG;rw [←Array.all_toList];simp [Value.oneCell']
theorem HasG.set (h:HasG T w b s f) (i:Nat) (x:Int):HasG T (w.setCell ⟨b,1+i,none⟩ (.int .i64 x)) b s (upd f i x):=by
 have k:=heap_setCell_same w b (1+i) _ _ (.int .i64 x) h;rw [zus] at k;exact k
theorem zut:(#[.int .i64 0,.int .i64 0,.int .i64 0,.int .i64 0,.int .i64 0,.int .i64 0,.int .i64 0,.int .i64 0,.int .i64 0,.int .i64 0,.int .i64 0,.int .i64 0,.int .i64 0,.int .i64 0,.int .i64 0,.int .i64 0,.int .i64 0,.int .i64 0,.int .i64 0,.int .i64 0,.int .i64 0]:Array Value)=rowG 0 (fun _=>0):=rfl
theorem zbR (s:Int) (f:Nat→Int):(Tryz.prog.info? 32).map (·.size)=some (rowG s f).size:=by
 rw [rowG_size]
 kernel_rfl
def ziR (f:Nat→Int):List Int:=(List.range 20).map f
theorem zhc (f:Nat→Int):(ziR f).length=20:=by simp [ziR]
theorem size_int (w:World):(sizeOf 3).run Tryz.prog w=.ok 1 w:=by
 have h:(Tryz.prog.info? 3).map (·.size)=some 1:=by kernel_rfl
 cases hq:Tryz.prog.info? 3 with
 |none=>rw [hq] at h;cases h
 |some i=>
  rw [hq] at h;have:i.size=1:=by simpa using h
  simp [sizeOf,typeInfo,hq,this]
theorem HasG.range (h:HasG T w b s f):w.rangeAt b 1 ((ziR f).map (Value.int .i64)):=by
 intro j v hv;obtain ⟨hj,he⟩:=List.getElem?_eq_some_iff.1 hv;have h5:j<20:=by simpa [zhc] using hj
 rw [h.at j h5,←he];simp [ziR]
theorem zAl (f:Nat→Int):(Tryz.prog.info? 30).map (·.size)=some ((ziR f).map (Value.int .i64)).length:=by
 rw [List.length_map,zhc]
 kernel_rfl
theorem zqs {Q:Exit→Act→World→Prop} (hw:Region.wanted o (yielded ops a.tmps)=true) (ty:TypeId) (x:Operand) (ho:o.op=.load ty x)
  (g:Nat) (hx:a.eval x=.pointer (some ⟨g,0,none⟩)) (t:TypeId) (cs:Array Value) (fr:Nat×Nat) (d:TypeDesc) (hg:w.heap[g]? = some (.cells cs t fr))
  (hu:P.underlying ty=some d) (hd:(match d with|.struct _|.array _ _=>true|_=>false)=true) (hi:(P.info? ty).map (·.size)=some cs.size)
  (h:wpList P ops Q rest (a.put o.dst (.agg cs)) w):wpList P ops Q (o::rest) a w:=
 BigFrame.wpList_want hw fun _ hK=>wp_load_row ty x ho g hx t cs fr d hg hu hd hi (hK _ _ h)
theorem wpQuiet_row {C:World→Prop} {Q:Act→Prop} (hw:Region.wanted o (yielded ops a.tmps)=true) (ty:TypeId) (x:Operand) (ho:o.op=.load ty x)
  (g:Nat) (hx:a.eval x=.pointer (some ⟨g,0,none⟩)) (t:TypeId) (cs:Array Value) (fr:Nat×Nat) (d:TypeDesc) (hg:∀w,C w→w.heap[g]? = some (.cells cs t fr))
  (hu:P.underlying ty=some d) (hd:(match d with|.struct _|.array _ _=>true|_=>false)=true) (hi:(P.info? ty).map (·.size)=some cs.size)
  (h:wpQuiet P ops C Q rest (a.put o.dst (.agg cs))):wpQuiet P ops C Q (o::rest) a:=by
 unfold wpQuiet;rw [if_pos hw];refine ⟨.agg cs,fun w hC=>?_,h⟩;unfold Oper.quietAt execOp;simp only [ho,hx,Instr.loadAt,Instr.sureAddr,Sem.run_bind,Sem.run_pure,Result.andThen_ok,run_loadVar_row w g t ty cs fr d (hg w hC) hu hd hi];exact ⟨rfl,rfl⟩
theorem tab_index (f:Nat→Int) (k:Nat) (hk:k<20) (w:World):(Instr.index 30 (.agg ((ziR f).map (Value.int .i64)).toArray) (.int .i64 (k:Int))).run Tryz.prog w=.ok (.int .i64 (f k)) w:=by
 have e:((ziR f).map (Value.int .i64)).toArray[k]? = some (.int .i64 (f k)):=by simp [ziR,hk]
 have h0:(0:Int)≤k∧(k:Int)<((20:Nat):Int):=by omega
 have h1:(k:Int)<20:=by omega
 have hs:=size_int w;generalize ((ziR f).map (Value.int .i64)).toArray=cs at e ⊢;simp only [Instr.index,asIntOf,part];simp only [run_underlying Tryz.underlying30,Sem.run_bind,Result.andThen];simp [h0,h1,hs,e,isAgg,run_underlying Tryz.underlying3,Result.andThen]
def zez:Array Value:=(zAj.map (Value.int .i64)).toArray
def HasMask (w:World):Prop:=∃t fr,w.heap[2]? = some (.cells zez t fr)
theorem HasMask.pos (h:HasMask w):2<w.heap.size:=by
 obtain ⟨t,fr,e⟩:=h;exact lt_of_block e
theorem HasMask.next {w':World} (h:HasMask w) (b:Below w.heap.size w w'):HasMask w':=by
 have k:=h.pos;obtain ⟨t,fr,e⟩:=h;exact ⟨t,fr,(b.block 2 k).trans e⟩
theorem zqQ:∀k:Fin 20,zAj[k.val]? = some (mk k.val):=by decide +kernel
theorem HasMask.at (h:HasMask w) (k:Nat) (hk:k<20):w.cell? ⟨2,k,none⟩=some (.int .i64 (mk k)):=by
 obtain ⟨t,fr,e⟩:=h;rw [cell_of_row w 2 k _ _ _ e];have:=zqQ ⟨k,hk⟩;simp only at this;simp [zez,this]
def halfOf (n a b:Int):Int:=if a=2 then zxN n b else zqN n b
theorem zuu (n a b x:Int) (hx:halfOf n a b=x) (w:World):Calls Tryz.prog 262 #[.int .i64 n,.int .i64 a,.int .i64 b] w fun e w'=>e=.returned (.int .i64 x)∧Below w.heap.size w w':=by
 unfold halfOf zxN zqN at hx;have HX:=hide hx;clear hx
 by_cases h:a=2
 ·have HH:=hide h;go_enter Tryz.func262,Tryz.ntmps262;go_wp2_with (first|(go_at_call 125;refine (zbf _ _).mono ?_;rintro e w' ⟨rfl,hw⟩;subst w')|(go_at_call 118;refine (zcT _ _ _).mono ?_;rintro e w' ⟨rfl,bw⟩));go_ret;exact ⟨zat (by rw [←HX.out,if_pos HH.out]),bw⟩
 ·have HH:=hide h;go_enter Tryz.func262,Tryz.ntmps262;go_wp2_with (first|(go_at_call 125;refine (zbf _ _).mono ?_;rintro e w' ⟨rfl,hw⟩;subst w')|(go_at_call 118;refine (zcT _ _ _).mono ?_;rintro e w' ⟨rfl,bw⟩));go_ret;exact ⟨zat (by rw [←HX.out,if_neg HH.out]),bw⟩
def bringsOf (s a:Int):Int:=if s=0 then 1 else if a=2 then (if s=2 then 3 else 0) else if s=1 then 2 else if s=2 then 4 else if s=5 then 5 else if s=18 then 6 else if s=19 then 7 else 0
theorem zoB (s a x:Int) (hx:bringsOf s a=x) (w:World):Calls Tryz.prog 263 #[.int .i64 s,.int .i64 a] w fun e w'=>e=.returned (.int .i64 x)∧w'=w:=by
 unfold bringsOf at hx;have HX:=hide hx;clear hx
 by_cases h0:s=0
 ·rw [if_pos h0] at HX;subst h0;go_enter Tryz.func263,Tryz.ntmps263;go_wp2;go_ret;exact ⟨zat HX.out,rfl⟩
 ·rw [if_neg h0] at HX
  by_cases ha:a=2
  ·rw [if_pos ha] at HX;subst ha
   by_cases h2:s=2
   ·rw [if_pos h2] at HX;subst h2;go_enter Tryz.func263,Tryz.ntmps263;go_wp2;go_ret;exact ⟨zat HX.out,rfl⟩
   ·rw [if_neg h2] at HX;go_enter Tryz.func263,Tryz.ntmps263;go_wp2;go_ret;exact ⟨zat HX.out,rfl⟩
  ·rw [if_neg ha] at HX;have ha2:(a==2)=false:=by simpa using ha
   by_cases h1:s=1
   ·subst h1;go_enter Tryz.func263,Tryz.ntmps263;go_wp2;go_ret;exact ⟨zat HX.out,rfl⟩
   ·by_cases h2:s=2
    ·subst h2;go_enter Tryz.func263,Tryz.ntmps263;go_wp2;go_ret;exact ⟨zat HX.out,rfl⟩
    ·by_cases h5:s=5
     ·subst h5;go_enter Tryz.func263,Tryz.ntmps263;go_wp2;go_ret;exact ⟨zat HX.out,rfl⟩
     ·by_cases h8:s=18
      ·subst h8;go_enter Tryz.func263,Tryz.ntmps263;go_wp2;go_ret;exact ⟨zat HX.out,rfl⟩
      ·by_cases h9:s=19
       ·subst h9;go_enter Tryz.func263,Tryz.ntmps263;go_wp2;go_ret;exact ⟨zat HX.out,rfl⟩
       ·rw [if_neg h1,if_neg h2,if_neg h5,if_neg h8,if_neg h9] at HX;go_enter Tryz.func263,Tryz.ntmps263;go_wp2;go_ret;exact ⟨zat HX.out,rfl⟩
theorem and_31 (n:Int):bits .and .i64 n 31=n%32:=zbt 5 (by decide) n
theorem write_sel (s b x:Int) (f:Nat→Int) (hx:b%32=x) (w:World):Calls Tryz.prog 242 #[.agg (rowG s f),.int .i64 0,.int .i64 b] w fun e w'=>e=.returned (.tuple #[.agg (rowG x f),.int .i64 0])∧Below w.heap.size w w':=by
 have e5:=and_31 b;rw [hx] at e5;clear hx;have V0:=(zcj 32 w s f).alloc (.cells #[.int .i64 0,.int .i64 0,.int .i64 0,.int .i64 0,.int .i64 0,.int .i64 0,.int .i64 0,.int .i64 0,.int .i64 0,.int .i64 0,.int .i64 0,.int .i64 0,.int .i64 0,.int .i64 0,.int .i64 0,.int .i64 0,.int .i64 0,.int .i64 0,.int .i64 0,.int .i64 0,.int .i64 0] 32);have Z0:=heap_alloc2_new w (.cells (rowG s f) 32) (.cells #[.int .i64 0,.int .i64 0,.int .i64 0,.int .i64 0,.int .i64 0,.int .i64 0,.int .i64 0,.int .i64 0,.int .i64 0,.int .i64 0,.int .i64 0,.int .i64 0,.int .i64 0,.int .i64 0,.int .i64 0,.int .i64 0,.int .i64 0,.int .i64 0,.int .i64 0,.int .i64 0,.int .i64 0] 32);have B0:=((Below.refl _ w).alloc (Nat.le_refl _) (.cells (rowG s f) 32)).alloc (by simp) (.cells #[.int .i64 0,.int .i64 0,.int .i64 0,.int .i64 0,.int .i64 0,.int .i64 0,.int .i64 0,.int .i64 0,.int .i64 0,.int .i64 0,.int .i64 0,.int .i64 0,.int .i64 0,.int .i64 0,.int .i64 0,.int .i64 0,.int .i64 0,.int .i64 0,.int .i64 0,.int .i64 0,.int .i64 0] 32);have c0:=V0.c0;have z0:=V0.frozen 0;clear V0 Z0 B0;have hr:=zqP s x f;have V1:=hide ((zcj 32 w x f).alloc (.cells #[.int .i64 0,.int .i64 0,.int .i64 0,.int .i64 0,.int .i64 0,.int .i64 0,.int .i64 0,.int .i64 0,.int .i64 0,.int .i64 0,.int .i64 0,.int .i64 0,.int .i64 0,.int .i64 0,.int .i64 0,.int .i64 0,.int .i64 0,.int .i64 0,.int .i64 0,.int .i64 0,.int .i64 0] 32));have Z1:=hide (heap_alloc2_new w (.cells (rowG x f) 32) (.cells #[.int .i64 0,.int .i64 0,.int .i64 0,.int .i64 0,.int .i64 0,.int .i64 0,.int .i64 0,.int .i64 0,.int .i64 0,.int .i64 0,.int .i64 0,.int .i64 0,.int .i64 0,.int .i64 0,.int .i64 0,.int .i64 0,.int .i64 0,.int .i64 0,.int .i64 0,.int .i64 0,.int .i64 0] 32));have B1:=hide (((Below.refl _ w).alloc (Nat.le_refl _) (.cells (rowG x f) 32)).alloc (by simp) (.cells #[.int .i64 0,.int .i64 0,.int .i64 0,.int .i64 0,.int .i64 0,.int .i64 0,.int .i64 0,.int .i64 0,.int .i64 0,.int .i64 0,.int .i64 0,.int .i64 0,.int .i64 0,.int .i64 0,.int .i64 0,.int .i64 0,.int .i64 0,.int .i64 0,.int .i64 0,.int .i64 0,.int .i64 0] 32));go_enter Tryz.func242,Tryz.ntmps242
 go_wp2_with (first
  |(refine wpList_load_row rfl 32 (.tmp 3) rfl w.heap.size rfl 32 _ (0,0) _ V1.out Tryz.underlying32 rfl (zbR _ _) ?_)
  |(refine wpList_store_row rfl 32 (.tmp 6) (.tmp 14) rfl (w.heap.size+1) _ rfl rfl 32 _ Z1.out (zbR _ _) (by rw [rowG_size];rfl) (zdu _ _) ?_)
  |(refine bodyPost_ret (zaG rfl _ _ (w.heap.size+1) 32 _ (0,0) _ rfl (setRow_heap _ _ _ _ _ _ Z1.out) Tryz.underlying32 rfl (zbR _ _)) rfl ⟨rfl,below_setRow B1.out (Nat.le_succ _) _⟩))
theorem write_no (a s b:Int) (f:Nat→Int) (h:a≠0∧(a=2∨a=3→s<0∨20≤s)) (w:World):Calls Tryz.prog 242 #[.agg (rowG s f),.int .i64 a,.int .i64 b] w fun e w'=>e=.returned (.tuple #[.agg (rowG s f),.int .i64 0])∧Below w.heap.size w w':=by
 obtain ⟨h0,hs⟩:=h
 by_cases h2:a=2
 ·subst h2;rcases hs (.inl rfl) with k|k
  ·clear hs;have V0:=(zcj 32 w s f).alloc (.cells #[.int .i64 0,.int .i64 0,.int .i64 0,.int .i64 0,.int .i64 0,.int .i64 0,.int .i64 0,.int .i64 0,.int .i64 0,.int .i64 0,.int .i64 0,.int .i64 0,.int .i64 0,.int .i64 0,.int .i64 0,.int .i64 0,.int .i64 0,.int .i64 0,.int .i64 0,.int .i64 0,.int .i64 0] 32);have Z0:=heap_alloc2_new w (.cells (rowG s f) 32) (.cells #[.int .i64 0,.int .i64 0,.int .i64 0,.int .i64 0,.int .i64 0,.int .i64 0,.int .i64 0,.int .i64 0,.int .i64 0,.int .i64 0,.int .i64 0,.int .i64 0,.int .i64 0,.int .i64 0,.int .i64 0,.int .i64 0,.int .i64 0,.int .i64 0,.int .i64 0,.int .i64 0,.int .i64 0] 32);have B0:=((Below.refl _ w).alloc (Nat.le_refl _) (.cells (rowG s f) 32)).alloc (by simp) (.cells #[.int .i64 0,.int .i64 0,.int .i64 0,.int .i64 0,.int .i64 0,.int .i64 0,.int .i64 0,.int .i64 0,.int .i64 0,.int .i64 0,.int .i64 0,.int .i64 0,.int .i64 0,.int .i64 0,.int .i64 0,.int .i64 0,.int .i64 0,.int .i64 0,.int .i64 0,.int .i64 0,.int .i64 0] 32);have c0:=V0.c0;have z0:=V0.frozen 0;have V1:=hide V0;have Z1:=hide Z0;have B1:=hide B0;clear V0 Z0 B0;go_enter Tryz.func242,Tryz.ntmps242
   go_wp2_with (first
    |(refine wpList_load_row rfl 32 (.tmp 3) rfl w.heap.size rfl 32 _ (0,0) _ V1.out Tryz.underlying32 rfl (zbR _ _) ?_)
    |(refine wpList_store_row rfl 32 (.tmp 6) (.tmp 48) rfl (w.heap.size+1) _ rfl rfl 32 _ Z1.out (zbR _ _) (by rw [rowG_size];rfl) (zdu _ _) ?_)
    |(refine bodyPost_ret (zaG rfl _ _ (w.heap.size+1) 32 _ (0,0) _ rfl (setRow_heap _ _ _ _ _ _ Z1.out) Tryz.underlying32 rfl (zbR _ _)) rfl ⟨rfl,below_setRow B1.out (Nat.le_succ _) _⟩))
  ·clear hs;have V0:=(zcj 32 w s f).alloc (.cells #[.int .i64 0,.int .i64 0,.int .i64 0,.int .i64 0,.int .i64 0,.int .i64 0,.int .i64 0,.int .i64 0,.int .i64 0,.int .i64 0,.int .i64 0,.int .i64 0,.int .i64 0,.int .i64 0,.int .i64 0,.int .i64 0,.int .i64 0,.int .i64 0,.int .i64 0,.int .i64 0,.int .i64 0] 32);have Z0:=heap_alloc2_new w (.cells (rowG s f) 32) (.cells #[.int .i64 0,.int .i64 0,.int .i64 0,.int .i64 0,.int .i64 0,.int .i64 0,.int .i64 0,.int .i64 0,.int .i64 0,.int .i64 0,.int .i64 0,.int .i64 0,.int .i64 0,.int .i64 0,.int .i64 0,.int .i64 0,.int .i64 0,.int .i64 0,.int .i64 0,.int .i64 0,.int .i64 0] 32);have B0:=((Below.refl _ w).alloc (Nat.le_refl _) (.cells (rowG s f) 32)).alloc (by simp) (.cells #[.int .i64 0,.int .i64 0,.int .i64 0,.int .i64 0,.int .i64 0,.int .i64 0,.int .i64 0,.int .i64 0,.int .i64 0,.int .i64 0,.int .i64 0,.int .i64 0,.int .i64 0,.int .i64 0,.int .i64 0,.int .i64 0,.int .i64 0,.int .i64 0,.int .i64 0,.int .i64 0,.int .i64 0] 32);have c0:=V0.c0;have z0:=V0.frozen 0;have V1:=hide V0;have Z1:=hide Z0;have B1:=hide B0;clear V0 Z0 B0;go_enter Tryz.func242,Tryz.ntmps242
   go_wp2_with (first
    |(refine wpList_load_row rfl 32 (.tmp 3) rfl w.heap.size rfl 32 _ (0,0) _ V1.out Tryz.underlying32 rfl (zbR _ _) ?_)
    |(refine wpList_store_row rfl 32 (.tmp 6) (.tmp 48) rfl (w.heap.size+1) _ rfl rfl 32 _ Z1.out (zbR _ _) (by rw [rowG_size];rfl) (zdu _ _) ?_)
    |(refine bodyPost_ret (zaG rfl _ _ (w.heap.size+1) 32 _ (0,0) _ rfl (setRow_heap _ _ _ _ _ _ Z1.out) Tryz.underlying32 rfl (zbR _ _)) rfl ⟨rfl,below_setRow B1.out (Nat.le_succ _) _⟩))
 ·by_cases h3:a=3
  ·subst h3;rcases hs (.inr rfl) with k|k
   ·clear hs;have V0:=(zcj 32 w s f).alloc (.cells #[.int .i64 0,.int .i64 0,.int .i64 0,.int .i64 0,.int .i64 0,.int .i64 0,.int .i64 0,.int .i64 0,.int .i64 0,.int .i64 0,.int .i64 0,.int .i64 0,.int .i64 0,.int .i64 0,.int .i64 0,.int .i64 0,.int .i64 0,.int .i64 0,.int .i64 0,.int .i64 0,.int .i64 0] 32);have Z0:=heap_alloc2_new w (.cells (rowG s f) 32) (.cells #[.int .i64 0,.int .i64 0,.int .i64 0,.int .i64 0,.int .i64 0,.int .i64 0,.int .i64 0,.int .i64 0,.int .i64 0,.int .i64 0,.int .i64 0,.int .i64 0,.int .i64 0,.int .i64 0,.int .i64 0,.int .i64 0,.int .i64 0,.int .i64 0,.int .i64 0,.int .i64 0,.int .i64 0] 32);have B0:=((Below.refl _ w).alloc (Nat.le_refl _) (.cells (rowG s f) 32)).alloc (by simp) (.cells #[.int .i64 0,.int .i64 0,.int .i64 0,.int .i64 0,.int .i64 0,.int .i64 0,.int .i64 0,.int .i64 0,.int .i64 0,.int .i64 0,.int .i64 0,.int .i64 0,.int .i64 0,.int .i64 0,.int .i64 0,.int .i64 0,.int .i64 0,.int .i64 0,.int .i64 0,.int .i64 0,.int .i64 0] 32);have c0:=V0.c0;have z0:=V0.frozen 0;have V1:=hide V0;have Z1:=hide Z0;have B1:=hide B0;clear V0 Z0 B0;go_enter Tryz.func242,Tryz.ntmps242
    go_wp2_with (first
     |(refine wpList_load_row rfl 32 (.tmp 3) rfl w.heap.size rfl 32 _ (0,0) _ V1.out Tryz.underlying32 rfl (zbR _ _) ?_)
     |(refine wpList_store_row rfl 32 (.tmp 6) (.tmp 48) rfl (w.heap.size+1) _ rfl rfl 32 _ Z1.out (zbR _ _) (by rw [rowG_size];rfl) (zdu _ _) ?_)
     |(refine bodyPost_ret (zaG rfl _ _ (w.heap.size+1) 32 _ (0,0) _ rfl (setRow_heap _ _ _ _ _ _ Z1.out) Tryz.underlying32 rfl (zbR _ _)) rfl ⟨rfl,below_setRow B1.out (Nat.le_succ _) _⟩))
   ·clear hs;have V0:=(zcj 32 w s f).alloc (.cells #[.int .i64 0,.int .i64 0,.int .i64 0,.int .i64 0,.int .i64 0,.int .i64 0,.int .i64 0,.int .i64 0,.int .i64 0,.int .i64 0,.int .i64 0,.int .i64 0,.int .i64 0,.int .i64 0,.int .i64 0,.int .i64 0,.int .i64 0,.int .i64 0,.int .i64 0,.int .i64 0,.int .i64 0] 32);have Z0:=heap_alloc2_new w (.cells (rowG s f) 32) (.cells #[.int .i64 0,.int .i64 0,.int .i64 0,.int .i64 0,.int .i64 0,.int .i64 0,.int .i64 0,.int .i64 0,.int .i64 0,.int .i64 0,.int .i64 0,.int .i64 0,.int .i64 0,.int .i64 0,.int .i64 0,.int .i64 0,.int .i64 0,.int .i64 0,.int .i64 0,.int .i64 0,.int .i64 0] 32);have B0:=((Below.refl _ w).alloc (Nat.le_refl _) (.cells (rowG s f) 32)).alloc (by simp) (.cells #[.int .i64 0,.int .i64 0,.int .i64 0,.int .i64 0,.int .i64 0,.int .i64 0,.int .i64 0,.int .i64 0,.int .i64 0,.int .i64 0,.int .i64 0,.int .i64 0,.int .i64 0,.int .i64 0,.int .i64 0,.int .i64 0,.int .i64 0,.int .i64 0,.int .i64 0,.int .i64 0,.int .i64 0] 32);have c0:=V0.c0;have z0:=V0.frozen 0;have V1:=hide V0;have Z1:=hide Z0;have B1:=hide B0;clear V0 Z0 B0;go_enter Tryz.func242,Tryz.ntmps242
    go_wp2_with (first
     |(refine wpList_load_row rfl 32 (.tmp 3) rfl w.heap.size rfl 32 _ (0,0) _ V1.out Tryz.underlying32 rfl (zbR _ _) ?_)
     |(refine wpList_store_row rfl 32 (.tmp 6) (.tmp 48) rfl (w.heap.size+1) _ rfl rfl 32 _ Z1.out (zbR _ _) (by rw [rowG_size];rfl) (zdu _ _) ?_)
     |(refine bodyPost_ret (zaG rfl _ _ (w.heap.size+1) 32 _ (0,0) _ rfl (setRow_heap _ _ _ _ _ _ Z1.out) Tryz.underlying32 rfl (zbR _ _)) rfl ⟨rfl,below_setRow B1.out (Nat.le_succ _) _⟩))
  ·clear hs;have V0:=(zcj 32 w s f).alloc (.cells #[.int .i64 0,.int .i64 0,.int .i64 0,.int .i64 0,.int .i64 0,.int .i64 0,.int .i64 0,.int .i64 0,.int .i64 0,.int .i64 0,.int .i64 0,.int .i64 0,.int .i64 0,.int .i64 0,.int .i64 0,.int .i64 0,.int .i64 0,.int .i64 0,.int .i64 0,.int .i64 0,.int .i64 0] 32);have Z0:=heap_alloc2_new w (.cells (rowG s f) 32) (.cells #[.int .i64 0,.int .i64 0,.int .i64 0,.int .i64 0,.int .i64 0,.int .i64 0,.int .i64 0,.int .i64 0,.int .i64 0,.int .i64 0,.int .i64 0,.int .i64 0,.int .i64 0,.int .i64 0,.int .i64 0,.int .i64 0,.int .i64 0,.int .i64 0,.int .i64 0,.int .i64 0,.int .i64 0] 32);have B0:=((Below.refl _ w).alloc (Nat.le_refl _) (.cells (rowG s f) 32)).alloc (by simp) (.cells #[.int .i64 0,.int .i64 0,.int .i64 0,.int .i64 0,.int .i64 0,.int .i64 0,.int .i64 0,.int .i64 0,.int .i64 0,.int .i64 0,.int .i64 0,.int .i64 0,.int .i64 0,.int .i64 0,.int .i64 0,.int .i64 0,.int .i64 0,.int .i64 0,.int .i64 0,.int .i64 0,.int .i64 0] 32);have c0:=V0.c0;have z0:=V0.frozen 0;have V1:=hide V0;have Z1:=hide Z0;have B1:=hide B0;clear V0 Z0 B0;go_enter Tryz.func242,Tryz.ntmps242
   go_wp2_with (first
    |(refine wpList_load_row rfl 32 (.tmp 3) rfl w.heap.size rfl 32 _ (0,0) _ V1.out Tryz.underlying32 rfl (zbR _ _) ?_)
    |(refine wpList_store_row rfl 32 (.tmp 6) (.tmp 48) rfl (w.heap.size+1) _ rfl rfl 32 _ Z1.out (zbR _ _) (by rw [rowG_size];rfl) (zdu _ _) ?_)
    |(refine bodyPost_ret (zaG rfl _ _ (w.heap.size+1) 32 _ (0,0) _ rfl (setRow_heap _ _ _ _ _ _ Z1.out) Tryz.underlying32 rfl (zbR _ _)) rfl ⟨rfl,below_setRow B1.out (Nat.le_succ _) _⟩))
theorem write_at (i:Nat) (hi:i<20) (a b h m y x:Int) (f:Nat→Int) (ha:a=2∨a=3) (hh:halfOf (f i) a b=h) (hm:mk i=m) (hy:bits .and .i64 h m=y) (hx:bringsOf (i:Int) a=x) (w:World) (hM:HasMask w):
  Calls Tryz.prog 242 #[.agg (rowG (i:Int) f),.int .i64 a,.int .i64 b] w fun e w'=>e=.returned (.tuple #[.agg (rowG (i:Int) (upd f i y)),.int .i64 x])∧Below w.heap.size w w':=by
 have CH:=hide (zuu (f i) a b h hh);have CB:=hide (zoB (i:Int) a x hx);clear hh hx;have V0:=(zcj 32 w (i:Int) f).alloc (.cells #[.int .i64 0,.int .i64 0,.int .i64 0,.int .i64 0,.int .i64 0,.int .i64 0,.int .i64 0,.int .i64 0,.int .i64 0,.int .i64 0,.int .i64 0,.int .i64 0,.int .i64 0,.int .i64 0,.int .i64 0,.int .i64 0,.int .i64 0,.int .i64 0,.int .i64 0,.int .i64 0,.int .i64 0] 32);have Z0:=heap_alloc2_new w (.cells (rowG (i:Int) f) 32) (.cells #[.int .i64 0,.int .i64 0,.int .i64 0,.int .i64 0,.int .i64 0,.int .i64 0,.int .i64 0,.int .i64 0,.int .i64 0,.int .i64 0,.int .i64 0,.int .i64 0,.int .i64 0,.int .i64 0,.int .i64 0,.int .i64 0,.int .i64 0,.int .i64 0,.int .i64 0,.int .i64 0,.int .i64 0] 32);have B0:=((Below.refl _ w).alloc (Nat.le_refl _) (.cells (rowG (i:Int) f) 32)).alloc (by simp) (.cells #[.int .i64 0,.int .i64 0,.int .i64 0,.int .i64 0,.int .i64 0,.int .i64 0,.int .i64 0,.int .i64 0,.int .i64 0,.int .i64 0,.int .i64 0,.int .i64 0,.int .i64 0,.int .i64 0,.int .i64 0,.int .i64 0,.int .i64 0,.int .i64 0,.int .i64 0,.int .i64 0,.int .i64 0] 32);have M0:=hM.next B0;have c0:=V0.c0;rcases ha with rfl|rfl
 ·go_enter Tryz.func242,Tryz.ntmps242;go_wp2_with fail;obtain ⟨wr,hwr⟩:∃wr,wr=(w.alloc (.cells (rowG (i:Int) f) 32)).alloc (.cells #[.int .i64 0,.int .i64 0,.int .i64 0,.int .i64 0,.int .i64 0,.int .i64 0,.int .i64 0,.int .i64 0,.int .i64 0,.int .i64 0,.int .i64 0,.int .i64 0,.int .i64 0,.int .i64 0,.int .i64 0,.int .i64 0,.int .i64 0,.int .i64 0,.int .i64 0,.int .i64 0,.int .i64 0] 32):=⟨_,rfl⟩
  rw [←hwr] at V0 Z0 B0 M0 c0 ⊢;clear hwr;have k0:=zah c0 V0.lt;have ki:=zah (V0.at i hi) V0.lt;have km:=zah (M0.at i hi) M0.pos;rw [hm] at km;have V:=hide V0;have Z:=hide Z0;have B:=hide B0;clear V0 Z0 B0 M0 c0 hM;haveI:=zax wr;refine zaq _ _ (show _=[_,_,_,_,_,_,_,_,_,_,_,_,_,_,_,_,_]++[_] from rfl) (by kernel_rfl) (by kernel_rfl) (by kernel_rfl) ?_
  repeat (go_big_quiet_step ((go_at_call 262;exact zaL (CH.out _))))
  refine wpQuiet_nil ?_;rintro _ ⟨wk,rfl⟩;have VK:=V.out.next wk.below;have ZK:=(wk.block (w.heap.size+1) (lt_of_block Z.out)).trans Z.out;have BK:=zaz B.out wk.below;have ci:=VK.at i hi;have zi:=VK.frozen (1+i);have V1:=hide (VK.set i y);have Z1:=hide ((heap_setCell_other _ ⟨w.heap.size,1+i,none⟩ (w.heap.size+1) (.int .i64 y) (by simp)).trans ZK);have B1:=hide (BK.setCell (p:=⟨w.heap.size,1+i,none⟩) (Nat.le_refl _) (.int .i64 y));clear VK ZK BK V Z B k0 ki km CH;go_wp2_with fail;obtain ⟨wt,hwt⟩:∃wt,wt=wk.val.setCell ⟨w.heap.size,1+i,none⟩ (.int .i64 y):=⟨_,rfl⟩
  rw [←hwt] at V1 Z1 B1 ⊢;clear hwt ci zi;have k0:=zah V1.out.c0 V1.out.lt;haveI:=zax wt;refine zcN _ _ _ (show _=([_,_,_,_,_]++[_])++[_] from rfl) (by kernel_rfl) (by kernel_rfl) (by kernel_rfl) (by kernel_rfl) ?_
  repeat (first
   |(refine wpQuiet_row rfl 32 (.tmp 3) rfl w.heap.size rfl 32 _ (0,0) _ (fun w' ⟨x,hx⟩=>by rw [hx];exact (x.block _ V1.out.lt).trans V1.out) Tryz.underlying32 rfl (zbR _ _) ?_;simp only [Act.put,List.setIfInBounds_toArray,List.set_cons_succ,List.set_cons_zero])
   |go_big_quiet_step ((go_at_call 263;exact zaF (CB.out _))))
  refine wpQuiet_nil ?_;rintro _ ⟨wj,rfl⟩;have Z2:=hide ((wj.block (w.heap.size+1) (lt_of_block Z1.out)).trans Z1.out);have B2:=hide (zaz B1.out wj.below);clear V1 Z1 B1 k0 CB
  go_wp2_with (first
   |(refine wpList_store_row rfl 32 (.tmp 6) (.tmp 43) rfl (w.heap.size+1) _ rfl rfl 32 _ Z2.out (zbR _ _) (by rw [rowG_size];rfl) (zdu _ _) ?_)
   |(refine bodyPost_ret (zaG rfl _ _ (w.heap.size+1) 32 _ (0,0) _ rfl (setRow_heap _ _ _ _ _ _ Z2.out) Tryz.underlying32 rfl (zbR _ _)) rfl ⟨rfl,below_setRow B2.out (Nat.le_succ _) _⟩))
 ·go_enter Tryz.func242,Tryz.ntmps242;go_wp2_with fail;obtain ⟨wr,hwr⟩:∃wr,wr=(w.alloc (.cells (rowG (i:Int) f) 32)).alloc (.cells #[.int .i64 0,.int .i64 0,.int .i64 0,.int .i64 0,.int .i64 0,.int .i64 0,.int .i64 0,.int .i64 0,.int .i64 0,.int .i64 0,.int .i64 0,.int .i64 0,.int .i64 0,.int .i64 0,.int .i64 0,.int .i64 0,.int .i64 0,.int .i64 0,.int .i64 0,.int .i64 0,.int .i64 0] 32):=⟨_,rfl⟩
  rw [←hwr] at V0 Z0 B0 M0 c0 ⊢;clear hwr;have k0:=zah c0 V0.lt;have ki:=zah (V0.at i hi) V0.lt;have km:=zah (M0.at i hi) M0.pos;rw [hm] at km;have V:=hide V0;have Z:=hide Z0;have B:=hide B0;clear V0 Z0 B0 M0 c0 hM;haveI:=zax wr;refine zaq _ _ (show _=[_,_,_,_,_,_,_,_,_,_,_,_,_,_,_,_,_]++[_] from rfl) (by kernel_rfl) (by kernel_rfl) (by kernel_rfl) ?_
  repeat (go_big_quiet_step ((go_at_call 262;exact zaL (CH.out _))))
  refine wpQuiet_nil ?_;rintro _ ⟨wk,rfl⟩;have VK:=V.out.next wk.below;have ZK:=(wk.block (w.heap.size+1) (lt_of_block Z.out)).trans Z.out;have BK:=zaz B.out wk.below;have ci:=VK.at i hi;have zi:=VK.frozen (1+i);have V1:=hide (VK.set i y);have Z1:=hide ((heap_setCell_other _ ⟨w.heap.size,1+i,none⟩ (w.heap.size+1) (.int .i64 y) (by simp)).trans ZK);have B1:=hide (BK.setCell (p:=⟨w.heap.size,1+i,none⟩) (Nat.le_refl _) (.int .i64 y));clear VK ZK BK V Z B k0 ki km CH;go_wp2_with fail;obtain ⟨wt,hwt⟩:∃wt,wt=wk.val.setCell ⟨w.heap.size,1+i,none⟩ (.int .i64 y):=⟨_,rfl⟩
  rw [←hwt] at V1 Z1 B1 ⊢;clear hwt ci zi;have k0:=zah V1.out.c0 V1.out.lt;haveI:=zax wt;refine zcN _ _ _ (show _=([_,_,_,_,_]++[_])++[_] from rfl) (by kernel_rfl) (by kernel_rfl) (by kernel_rfl) (by kernel_rfl) ?_
  repeat (first
   |(refine wpQuiet_row rfl 32 (.tmp 3) rfl w.heap.size rfl 32 _ (0,0) _ (fun w' ⟨x,hx⟩=>by rw [hx];exact (x.block _ V1.out.lt).trans V1.out) Tryz.underlying32 rfl (zbR _ _) ?_;simp only [Act.put,List.setIfInBounds_toArray,List.set_cons_succ,List.set_cons_zero])
   |go_big_quiet_step ((go_at_call 263;exact zaF (CB.out _))))
  refine wpQuiet_nil ?_;rintro _ ⟨wj,rfl⟩;have Z2:=hide ((wj.block (w.heap.size+1) (lt_of_block Z1.out)).trans Z1.out);have B2:=hide (zaz B1.out wj.below);clear V1 Z1 B1 k0 CB
  go_wp2_with (first
   |(refine wpList_store_row rfl 32 (.tmp 6) (.tmp 43) rfl (w.heap.size+1) _ rfl rfl 32 _ Z2.out (zbR _ _) (by rw [rowG_size];rfl) (zdu _ _) ?_)
   |(refine bodyPost_ret (zaG rfl _ _ (w.heap.size+1) 32 _ (0,0) _ rfl (setRow_heap _ _ _ _ _ _ Z2.out) Tryz.underlying32 rfl (zbR _ _)) rfl ⟨rfl,below_setRow B2.out (Nat.le_succ _) _⟩))
theorem zAm (s:Int) (f:Nat→Int) (k:Nat) (hk:k<20) (h:fits (f k) (mk k)=false):okR s f=false:=by
 have e:okTo f 20=false:=by
  cases c:okTo f 20 with
  |false=>rfl
  |true=>
   rw [(zjR f 20).1 c k hk] at h;cases h
 unfold okR;rw [e];rfl
theorem zxO (s:Int) (f:Nat→Int) (h:∀k,k<20→fits (f k) (mk k)=true):okR s f=decide (0≤s∧s≤31):=by
 unfold okR;rw [(zjR f 20).2 h];rfl
theorem zuv (s:Int) (f:Nat→Int) (hw:∀j,j<20→(Lit.int .i64 (f j)).wf=true) (w:World) (hM:HasMask w) (cs:List Value) (hcs:cs=(ziR f).map (Value.int .i64))
  (hi:∀(j:Nat),j<20→∀w:World,(Instr.index 30 (.agg cs.toArray) (.int .i64 (j:Int))).run Tryz.prog w=.ok (.int .i64 (f j)) w):
  Calls Tryz.prog 78 #[.agg (rowG s f)] w fun e w'=>e=.returned (.bool (okR s f))∧Below w.heap.size w w':=by
 have HX:=hide hi;have V:=hide (zcj 32 w s f);have R:=hide (show (w.alloc (.cells (rowG s f) 32)).rangeAt w.heap.size 1 cs by rw [hcs];exact V.out.range);have I:=hide (show (Tryz.prog.info? 30).map (·.size)=some cs.length by rw [hcs];exact zAl f);have B:=hide ((Below.refl _ w).alloc (Nat.le_refl _) (.cells (rowG s f) 32));have M:=hide (hM.next B.out);have HW:=hide hw;clear hi hcs hM hw;go_enter Tryz.func78,Tryz.ntmps78;go_wp2_with (first|(refine wpList_load_mid rfl 30 (.tmp 5) rfl w.heap.size 1 rfl cs _ R.out Tryz.underlying30 rfl I.out ?_));obtain ⟨wa,hwa⟩:∃wa,wa=w.alloc (.cells (rowG s f) 32):=⟨_,rfl⟩
 rw [←hwa] at V B M ⊢;clear hwa R I;go_loop [7] (fun si=>∃j:Nat,j≤20∧si=.int .i64 (j:Int)∧∀k,k<j→fits (f k) (mk k)=true) (fun si=>20-(intOf si).toNat)
 case atStart=>exact ⟨0,by omega,rfl,fun i hi=>absurd hi (by omega)⟩
 case round=>
  obtain ⟨j,hj,rfl,hne⟩:=hrel;have HN:=hide hne;clear hne
  by_cases h:j<20
  ·have hx:=HX.out j h;have cm:=M.out.at j h;have hb:=zur (f j) (mk j) (HW.out j h) (zqO j)
   by_cases hf:fits (f j) (mk j)=true
   ·rw [hf] at hb;replace hb:(bits .andNot .i64 (f j) (mk j) != 0)=false:=hb;have HF:=hide hf;clear hf;generalize f j=n at hx hb;generalize mk j=m at cm hb;go_wp2_with fail;go_round
    case rel=>
     refine ⟨j+1,by omega,by go_num,fun i hi=>?_⟩
     by_cases hij:i=j
     ·subst hij;exact HF.out
     ·exact HN.out i (by omega)
    case measure=>simp [intOf];omega
   ·have hf2:fits (f j) (mk j)=false:=by simpa using hf
    rw [hf2] at hb;replace hb:(bits .andNot .i64 (f j) (mk j) != 0)=true:=hb;have HF:=hide (zAm s f j h hf2);clear hf hf2;generalize f j=n at hx hb;generalize mk j=m at cm hb;go_wp2_with fail;go_ret;exact ⟨zbc HF.out.symm,B.out⟩
  ·obtain rfl:j=20:=by omega
   have c0:=V.out.c0;have HF:=hide (zxO s f HN.out)
   by_cases h0:0≤s
   ·by_cases h1:s≤31
    ·rw [decide_eq_true ⟨h0,h1⟩] at HF;go_wp2_with fail;go_ret;exact ⟨zbc HF.out.symm,B.out⟩
    ·rw [decide_eq_false (fun k=>h1 k.2)] at HF;go_wp2_with fail;go_ret;exact ⟨zbc HF.out.symm,B.out⟩
   ·rw [decide_eq_false (fun k=>h0 k.1)] at HF;go_wp2_with fail;go_ret;exact ⟨zbc HF.out.symm,B.out⟩
theorem valid_any (s:Int) (f:Nat→Int) (hw:∀j,j<20→(Lit.int .i64 (f j)).wf=true) (w:World) (hM:HasMask w):
  Calls Tryz.prog 78 #[.agg (rowG s f)] w fun e w'=>e=.returned (.bool (okR s f))∧Below w.heap.size w w':=
 zuv s f hw w hM _ rfl fun j hj w=>tab_index f j hj w
theorem fresh_any (w:World):Calls Tryz.prog 50 #[] w fun e w'=>e=.returned (.agg (rowG 0 (fun _=>0)))∧Below w.heap.size w w':=by
 have Z0:=hide (show (w.alloc (.cells #[.int .i64 0,.int .i64 0,.int .i64 0,.int .i64 0,.int .i64 0,.int .i64 0,.int .i64 0,.int .i64 0,.int .i64 0,.int .i64 0,.int .i64 0,.int .i64 0,.int .i64 0,.int .i64 0,.int .i64 0,.int .i64 0,.int .i64 0,.int .i64 0,.int .i64 0,.int .i64 0,.int .i64 0] 32)).heap[w.heap.size]? = some (.cells #[.int .i64 0,.int .i64 0,.int .i64 0,.int .i64 0,.int .i64 0,.int .i64 0,.int .i64 0,.int .i64 0,.int .i64 0,.int .i64 0,.int .i64 0,.int .i64 0,.int .i64 0,.int .i64 0,.int .i64 0,.int .i64 0,.int .i64 0,.int .i64 0,.int .i64 0,.int .i64 0,.int .i64 0] 32 (0,0)) from heap_alloc_new _ _);rw [←zut];go_enter Tryz.func50,Tryz.ntmps50
 go_wp2_with (first
  |(refine wpList_store_row rfl 32 (.tmp 0) (.tmp 1) rfl w.heap.size _ rfl rfl 32 _ Z0.out (by kernel_rfl) rfl (by kernel_rfl) ?_)
  |(refine bodyPost_ret (results_cell_row rfl _ _ w.heap.size 32 _ (0,0) _ rfl (setRow_heap _ _ _ _ _ _ Z0.out) Tryz.underlying32 rfl (by kernel_rfl)) rfl ⟨rfl,below_setRow ((Below.refl _ w).alloc (Nat.le_refl _) _) (Nat.le_refl _) _⟩))
def pairOf (n k:Int):Nat:=(zaV n k+2*zaV n (k+1)).toNat
theorem pairOf_lt (n k:Int):pairOf n k<4:=by
 have h1:=zds n k;have h2:=zds n (k+1);unfold pairOf;omega
theorem zqR (n k:Int):zaV n k+2*zaV n (k+1)=(pairOf n k:Int):=by
 have h1:=zds n k;have h2:=zds n (k+1);unfold pairOf;omega
theorem zuw (n k:Int) (h0:0≤k) (h1:k<15) (p:Nat) (hp:pairOf n k=p) (w:World):Calls Tryz.prog 183 #[.int .i64 n,.int .i64 k] w fun e w'=>e=.returned (.int .i64 (p:Int))∧w'=w:=by
 have b1:=zds n k;have b2:=zds n (k+1);have HP:=hide (show zaV n k+2*zaV n (k+1)=(p:Int) by rw [←hp];exact zqR n k);clear hp;go_enter Tryz.func183,Tryz.ntmps183;go_wp2_with (first|(go_at_call 68;refine (zaZ _ _ _).mono ?_;rintro e w' ⟨rfl,hw⟩;subst w'));go_ret;exact ⟨zat HP.out,rfl⟩
def farL:List Int:=[1,32,64,128]
def farOf (p:Nat):Int:=farL.getD p 0
theorem zxP (L:List Int) (hL:L.length=4) (p:Nat) (hp:p<4):((L.map (Value.int .i64)).toArray)[p]? = some (.int .i64 (L.getD p 0)):=by
 simp [List.getD,List.getElem?_eq_getElem (show p<L.length by omega)]
theorem far_any (s:Int) (f:Nat→Int) (p:Nat) (hp:pairOf (f 5) 11=p) (w:World):Calls Tryz.prog 267 #[.agg (rowG s f)] w fun e w'=>e=.returned (.int .i64 (farOf p))∧Below w.heap.size w w':=by
 have CP:=hide (zuw (f 5) 11 (by decide) (by decide) p hp);have hp4:p<4:=by rw [←hp];exact pairOf_lt _ _
 clear hp;have c5:((w.alloc (.cells (rowG s f) 32)).alloc (.cells #[.int .i64 1,.int .i64 32,.int .i64 64,.int .i64 128] 265)).cell? ⟨w.heap.size,6,none⟩=some (.int .i64 (f 5)):=((zcj 32 w s f).alloc _).at 5 (by decide);have Z:=hide (heap_alloc2_new w (.cells (rowG s f) 32) (.cells #[.int .i64 1,.int .i64 32,.int .i64 64,.int .i64 128] 265));have B:=hide (((Below.refl _ w).alloc (Nat.le_refl _) (.cells (rowG s f) 32)).alloc (by simp) (.cells #[.int .i64 1,.int .i64 32,.int .i64 64,.int .i64 128] 265));go_enter Tryz.func267,Tryz.ntmps267;go_wp2_with fail;refine (CP.out _).mono ?_;rintro e w' ⟨rfl,hw⟩;subst w';have hl:=zxP farL rfl p hp4;have hz:=(cell_of_row _ (w.heap.size+1) p _ _ _ Z.out).trans hl;clear hl c5;generalize hx:farL.getD p 0=x at hz;have HX:=hide (show farOf p=x from hx);clear hx;go_wp2_with fail;go_ret;exact ⟨zat HX.out.symm,B.out⟩
theorem on_any (s:Int) (f:Nat→Int) (k:Int) (w:World):Calls Tryz.prog 126 #[.agg (rowG s f),.int .i64 k] w fun e w'=>e=.returned (.bool (zaV (f 5) k==1))∧Below w.heap.size w w':=by
 have c5:(w.alloc (.cells (rowG s f) 32)).cell? ⟨w.heap.size,6,none⟩=some (.int .i64 (f 5)):=(zcj 32 w s f).at 5 (by decide);have B:=hide ((Below.refl _ w).alloc (Nat.le_refl _) (.cells (rowG s f) 32));go_enter Tryz.func126,Tryz.ntmps126;go_wp2_with (first|(go_at_call 68;refine (zaZ _ _ _).mono ?_;rintro e w' ⟨rfl,hw⟩;subst w'));go_ret;exact ⟨rfl,B.out⟩
def rasOf (t l:Int):Bool:=decide (64≤t∧l=t-64)
theorem raster_any (s:Int) (f:Nat→Int) (l:Int) (t:Int) (ht:f 6%65536=t) (w:World):Calls Tryz.prog 87 #[.agg (rowG s f),.int .i64 l] w fun e w'=>e=.returned (.bool (rasOf t l))∧Below w.heap.size w w':=by
 have c6:(w.alloc (.cells (rowG s f) 32)).cell? ⟨w.heap.size,7,none⟩=some (.int .i64 (f 6)):=(zcj 32 w s f).at 6 (by decide);have B:=hide ((Below.refl _ w).alloc (Nat.le_refl _) (.cells (rowG s f) 32));have t0:0≤t:=by omega
 have t1:t<65536:=by omega
 have CW:=hide (zaU (f 6));rw [ht] at CW;clear ht
 by_cases h:64≤t
 ·have HR:=hide (show rasOf t l=(l==t-64) by unfold rasOf;by_cases k:l=t-64<;>simp [h,k]);go_enter Tryz.func87,Tryz.ntmps87;go_wp2_with (first|(go_at_call 86;refine (CW.out _).mono ?_;rintro e w' ⟨rfl,hw⟩;subst w'));go_ret;exact ⟨zbc HR.out.symm,B.out⟩
 ·have HR:=hide (show rasOf t l=false by unfold rasOf;exact decide_eq_false (fun k=>h k.1));go_enter Tryz.func87,Tryz.ntmps87;go_wp2_with (first|(go_at_call 86;refine (CW.out _).mono ?_;rintro e w' ⟨rfl,hw⟩;subst w'));go_ret;exact ⟨zbc HR.out.symm,B.out⟩
end Go.Proofs.YtdiidjehdginnaaGreatDoor.R15
namespace Go.Proofs.YtdiidjehdginnaaGreatDoor.W13
set_option maxRecDepth 20000
open Go.RowKit
set_option linter.unusedVariables false
variable {m:Bool} {bu lo rd st wr:Int} {b c:Nat} {f:Nat→Int} {E:Nat→Prop} {o:Obj} {v:Value} {w w':World}
def zoC (wr rd st lo bu:Int):List Value:=[.int .i64 wr,.int .i64 rd,.int .i64 st,.int .i64 lo,.int .i64 bu]
def zeo (f:Nat→Int):List Value:=(List.range 32768).map fun j=>Value.int .i64 (f j)
def rowM (m:Bool) (f:Nat→Int) (wr rd st lo bu:Int):Array Value:=(.bool m::(zeo f++zoC wr rd st lo bu)).toArray
theorem zbJ (f:Nat→Int):(zeo f).length=32768:=by simp [zeo]
theorem zlc (m:Bool) (f:Nat→Int) (wr rd st lo bu:Int):(rowM m f wr rd st lo bu).size=32774:=by simp [rowM,zbJ,zoC]
theorem zqS (f:Nat→Int) (j:Nat) (h:j<32768):(zeo f)[j]? = some (.int .i64 (f j)):=by simp [zeo,h]
theorem zAn (m:Bool) (f:Nat→Int) (wr rd st lo bu:Int):(rowM m f wr rd st lo bu)[0]? = some (.bool m):=by simp [rowM]
theorem zxQ (m:Bool) (f:Nat→Int) (wr rd st lo bu:Int) (j:Nat) (h:j<32768):(rowM m f wr rd st lo bu)[1+j]? = some (.int .i64 (f j)):=by
 unfold rowM;rw [show 1+j=j+1 by omega,List.getElem?_toArray,List.getElem?_cons_succ,List.getElem?_append_left (by rw [zbJ];exact h)];exact zqS f j h
theorem zeA (m:Bool) (f:Nat→Int) (wr rd st lo bu:Int) (j:Nat):(rowM m f wr rd st lo bu)[32769+j]? = (zoC wr rd st lo bu)[j]? :=by
 unfold rowM;rw [show 32769+j=(32768+j)+1 by omega,List.getElem?_toArray,List.getElem?_cons_succ,List.getElem?_append_right (by rw [zbJ];omega),zbJ,show 32768+j-32768=j by omega]
def upd (f:Nat→Int) (i:Nat) (v:Int):Nat→Int:=fun j=>if j=i then v else f j
theorem zoD (i:Nat) (x:Int) (f:Nat→Int):(zeo f).set i (.int .i64 x)=zeo (upd f i x):=by
 unfold zeo;apply List.ext_getElem?;intro j;rw [List.getElem?_set];simp only [List.getElem?_map,List.length_map,List.length_range]
 by_cases h:i=j
 ·subst h
  by_cases k:i<32768
  ·simp [k,upd]
  ·simp [k]
 ·rw [if_neg h]
  by_cases k:j<32768
  ·simp [k,upd,show ¬j=i from fun e=>h e.symm]
  ·simp [k]
theorem zux (m:Bool) (f:Nat→Int) (wr rd st lo bu x:Int) (i:Nat) (h:i<32768):(rowM m f wr rd st lo bu).setIfInBounds (1+i) (.int .i64 x)=rowM m (upd f i x) wr rd st lo bu:=by
 unfold rowM;rw [List.setIfInBounds_toArray,show 1+i=i+1 by omega,List.set_cons_succ,List.set_append_left _ _ (by rw [zbJ];exact h),zoD]
theorem zck (m:Bool) (f:Nat→Int) (wr rd st lo bu x:Int) (i:Nat):(rowM m f wr rd st lo bu).setIfInBounds (32769+i) (.int .i64 x)=(.bool m::(zeo f++(zoC wr rd st lo bu).set i (.int .i64 x))).toArray:=by
 unfold rowM;rw [List.setIfInBounds_toArray,show 32769+i=(32768+i)+1 by omega,List.set_cons_succ,List.set_append_right _ _ (by rw [zbJ];omega),zbJ,show 32768+i-32768=i by omega]
theorem zld (m q:Bool) (f:Nat→Int) (wr rd st lo bu:Int):(rowM m f wr rd st lo bu).setIfInBounds 0 (.bool q)=rowM q f wr rd st lo bu:=by
 unfold rowM;rw [List.setIfInBounds_toArray,List.set_cons_zero]
def HasM (w:World) (b:Nat) (m:Bool) (f:Nat→Int) (wr rd st lo bu:Int):Prop:=w.heap[b]? = some (.cells (rowM m f wr rd st lo bu) 190 (0,0))
theorem HasM.lt (h:HasM w b m f wr rd st lo bu):b<w.heap.size:=lt_of_block h
theorem HasM.c0 (h:HasM w b m f wr rd st lo bu):w.cell? ⟨b,0,none⟩=some (.bool m):=(cell_of_row w b 0 _ _ _ h).trans (zAn _ _ _ _ _ _ _)
theorem HasM.at (h:HasM w b m f wr rd st lo bu) (j:Nat) (hj:j<32768):w.cell? ⟨b,1+j,none⟩=some (.int .i64 (f j)):=(cell_of_row w b (1+j) _ _ _ h).trans (zxQ _ _ _ _ _ _ _ j hj)
theorem HasM.c1 (h:HasM w b m f wr rd st lo bu):w.cell? ⟨b,32769,none⟩=some (.int .i64 wr):=(cell_of_row w b 32769 _ _ _ h).trans (zeA m f wr rd st lo bu 0)
theorem HasM.c2 (h:HasM w b m f wr rd st lo bu):w.cell? ⟨b,32770,none⟩=some (.int .i64 rd):=(cell_of_row w b 32770 _ _ _ h).trans (zeA m f wr rd st lo bu 1)
theorem HasM.c3 (h:HasM w b m f wr rd st lo bu):w.cell? ⟨b,32771,none⟩=some (.int .i64 st):=(cell_of_row w b 32771 _ _ _ h).trans (zeA m f wr rd st lo bu 2)
theorem HasM.c4 (h:HasM w b m f wr rd st lo bu):w.cell? ⟨b,32772,none⟩=some (.int .i64 lo):=(cell_of_row w b 32772 _ _ _ h).trans (zeA m f wr rd st lo bu 3)
theorem HasM.c5 (h:HasM w b m f wr rd st lo bu):w.cell? ⟨b,32773,none⟩=some (.int .i64 bu):=(cell_of_row w b 32773 _ _ _ h).trans (zeA m f wr rd st lo bu 4)
theorem HasM.frozen (h:HasM w b m f wr rd st lo bu) (j:Nat):w.frozen? ⟨b,j,none⟩=false:=frozen_of_row w b j _ _ h
theorem HasM.set (h:HasM w b m f wr rd st lo bu) (i:Nat) (hi:i<32768) (x:Int):HasM (w.setCell ⟨b,1+i,none⟩ (.int .i64 x)) b m (upd f i x) wr rd st lo bu:=by
 have k:=heap_setCell_same w b (1+i) _ _ (.int .i64 x) h;rw [zux _ _ _ _ _ _ _ _ _ hi] at k;exact k
theorem HasM.set1 (h:HasM w b m f wr rd st lo bu) (x:Int):HasM (w.setCell ⟨b,32769,none⟩ (.int .i64 x)) b m f x rd st lo bu:=by
 have k:=heap_setCell_same w b 32769 _ _ (.int .i64 x) h;rw [zck _ _ _ _ _ _ _ _ 0] at k;exact k
theorem HasM.set2 (h:HasM w b m f wr rd st lo bu) (x:Int):HasM (w.setCell ⟨b,32770,none⟩ (.int .i64 x)) b m f wr x st lo bu:=by
 have k:=heap_setCell_same w b 32770 _ _ (.int .i64 x) h;rw [zck _ _ _ _ _ _ _ _ 1] at k;exact k
theorem HasM.set3 (h:HasM w b m f wr rd st lo bu) (x:Int):HasM (w.setCell ⟨b,32771,none⟩ (.int .i64 x)) b m f wr rd x lo bu:=by
 have k:=heap_setCell_same w b 32771 _ _ (.int .i64 x) h;rw [zck _ _ _ _ _ _ _ _ 2] at k;exact k
theorem HasM.set4 (h:HasM w b m f wr rd st lo bu) (x:Int):HasM (w.setCell ⟨b,32772,none⟩ (.int .i64 x)) b m f wr rd st x bu:=by
 have k:=heap_setCell_same w b 32772 _ _ (.int .i64 x) h;rw [zck _ _ _ _ _ _ _ _ 3] at k;exact k
theorem HasM.set5 (h:HasM w b m f wr rd st lo bu) (x:Int):HasM (w.setCell ⟨b,32773,none⟩ (.int .i64 x)) b m f wr rd st lo x:=by
 have k:=heap_setCell_same w b 32773 _ _ (.int .i64 x) h;rw [zck _ _ _ _ _ _ _ _ 4] at k;exact k
theorem HasM.next (h:HasM w b m f wr rd st lo bu) (k:Below w.heap.size w w'):HasM w' b m f wr rd st lo bu:=(k.block b (lt_of_block h)).trans h
theorem zuy (w:World) (m:Bool) (f:Nat→Int) (wr rd st lo bu:Int):HasM (w.alloc (.cells (rowM m f wr rd st lo bu) 190)) w.heap.size m f wr rd st lo bu:=heap_alloc_new _ _
def Only (b:Nat) (w w':World):Prop:=w'.os=w.os∧w'.tape=w.tape∧w'.output=w.output∧w.heap.size≤w'.heap.size∧∀k,k<w.heap.size→k≠b→w'.heap[k]? = w.heap[k]?
theorem Only.of (h:Below w.heap.size w w'):Only b w w':=⟨h.os,h.tape,h.output,h.size,fun k hk _=>h.block k hk⟩
theorem Only.refl (b:Nat) (w:World):Only b w w:=Only.of (Below.refl _ _)
theorem Only.size (h:Only b w w'):w.heap.size≤w'.heap.size:=h.2.2.2.1
theorem Only.block (h:Only b w w') (k:Nat) (hk:k<w.heap.size) (hb:k≠b):w'.heap[k]? = w.heap[k]? :=h.2.2.2.2 k hk hb
theorem Only.trans {w1 w2 w3:World} (h:Only b w1 w2) (k:Only b w2 w3):Only b w1 w3:=
 ⟨k.1.trans h.1,k.2.1.trans h.2.1,k.2.2.1.trans h.2.2.1,Nat.le_trans h.size k.size,fun i hi hb=>(k.block i (Nat.lt_of_lt_of_le hi h.size) hb).trans (h.block i hi hb)⟩
theorem Only.set (h:Only b w w') (o:Nat) (v:Value):Only b w (w'.setCell ⟨b,o,none⟩ v):=
 h.trans ⟨rfl,rfl,rfl,by simp [World.setCell],fun k _ hk=>Below.heap_setCell _ _ _ _ hk⟩
theorem Only.obj (h:Only b w w') (k:w.heap[c]? = some o) (hc:c≠b):w'.heap[c]? = some o:=(h.block c (lt_of_block k) hc).trans k
def isZ:Value→Bool|.int .i64 0=>true|_=>false
def allZ:Nat→List Value→Bool
 |0,[]=>true
 |n+1,x::xs=>isZ x&&allZ n xs
 |_,_=>false
def zqT:Option Value→Bool|some (.agg ⟨.bool false::xs⟩)=>allZ 32773 xs|_=>false
theorem zAo (h:isZ v=true):v=.int .i64 0:=by
 unfold isZ at h;split at h
 ·rfl
 ·cases h
theorem zmg:∀(n:Nat) (l:List Value),allZ n l=true→l=List.replicate n (.int .i64 0)
 |0,[],_=>rfl
 |0,x::xs,h=>by simp [allZ] at h
 |n+1,[],h=>by simp [allZ] at h
 |n+1,x::xs,h=>by
  simp only [allZ,Bool.and_eq_true] at h;rw [zAo h.1,zmg n xs h.2,List.replicate_succ]
def zeroC:Array Value:=rowM false (fun _=>0) 0 0 0 0 0
theorem zqU:zeo (fun _=>0)++zoC 0 0 0 0 0=List.replicate 32773 (.int .i64 0):=by
 have e:zeo (fun _=>0)=List.replicate 32768 (.int .i64 0):=by
  unfold zeo;rw [List.map_const',List.length_range]
 rw [e,show zoC 0 0 0 0 0=List.replicate 5 (.int .i64 0) from rfl,List.replicate_append_replicate]
theorem zoE {v:Option Value} (h:zqT v=true):v=some (.agg zeroC):=by
 unfold zqT at h;split at h
 ·rename_i xs;have k:=zmg _ _ h;subst k;unfold zeroC rowM;rw [zqU]
 ·cases h
theorem zxR:Tryz.t190.zero=some (.agg zeroC):=zoE (by kernel_rfl)
theorem zAp:zeroC=rowM false (fun _=>0) 0 0 0 0 0:=rfl
set_option maxRecDepth 100000 in
theorem zuz (parts:List (Nat×Value)):Tryz.prog.built 190 parts=Instr.fill (fun i=>#[(0,1),(1,32768),(32769,1),(32770,1),(32771,1),(32772,1),(32773,1)][i]?) zeroC parts:=by
 have h1:Tryz.prog.info? 190=some Tryz.t190:=by kernel_rfl
 unfold Program.built;simp only [h1,Tryz.underlying190,zxR];rfl
theorem znj {place:Nat→Option (Nat×Nat)} {cells:Array Value} {i off:Nat} {rest:List (Nat×Value)} (hp:place i=some (off,1)) (hv:v.cells=#[v]) (ho:off+1≤cells.size):
  Instr.fill place cells ((i,v)::rest)=Instr.fill place (cells.setIfInBounds off v) rest:=by
 have hn:¬off+1>cells.size:=by omega
 rw [Instr.fill,hp];simp only [hv,List.size_toArray,List.length_cons,List.length_nil];rw [if_neg (by simp;omega)];rfl
theorem zxS (w:World):(Instr.build 190 #[(0,.bool true),(4,.int .i64 1)]).run Tryz.prog w=.ok (.agg (rowM true (fun _=>0) 0 0 1 0 0)) w:=by
 refine run_build w _ _ _ ?_;rw [zuz,zAp,znj (off:=0) rfl rfl (by rw [zlc];omega),zld,znj (off:=32771) rfl rfl (by rw [zlc];omega),zck _ _ _ _ _ _ _ _ 2];rfl
theorem wpList_built {P:Program} {ops:Array Oper} {rest:List Oper} {o:Oper} {a:Act} {Q:Exit→Act→World→Prop} (hg:o.guard=none) (t:TypeId) (parts:Array (Nat×Operand)) (ho:o.op=.build t parts)
  (u:Array (Nat×Value)) (hp:(parts.map fun (i,x)=>(i,a.eval x))=u) (R:Array Value) (h:∀w,(Instr.build t u).run P w=.ok (.agg R) w) (hK:wpList P ops Q rest (a.put o.dst (.agg R)) w):wpList P ops Q (o::rest) a w:=
 wpList_plain hg fun K hK'=>by
  unfold Oper.wp execOp;simp only [ho,hp,Sem.run_bind,h,Result.andThen_ok];exact hK' _ _ hK
theorem new_any (w:World):Calls Tryz.prog 51 #[] w fun e w'=>e=.returned (.pointer (some ⟨w.heap.size,0,none⟩))∧HasM w' w.heap.size true (fun _=>0) 0 0 1 0 0∧Below w.heap.size w w':=by
 go_enter Tryz.func51,Tryz.ntmps51;go_wp2_with (first|(refine wpList_built rfl 190 _ rfl #[(0,.bool true),(4,.int .i64 1)] (by simp [Act.eval]) _ zxS ?_));go_ret;exact ⟨rfl,zuy _ _ _ _ _ _ _ _,(Below.refl _ w).alloc (Nat.le_refl _) _⟩
theorem missing_is (b:Nat) (m:Bool) (w:World) (c0:w.cell? ⟨b,0,none⟩=some (.bool m)):Calls Tryz.prog 105 #[.pointer (some ⟨b,0,none⟩)] w fun e w'=>e=.returned (.bool (!m))∧w'=w:=by
 go_enter Tryz.func105,Tryz.ntmps105;go_wp2;go_ret;exact ⟨rfl,rfl⟩
theorem zhY (b:Nat) (f:Nat→Int) (wr rd st lo bu:Int) (w:World) (h:HasM w b true f wr rd st lo bu) (n x:Int) (hx:n%65536=x):Calls Tryz.prog 264 #[.pointer (some ⟨b,0,none⟩),.int .i64 n] w fun e w'=>e=.returned (.tuple #[])∧HasM w' b true f x rd st lo bu∧Only b w w':=by
 have c0:=h.c0;have c1:=h.c1;have z1:=h.frozen 32769;have H:=hide h;clear h;go_enter Tryz.func264,Tryz.ntmps264;go_wp2_with (first|(go_at_call 105;refine (missing_is b true _ c0).mono ?_;rintro e w' ⟨rfl,hw⟩;subst w')|(go_at_call 86;refine (zaU _ _).mono ?_;rintro e w' ⟨rfl,hw⟩;subst w'));go_end0;exact ⟨rfl,H.out.set1 x,(Only.refl b w).set _ _⟩
theorem zoF (b:Nat) (f:Nat→Int) (wr rd st lo bu:Int) (w:World) (h:HasM w b true f wr rd st lo bu) (n x:Int) (hx:n%65536=x):Calls Tryz.prog 266 #[.pointer (some ⟨b,0,none⟩),.int .i64 n] w fun e w'=>e=.returned (.tuple #[])∧HasM w' b true f wr rd x lo bu∧Only b w w':=by
 have c0:=h.c0;have c3:=h.c3;have z3:=h.frozen 32771;have H:=hide h;clear h;go_enter Tryz.func266,Tryz.ntmps266;go_wp2_with (first|(go_at_call 105;refine (missing_is b true _ c0).mono ?_;rintro e w' ⟨rfl,hw⟩;subst w')|(go_at_call 86;refine (zaU _ _).mono ?_;rintro e w' ⟨rfl,hw⟩;subst w'));go_end0;exact ⟨rfl,H.out.set3 x,(Only.refl b w).set _ _⟩
theorem zle {fn:Func} {a b c d e:Tmp} (h:fn.results=#[.tmp a,.tmp b,.tmp c,.tmp d,.tmp e]) (tmps:Array Value) (P:Program) (w:World):
  (results fn tmps).run P w=.ok (.tuple #[tmps.getD a undef,tmps.getD b undef,tmps.getD c undef,tmps.getD d undef,tmps.getD e undef]) w:=by
 simp [results,h]
theorem zuA (b:Nat) (f:Nat→Int) (wr rd st lo bu:Int) (w:World) (h:HasM w b true f wr rd st lo bu):Calls Tryz.prog 169 #[.pointer (some ⟨b,0,none⟩)] w fun e w'=>e=.returned (.tuple #[.int .i64 wr,.int .i64 rd,.int .i64 st,.int .i64 lo,.int .i64 bu])∧Below w.heap.size w w':=by
 have c0:=h.c0;have k1:=zah h.c1 h.lt;have k2:=zah h.c2 h.lt;have k3:=zah h.c3 h.lt;have k4:=zah h.c4 h.lt;have k5:=zah h.c5 h.lt;clear h;go_enter Tryz.func169,Tryz.ntmps169;go_wp2_with (first|(go_at_call 105;refine (missing_is b true _ c0).mono ?_;rintro e w' ⟨rfl,hw⟩;subst w'));haveI:=zax w;refine zbn (by kernel_rfl) (by kernel_rfl) ?_
 repeat (go_big_quiet_step (fail))
 refine wpQuiet_nil ?_;rintro _ ⟨wk,rfl⟩;go_wp2;refine bodyPost_ret (zle rfl _ _ _) rfl ?_;exact ⟨rfl,wk.below⟩
def zbH (f:Nat→Int) (n:Int):Int:=if n%65536<32768 then f (n%65536).toNat else 0
def zeB (f:Nat→Int) (n x:Int):Nat→Int:=if n%65536<32768 then upd f (n%65536).toNat (x%65536) else f
theorem zqV (b:Nat) (f:Nat→Int) (wr rd st lo bu:Int) (w:World) (h:HasM w b true f wr rd st lo bu) (n x:Int) (hx:zbH f n=x):Calls Tryz.prog 231 #[.pointer (some ⟨b,0,none⟩),.int .i64 n] w fun e w'=>e=.returned (.int .i64 x)∧w'=w:=by
 have c0:=h.c0;obtain ⟨p,hp⟩:∃p,n%65536=p:=⟨_,rfl⟩
 have h0:0≤p:=by omega
 by_cases hlt:p<32768
 ·have e:x=f p.toNat:=by rw [←hx];unfold zbH;rw [hp,if_pos hlt]
  have cj:=h.at p.toNat (by omega);rw [←e] at cj;clear e hx h;go_enter Tryz.func231,Tryz.ntmps231;go_wp2_with (first|(go_at_call 105;refine (missing_is b true _ c0).mono ?_;rintro e w' ⟨rfl,hw⟩;subst w')|(go_at_call 86;refine (zaU _ _).mono ?_;rintro e w' ⟨rfl,hw⟩;subst w'));go_ret;exact ⟨rfl,rfl⟩
 ·have e:x=0:=by rw [←hx];unfold zbH;rw [hp,if_neg hlt]
  clear hx h;subst e;go_enter Tryz.func231,Tryz.ntmps231;go_wp2_with (first|(go_at_call 105;refine (missing_is b true _ c0).mono ?_;rintro e w' ⟨rfl,hw⟩;subst w')|(go_at_call 86;refine (zaU _ _).mono ?_;rintro e w' ⟨rfl,hw⟩;subst w'));go_ret;exact ⟨rfl,rfl⟩
theorem zqW (b:Nat) (f:Nat→Int) (wr rd st lo bu:Int) (w:World) (h:HasM w b true f wr rd st lo bu) (n x:Int) (F:Nat→Int) (hF:zeB f n x=F):Calls Tryz.prog 275 #[.pointer (some ⟨b,0,none⟩),.int .i64 n,.int .i64 x] w fun e w'=>e=.returned (.tuple #[])∧HasM w' b true F wr rd st lo bu∧Only b w w':=by
 have c0:=h.c0;obtain ⟨p,hp⟩:∃p,n%65536=p:=⟨_,rfl⟩
 have h0:0≤p:=by omega
 obtain ⟨y,hy⟩:∃y,x%65536=y:=⟨_,rfl⟩
 by_cases hlt:p<32768
 ·have e:F=upd f p.toNat y:=by rw [←hF];unfold zeB;rw [hp,if_pos hlt,hy]
  have HP:=hide (show p.toNat<32768 by omega);have cj:=h.at p.toNat HP.out;have zj:=h.frozen (1+p.toNat);have H:=hide h;subst e;clear hF h;go_enter Tryz.func275,Tryz.ntmps275;go_wp2_with (first|(go_at_call 105;refine (missing_is b true _ c0).mono ?_;rintro e w' ⟨rfl,hw⟩;subst w')|(go_at_call 86;refine (zaU _ _).mono ?_;rintro e w' ⟨rfl,hw⟩;subst w'));go_region_with (first|(go_at_call 86;refine (zaU _ _).mono ?_;rintro e w' ⟨rfl,hw⟩;subst w'))
  all_goals (try go_wp2)
  all_goals
   go_end0;exact ⟨rfl,H.out.set p.toNat HP.out y,(Only.refl b w).set _ _⟩
 ·have e:F=f:=by rw [←hF];unfold zeB;rw [hp,if_neg hlt]
  have H:=hide h;subst e;clear hF h;go_enter Tryz.func275,Tryz.ntmps275;go_wp2_with (first|(go_at_call 105;refine (missing_is b true _ c0).mono ?_;rintro e w' ⟨rfl,hw⟩;subst w')|(go_at_call 86;refine (zaU _ _).mono ?_;rintro e w' ⟨rfl,hw⟩;subst w'));refine bodyPost_ret (results_none rfl _ _ _) rfl ?_;exact ⟨rfl,H.out,Only.refl b w⟩
theorem zji (b:Nat) (f:Nat→Int) (wr rd st lo bu:Int) (w:World) (h:HasM w b true f wr rd st lo bu) (n x y:Int) (hx:n%65536=x) (hy:zbH f x=y):Calls Tryz.prog 227 #[.pointer (some ⟨b,0,none⟩),.int .i64 n] w fun e w'=>e=.returned (.tuple #[])∧HasM w' b true f wr x st lo y∧Only b w w':=by
 have c0:=h.c0;have c2:=h.c2;have z2:=h.frozen 32770;have H:=hide h;have HY:=hide hy;clear h hy;go_enter Tryz.func227,Tryz.ntmps227;go_wp2_with (first|(go_at_call 105;refine (missing_is b true _ c0).mono ?_;rintro e w' ⟨rfl,hw⟩;subst w')|(go_at_call 86;refine (zaU _ _).mono ?_;rintro e w' ⟨rfl,hw⟩;subst w'));have H2:=hide (H.out.set2 x);have O2:=hide ((Only.refl b w).set 32770 (.int .i64 x));obtain ⟨w2,hw2⟩:∃w2,w2=w.setCell ⟨b,32770,none⟩ (.int .i64 x):=⟨_,rfl⟩
 rw [←hw2] at H2 O2 ⊢;clear hw2 H c0 c2 z2;refine (zqV b f _ _ _ _ _ _ H2.out x y HY.out).mono ?_;rintro e w' ⟨rfl,hw⟩;subst w';have c5:=H2.out.c5;have z5:=H2.out.frozen 32773;go_wp2;go_end0;exact ⟨rfl,H2.out.set5 y,O2.out.set _ _⟩
theorem zqX (b:Nat) (f:Nat→Int) (wr rd st lo bu:Int) (w:World) (h:HasM w b true f wr rd st lo bu) (n x:Int) (hx:n%256=x):Calls Tryz.prog 265 #[.pointer (some ⟨b,0,none⟩),.bool false,.int .i64 n] w fun e w'=>e=.returned (.tuple #[])∧HasM w' b true f wr rd st x bu∧Only b w w':=by
 have c0:=h.c0;have c4:=h.c4;have z4:=h.frozen 32772;have H:=hide h;clear h;go_enter Tryz.func265,Tryz.ntmps265;go_wp2_with (first|(go_at_call 105;refine (missing_is b true _ c0).mono ?_;rintro e w' ⟨rfl,hw⟩;subst w')|(go_at_call 69;refine (zam _ _).mono ?_;rintro e w' ⟨rfl,hw⟩;subst w'));refine bodyPost_ret (results_none rfl _ _ _) rfl ?_;exact ⟨rfl,H.out.set4 x,(Only.refl b w).set _ _⟩
theorem zxT {a c:Int} (h:a=c):Ending.returned (.int .i64 a)=.returned (.int .i64 c):=by rw [h]
theorem zoG (b:Nat) (f:Nat→Int) (wr rd st lo bu:Int) (w:World) (h:HasM w b true f wr rd st lo bu) (n x y:Int) (F:Nat→Int) (hx:lo%256+256*(n%256)=x) (hF:zeB f wr x=F) (hw0:0≤wr) (hw1:wr<65536) (hs0:0≤st) (hs1:st<65536) (hy:(wr+st)%65536=y):
  Calls Tryz.prog 265 #[.pointer (some ⟨b,0,none⟩),.bool true,.int .i64 n] w fun e w'=>e=.returned (.tuple #[])∧HasM w' b true F y rd st lo bu∧Only b w w':=by
 have c0:=h.c0;have k1:=zah h.c1 h.lt;have k4:=zah h.c4 h.lt;have H:=hide h;have HF:=hide hF;have HX:=hide hx;have HY:=hide hy;clear h hF hx hy;go_enter Tryz.func265,Tryz.ntmps265;go_wp2_with (first|(go_at_call 105;refine (missing_is b true _ c0).mono ?_;rintro e w' ⟨rfl,hw⟩;subst w'));haveI:=zax w;refine zaq _ _ (show _=[_,_,_,_,_,_,_,_,_,_,_]++[_] from rfl) (by kernel_rfl) (by kernel_rfl) (by kernel_rfl) ?_
 repeat (go_big_quiet_step ((first|(go_at_call 118;exact zaL ((zcT _ _ _).mono (fun _ _ hh=>⟨hh.1.trans (zxT HX.out),hh.2⟩))))))
 refine wpQuiet_nil ?_;rintro _ ⟨wk,rfl⟩;clear c0 k1 k4;go_wp2_with fail;refine (zqW b f _ _ _ _ _ _ (H.out.next wk.below) wr x F HF.out).mono ?_;rintro e w2 ⟨rfl,h2,o2⟩;have H2:=hide h2;have O2:=hide ((Only.of (b:=b) wk.below).trans o2);have k1:=zah h2.c1 h2.lt;have k3:=zah h2.c3 h2.lt;clear h2 o2 H;go_wp2_with fail;haveI:=zax w2;refine zaq _ _ (show _=[_,_,_,_,_,_,_,_,_,_]++[_] from rfl) (by kernel_rfl) (by kernel_rfl) (by kernel_rfl) ?_
 repeat (go_big_quiet_step (fail))
 refine wpQuiet_nil ?_;rintro _ ⟨wj,rfl⟩;clear k1 k3;go_wp2_with fail;refine (zhY b F _ _ _ _ _ _ (H2.out.next wj.below) (wr+st) y HY.out).mono ?_;rintro e w3 ⟨rfl,h3,o3⟩;go_wp2_with fail;go_end0;exact ⟨rfl,h3,(O2.out.trans (Only.of wj.below)).trans o3⟩
theorem zqY (b:Nat) (f:Nat→Int) (wr rd st lo bu:Int) (w:World) (h:HasM w b true f wr rd st lo bu):Calls Tryz.prog 175 #[.pointer (some ⟨b,0,none⟩),.bool false] w fun e w'=>e=.returned (.int .i64 (bu%256))∧w'=w:=by
 have c0:=h.c0;have c5:=h.c5;clear h;go_enter Tryz.func175,Tryz.ntmps175;go_wp2_with (first|(go_at_call 105;refine (missing_is b true _ c0).mono ?_;rintro e w' ⟨rfl,hw⟩;subst w')|(go_at_call 125;refine (zbf _ _).mono ?_;rintro e w' ⟨rfl,hw⟩;subst w'));go_ret;exact ⟨rfl,rfl⟩
theorem zoH (b:Nat) (f:Nat→Int) (wr rd st lo bu:Int) (w:World) (h:HasM w b true f wr rd st lo bu) (x y:Int) (hr0:0≤rd) (hr1:rd<65536) (hs0:0≤st) (hs1:st<65536) (hx:(rd+st)%65536=x) (hy:zbH f x=y):
  Calls Tryz.prog 175 #[.pointer (some ⟨b,0,none⟩),.bool true] w fun e w'=>e=.returned (.int .i64 (bu/256%256))∧HasM w' b true f wr x st lo y∧Only b w w':=by
 have c0:=h.c0;have c5:=h.c5;have k2:=zah h.c2 h.lt;have k3:=zah h.c3 h.lt;have H:=hide h;have HX:=hide hx;have HY:=hide hy;clear h hx hy;go_enter Tryz.func175,Tryz.ntmps175;go_wp2_with (first|(go_at_call 105;refine (missing_is b true _ c0).mono ?_;rintro e w' ⟨rfl,hw⟩;subst w')|(go_at_call 125;refine (zbf _ _).mono ?_;rintro e w' ⟨rfl,hw⟩;subst w'));haveI:=zax w;refine zaq _ _ (show _=[_,_,_,_,_,_,_,_,_,_]++[_] from rfl) (by kernel_rfl) (by kernel_rfl) (by kernel_rfl) ?_
 repeat (go_big_quiet_step (fail))
 refine wpQuiet_nil ?_;rintro _ ⟨wj,rfl⟩;clear k2 k3 c0 c5;go_wp2_with fail;refine (zji b f _ _ _ _ _ _ (H.out.next wj.below) (rd+st) x y HX.out HY.out).mono ?_;rintro e w3 ⟨rfl,h3,o3⟩;go_wp2_with fail;go_ret;exact ⟨rfl,h3,(Only.of wj.below).trans o3⟩
def zbg (A S:Int) (k:Nat):Int:=(A+k*S)%65536
theorem zhd (A S:Int) (k:Nat):(zbg A S k+S)%65536=zbg A S (k+1):=by
 unfold zbg;have:((k+1:Nat):Int)*S=k*S+S:=by rw [Int.natCast_add,Int.add_mul];simp
 rw [this];omega
theorem zeU (A S:Int) (k:Nat):0≤zbg A S k:=by unfold zbg;omega
theorem zeV (A S:Int) (k:Nat):zbg A S k<65536:=by unfold zbg;omega
theorem zhe (A S:Int) (h0:0≤A) (h1:A<65536):zbg A S 0=A:=by unfold zbg;simp;omega
def zbk (N:Nat):List Value:=List.replicate N (.int .i64 0)
theorem zfN (n:Int) (h0:0≤n) (h1:n≤65536) (w:World):
  (Instr.makeSlice 77 (.int .i64 n) (.int .i64 n)).run Tryz.prog w=.ok (.slice (some ⟨w.heap.size,0,none⟩) n.toNat n.toNat) (w.alloc (.cells (zbk n.toNat).toArray 3)):=by
 obtain ⟨N,rfl⟩:∃N:Nat,n=(N:Int):=⟨n.toNat,by omega⟩
 have hb:Tryz.t3.bytes=8:=rfl;rw [Go.run_make w 77 3 Tryz.t3 (.int .i64 0) Tryz.underlying77 (by kernel_rfl) rfl .i64 .i64 N N (by omega) (by omega) (by rw [hb];omega) (by omega)];have e1:madeCells (Value.cells (.int .i64 0)) (N*Tryz.t3.size)=(zbk N).toArray:=by
  rw [show Tryz.t3.size=1 from rfl,Nat.mul_one];apply Array.toList_inj.1;show (madeCells #[.int .i64 0] N).toList=_;rw [toList_madeCells_one];rfl
 simp only [Int.toNat_natCast,e1]
theorem zjS (b o j:Nat):Addr.add ⟨b,o,none⟩ j=⟨b,o+j,none⟩:=by
 unfold Addr.add;split<;>simp_all
theorem znk (b:Nat) (p:Int) (h0:0≤p) (h1:p<32768) (w:World):(Instr.sliceAt 188 (.pointer (some ⟨b,1,none⟩)) (some (.int .i64 p)) none none).run Tryz.prog w=.ok (.slice (some ⟨b,1+p.toNat,none⟩) (32768-p.toNat) (32768-p.toNat)) w:=by
 have hl:Tryz.prog.arrayLen 188=32768:=by kernel_rfl
 have he:Tryz.prog.elem 188=3:=by kernel_rfl
 rw [run_sliceAt_array_l w _ _ (by rw [hl,he];exact Tryz.underlying188) .i64 p h0 (by rw [hl];omega),hl,he,Tryz.sizeOf3];simp only [Result.andThen_ok,slicedAt,Nat.mul_one];rw [if_neg (by omega),zjS]
theorem zjT (b:Nat) (w:World):(Instr.sliceAt 188 (.pointer (some ⟨b,1,none⟩)) none none none).run Tryz.prog w=.ok (.slice (some ⟨b,1,none⟩) 32768 32768) w:=by
 have hl:Tryz.prog.arrayLen 188=32768:=by kernel_rfl
 have he:Tryz.prog.elem 188=3:=by kernel_rfl
 rw [run_sliceAt_array_all w _ _ (by rw [hl,he];exact Tryz.underlying188),hl,he,Tryz.sizeOf3];simp only [Result.andThen_ok,slicedAt,Nat.mul_one];rw [if_neg (by omega)];rfl
theorem zqZ (g N:Nat) (m:Int) (h0:0≤m) (h1:m<N) (w:World):(Instr.sliceAt 77 (.slice (some ⟨g,0,none⟩) N N) (some (.int .i64 m)) none none).run Tryz.prog w=.ok (.slice (some ⟨g,m.toNat,none⟩) (N-m.toNat) (N-m.toNat)) w:=by
 have he:Tryz.prog.elem 77=3:=by kernel_rfl
 have hu:Tryz.prog.underlying 77=some (.slice (Tryz.prog.elem 77)):=by rw [he];exact Tryz.underlying77
 rw [run_sliceAt_slice w _ _ _ _ _ hu,run_slice_l w _ _ _ _ hu .i64 m h0 (by omega),he,Tryz.sizeOf3];simp only [Result.andThen_ok,sliced,Nat.mul_one];rw [if_neg (by omega)];simp only [Option.map_some,zjS,Nat.zero_add]
def zec (f:Nat→Int) (p L:Nat):List Value:=(List.range L).map fun j=>Value.int .i64 (f (p+j))
theorem zaO (f:Nat→Int) (p L:Nat):(zec f p L).length=L:=by simp [zec]
theorem zfO (f:Nat→Int) (p L:Nat):∀v ∈ zec f p L,v.oneCell'=true:=by
 intro v hv;obtain ⟨j,_,rfl⟩:=List.mem_map.1 hv;rfl
theorem zfP (f:Nat→Int) (p L j:Nat) (h:j<L):(zec f p L)[j]? = some (.int .i64 (f (p+j))):=by simp [zec,h]
theorem HasM.part (h:HasM w b m f wr rd st lo bu) (p L:Nat) (hL:p+L≤32768):∀j v,(zec f p L)[j]? = some v→w.cell? (Addr.add ⟨b,1+p,none⟩ j)=some v:=by
 intro j v hv;obtain ⟨hj,_⟩:=List.getElem?_eq_some_iff.1 hv;rw [zaO] at hj;rw [zfP f p L j hj] at hv;rw [←hv,zjS,Nat.add_assoc];exact h.at (p+j) (by omega)
def zgC (f:Nat→Int) (p:Int) (N:Nat):List Value:=(List.range N).map fun (j:Nat)=>Value.int .i64 (zbH f (p+(j:Int)))
theorem zdv (f:Nat→Int) (p:Int) (N:Nat):(zgC f p N).length=N:=by simp [zgC]
theorem zhz (f:Nat→Int) (p:Int) (N j:Nat) (h:j<N):(zgC f p N)[j]? = some (.int .i64 (zbH f (p+j))):=by simp [zgC,h]
theorem zfQ {α:Type} (L:List α) (off:Nat) (cs:List α) (h:off+cs.length≤L.length) (j:Nat):(splice L off cs)[j]? = if j<off then L[j]? else if j<off+cs.length then cs[j-off]? else L[j]? :=by
 unfold splice;have h1:(L.take off).length=off:=by rw [List.length_take];omega
 by_cases k:j<off
 ·rw [if_pos k,List.getElem?_append_left (by omega),List.getElem?_take_of_lt k]
 ·rw [if_neg k,List.getElem?_append_right (by omega),h1]
  by_cases k2:j<off+cs.length
  ·rw [if_pos k2,List.getElem?_append_left (by omega)]
  ·rw [if_neg k2,List.getElem?_append_right (by omega),List.getElem?_drop,show off+cs.length+(j-off-cs.length)=j by omega]
theorem zeC (N j:Nat) (h:j<N):(zbk N)[j]? = some (.int .i64 0):=by simp [zbk,h]
theorem zbd (N:Nat):(zbk N).length=N:=by simp [zbk]
theorem znl {N:Nat} {a b:List Value} (ha:a.length=N) (hb:b.length=N) (h:∀j,j<N→a[j]? = b[j]?):a=b:=by
 apply List.ext_getElem?;intro j
 by_cases k:j<N
 ·exact h j k
 ·rw [List.getElem?_eq_none (by omega),List.getElem?_eq_none (by omega)]
theorem zlf (f:Nat→Int) (n:Int) (h0:0≤n) (h1:n<32768):zbH f n=f n.toNat:=by
 unfold zbH;rw [show n%65536=n by omega,if_pos h1]
theorem zdO (f:Nat→Int) (n:Int) (h:¬n%65536<32768):zbH f n=0:=by
 unfold zbH;rw [if_neg h]
theorem zAq (f:Nat→Int) (p:Int) (N:Nat) (h0:0≤p) (h1:p<32768) (hN:p+N≤65536):splice (zbk N) 0 (zec f p.toNat (min N (32768-p.toNat)))=zgC f p N:=by
 have hl:0+(zec f p.toNat (min N (32768-p.toNat))).length≤(zbk N).length:=by rw [zaO,zbd];omega
 refine znl (N:=N) (by rw [length_splice _ _ _ hl,zbd]) (zdv _ _ _) fun j hj=>?_
 rw [zfQ _ _ _ hl,zaO,zhz f p N j hj,if_neg (by omega)]
 by_cases k:j<32768-p.toNat
 ·rw [if_pos (by omega),show j-0=j from rfl,zfP _ _ _ _ (by omega),zlf f _ (by omega) (by omega),show (p+(j:Int)).toNat=p.toNat+j by omega]
 ·rw [if_neg (by omega),zeC N j hj,zdO f _ (by omega)]
theorem zAr (f:Nat→Int) (p:Int) (N:Nat) (h0:32768≤p) (hN:p+N≤65536):zbk N=zgC f p N:=by
 refine znl (zbd N) (zdv _ _ _) fun j hj=>?_
 rw [zeC N j hj,zhz f p N j hj,zdO f _ (by omega)]
theorem zAs (f:Nat→Int) (p:Int) (N:Nat) (h0:0≤p) (h1:p<32768) (hN:65536<p+N) (h2:N≤65536):splice (splice (zbk N) 0 (zec f p.toNat (min N (32768-p.toNat)))) (65536-p).toNat (zec f 0 (min (N-(65536-p).toNat) 32768))=zgC f p N:=by
 have hl:0+(zec f p.toNat (min N (32768-p.toNat))).length≤(zbk N).length:=by rw [zaO,zbd];omega
 have hl2:(65536-p).toNat+(zec f 0 (min (N-(65536-p).toNat) 32768)).length≤(splice (zbk N) 0 (zec f p.toNat (min N (32768-p.toNat)))).length:=by rw [length_splice _ _ _ hl,zaO,zbd];omega
 refine znl (N:=N) (by rw [length_splice _ _ _ hl2,length_splice _ _ _ hl,zbd]) (zdv _ _ _) fun j hj=>?_
 rw [zfQ _ _ _ hl2,zaO,zfQ _ _ _ hl,zaO,zhz f p N j hj]
 by_cases k:j<(65536-p).toNat
 ·rw [if_pos k,if_neg (by omega)]
  by_cases k:j<32768-p.toNat
  ·rw [if_pos (by omega),show j-0=j from rfl,zfP _ _ _ _ (by omega),zlf f _ (by omega) (by omega),show (p+(j:Int)).toNat=p.toNat+j by omega]
  ·rw [if_neg (by omega),zeC N j hj,zdO f _ (by omega)]
 ·rw [if_neg k,if_pos (by omega),zfP _ _ _ _ (by omega)];have e:zbH f (p+j)=f (p+(j:Int)-65536).toNat:=by
   unfold zbH;rw [show (p+(j:Int))%65536=p+(j:Int)-65536 by omega,if_pos (by omega)]
  rw [e,show (p+(j:Int)-65536).toNat=0+(j-(65536-p).toNat) by omega]
theorem zAt (f:Nat→Int) (p:Int) (N:Nat) (h0:32768≤p) (h1:p<65536) (hN:65536<p+N) (h2:N≤65536):splice (zbk N) (65536-p).toNat (zec f 0 (min (N-(65536-p).toNat) 32768))=zgC f p N:=by
 have hl2:(65536-p).toNat+(zec f 0 (min (N-(65536-p).toNat) 32768)).length≤(zbk N).length:=by rw [zaO,zbd];omega
 refine znl (N:=N) (by rw [length_splice _ _ _ hl2,zbd]) (zdv _ _ _) fun j hj=>?_
 rw [zfQ _ _ _ hl2,zaO,zhz f p N j hj]
 by_cases k:j<(65536-p).toNat
 ·rw [if_pos k,zeC N j hj,zdO f _ (by omega)]
 ·by_cases k2:p+(j:Int)-65536<32768
  ·rw [if_neg k,if_pos (by omega),zfP _ _ _ _ (by omega)];have e:zbH f (p+j)=f (p+(j:Int)-65536).toNat:=by
    unfold zbH;rw [show (p+(j:Int))%65536=p+(j:Int)-65536 by omega,if_pos k2]
   rw [e,show (p+(j:Int)-65536).toNat=0+(j-(65536-p).toNat) by omega]
  ·rw [if_neg k,if_neg (by omega),zeC N j hj,zdO f _ (by omega)]
def OnlyE (E:Nat→Prop) (w w':World):Prop:=w'.os=w.os∧w'.tape=w.tape∧w'.output=w.output∧w.heap.size≤w'.heap.size∧∀k,k<w.heap.size→¬E k→w'.heap[k]? = w.heap[k]?
theorem OnlyE.of (h:Below w.heap.size w w'):OnlyE E w w':=⟨h.os,h.tape,h.output,h.size,fun k hk _=>h.block k hk⟩
theorem OnlyE.size (h:OnlyE E w w'):w.heap.size≤w'.heap.size:=h.2.2.2.1
theorem OnlyE.block (h:OnlyE E w w') (k:Nat) (hk:k<w.heap.size) (hb:¬E k):w'.heap[k]? = w.heap[k]? :=h.2.2.2.2 k hk hb
theorem OnlyE.trans {w1 w2 w3:World} (h:OnlyE E w1 w2) (k:OnlyE E w2 w3):OnlyE E w1 w3:=
 ⟨k.1.trans h.1,k.2.1.trans h.2.1,k.2.2.1.trans h.2.2.1,Nat.le_trans h.size k.size,fun i hi hb=>(k.block i (Nat.lt_of_lt_of_le hi h.size) hb).trans (h.block i hi hb)⟩
theorem OnlyE.obj (h:OnlyE E w w') (k:w.heap[c]? = some o) (hc:¬E c):w'.heap[c]? = some o:=(h.block c (lt_of_block k) hc).trans k
theorem OnlyE.setRow (h:OnlyE E w w') (g:Nat) (hg:w.heap.size≤g) (cs:Array Value):OnlyE E w (w'.setRow g cs):=
 ⟨h.1,h.2.1,h.2.2.1,by have:=h.size;simp [World.setRow];omega,fun i hi hb=>(setRow_other w' g i cs (by omega)).trans (h.block i hi hb)⟩
theorem OnlyE.set (h:OnlyE E w w') (b o:Nat) (v:Value) (hb:E b):OnlyE E w (w'.setCell ⟨b,o,none⟩ v):=
 ⟨h.1,h.2.1,h.2.2.1,by have:=h.size;simpa [World.setCell] using this,fun k hk hE=>(Below.heap_setCell _ _ _ _ fun e=>hE (by rw [e];exact hb)).trans (h.block k hk hE)⟩
theorem OnlyE.below {B:Nat} (h:OnlyE E w w') (hE:∀k,E k→B≤k) (hB:B≤w.heap.size):Below B w w':=
 ⟨h.1,h.2.1,h.2.2.1,h.size,fun k hk=>h.block k (Nat.lt_of_lt_of_le hk hB) fun e=>by have:=hE k e;omega⟩
def Only2 (c d:Nat) (w w':World):Prop:=w'.os=w.os∧w'.tape=w.tape∧w'.output=w.output∧w.heap.size≤w'.heap.size∧∀k,k<w.heap.size→k≠c→k≠d→w'.heap[k]? = w.heap[k]?
theorem Only2.size {d:Nat} (h:Only2 c d w w'):w.heap.size≤w'.heap.size:=h.2.2.2.1
end Go.Proofs.YtdiidjehdginnaaGreatDoor.W13
