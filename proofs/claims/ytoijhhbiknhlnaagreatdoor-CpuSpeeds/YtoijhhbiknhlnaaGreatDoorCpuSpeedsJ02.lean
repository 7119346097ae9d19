/- Texts put together. -/
import Derived.Test.YtoijhhbiknhlnaaGreatDoorCpuSpeedsJ01
import Derived.Test.YtoijhhbiknhlnaaGreatDoorRows
import Derived.WalkKit
import Derived.ProofKit
import Derived.Deep.QuietTactic
import Derived.BigQuiet
import Derived.Test.YtoijhhbiknhlnaaGreatDoorProg
import Derived.RegionTactic
import Derived.Below
import Derived.LaidEql
import Derived.Stop.Asserts
import Derived.RowKitTokens
import Derived.OneCell
import Derived.Handy
namespace Go.Proofs.YtoijhhbiknhlnaaGreatDoor
set_option maxRecDepth 20000
open Go.RowKit
set_option linter.unusedVariables false
def segs:List (Nat×(Nat→Value))→Nat→Value
 |[],_=>undef
 |(n,f)::r,j=>if j<n then f j else segs r (j-n)
def soff:List (Nat×(Nat→Value))→Nat→Nat
 |_,0=>0
 |[],_+1=>0
 |(n,_)::r,k+1=>n+soff r k
theorem zfg (m:Nat) (g:Nat→Value) (r:List (Nat×(Nat→Value))) (k:Nat):soff ((m,g)::r) (k+1)=m+soff r k:=rfl
theorem zef (L:List (Nat×(Nat→Value))):soff L 0=0:=by cases L<;>rfl
theorem zcg (m:Nat) (g:Nat→Value) (r:List (Nat×(Nat→Value))) (j:Nat):segs ((m,g)::r) j=if j<m then g j else segs r (j-m):=rfl
theorem zcF:∀(L:List (Nat×(Nat→Value))) (k n:Nat) (f:Nat→Value) (j:Nat),L[k]? = some (n,f)→j<n→segs L (soff L k+j)=f j
 |[],k,n,f,j,h,_=>by simp at h
 |(m,g)::r,0,n,f,j,h,hj=>by
  obtain ⟨rfl,rfl⟩:m=n∧g=f:=by simpa using h
  rw [zef,zcg,Nat.zero_add,if_pos hj]
 |(m,g)::r,k+1,n,f,j,h,hj=>by
  have h':r[k]? = some (n,f):=by simpa using h
  have ih:=zcF r k n f j h' hj;rw [zfg,zcg,if_neg (by omega),show m+soff r k+j-m=soff r k+j by omega];exact ih
theorem zfh:∀(L:List (Nat×(Nat→Value))) (k n:Nat) (f f':Nat→Value),L[k]? = some (n,f)→∀j,(if soff L k≤j∧j<soff L k+n then f' (j-soff L k) else segs L j)=segs (L.set k (n,f')) j
 |[],k,n,f,f',h,_=>by simp at h
 |(m,g)::r,0,n,f,f',h,j=>by
  obtain ⟨rfl,rfl⟩:m=n∧g=f:=by simpa using h
  rw [zef,List.set_cons_zero,zcg,zcg]
  by_cases hj:j<m
  ·rw [if_pos (show 0≤j∧j<0+m by omega),if_pos hj,Nat.sub_zero]
  ·rw [if_neg (show ¬(0≤j∧j<0+m) by omega),if_neg hj,if_neg hj]
 |(m,g)::r,k+1,n,f,f',h,j=>by
  have h':r[k]? = some (n,f):=by simpa using h
  have ih:=zfh r k n f f' h' (j-m);rw [zfg,List.set_cons_succ,zcg,zcg]
  by_cases hj:j<m
  ·rw [if_neg (show ¬(m+soff r k≤j∧j<m+soff r k+n) by omega),if_pos hj,if_pos hj]
  ·rw [if_neg hj,if_neg hj,←ih]
   by_cases hp:m+soff r k≤j∧j<m+soff r k+n
   ·rw [if_pos hp,if_pos (show soff r k≤j-m∧j-m<soff r k+n by omega),show j-m-soff r k=j-(m+soff r k) by omega]
   ·rw [if_neg hp,if_neg (show ¬(soff r k≤j-m∧j-m<soff r k+n) by omega)]
theorem zut (L:List (Nat×(Nat→Value))) (k n:Nat) (f:Nat→Value) (i:Nat) (v:Value) (h:L[k]? = some (n,f)) (hi:i<n):∀j,updC (segs L) (soff L k+i) v j=segs (L.set k (n,updC f i v)) j:=fun j=>by
 rw [←zfh L k n f (updC f i v) h j];unfold updC
 by_cases hp:soff L k≤j∧j<soff L k+n
 ·rw [if_pos hp]
  by_cases e:j=soff L k+i
  ·rw [if_pos e,if_pos (by omega)]
  ·rw [if_neg e,if_neg (by omega)];have g:=zcF L k n f (j-soff L k) h (by omega);rw [show soff L k+(j-soff L k)=j by omega] at g;exact g
 ·rw [if_neg hp,if_neg (by omega)]
theorem HasF.get {T:TypeId} {w:World} {b N:Nat} {L:List (Nat×(Nat→Value))} (h:HasF T w b N (segs L)) (k:Nat) {n:Nat} {f:Nat→Value} (hk:L[k]? = some (n,f)) (j:Nat) (hj:j<n) {a:Nat} (ha:soff L k+j=a) (hN:a<N):w.cell? ⟨b,a,none⟩=some (f j):=by
 rw [h.at a hN,←ha,zcF L k n f j hk hj]
theorem HasF.put {T:TypeId} {w:World} {b N:Nat} {L:List (Nat×(Nat→Value))} (h:HasF T w b N (segs L)) (k:Nat) {n:Nat} {f:Nat→Value} (hk:L[k]? = some (n,f)) (j:Nat) (hj:j<n) {a:Nat} (ha:soff L k+j=a) (v:Value):HasF T (w.setCell ⟨b,a,none⟩ v) b N (segs (L.set k (n,updC f j v))):=by
 subst ha;exact (h.set _ v).ext fun i _=>zut L k n f j v hk hj i
theorem HasF.put1 {T:TypeId} {w:World} {b N:Nat} {L:List (Nat×(Nat→Value))} (h:HasF T w b N (segs L)) (k:Nat) {u:Value} (hk:L[k]? = some (1,fun _=>u)) {a:Nat} (ha:soff L k=a) (v:Value):HasF T (w.setCell ⟨b,a,none⟩ v) b N (segs (L.set k (1,fun _=>v))):=by
 refine (h.put k hk 0 (by decide) (a:=a) (by omega) v).ext fun i _=>?_
 rw [←zfh L k 1 (fun _=>u) (fun _=>v) hk i,←zfh L k 1 (fun _=>u) (updC (fun _=>u) 0 v) hk i]
 by_cases hp:soff L k≤i∧i<soff L k+1
 ·rw [if_pos hp,if_pos hp];unfold updC;rw [if_pos (by omega)]
 ·rw [if_neg hp,if_neg hp]
theorem HasF.lay {T:TypeId} {w:World} {b N:Nat} {L:List (Nat×(Nat→Value))} (h:HasF T w b N (segs L)) (k:Nat) {n:Nat} {f:Nat→Value} (hk:L[k]? = some (n,f)) (d:Nat→Value) {a:Nat} (ha:soff L k=a):HasF T (w.setCells b a (rowF d n).toList) b N (segs (L.set k (n,d))):=by
 subst ha;exact (h.cells (soff L k) n d).ext fun j _=>zfh L k n f d hk j
theorem HasF.seg {T:TypeId} {w:World} {b N:Nat} {L:List (Nat×(Nat→Value))} (h:HasF T w b N (segs L)) (k:Nat) {n:Nat} {f:Nat→Value} (hk:L[k]? = some (n,f)) {a:Nat} (ha:soff L k=a):∀j,j<n→segs L (a+j)=f j:=fun j hj=>by
 rw [←ha];exact zcF L k n f j hk hj
theorem wpQuiet_mid {P:Program} {ops:Array Oper} {C:World→Prop} {Q:Act→Prop} {a:Act} {o:Oper} {rest:List Oper} (hw:Region.wanted o (yielded ops a.tmps)=true) (ty:TypeId) (x:Operand) (ho:o.op=.load ty x)
  (b off:Nat) (hx:a.eval x=.pointer (some ⟨b,off,none⟩)) (cs:Array Value) (d:TypeDesc) (hc:∀w,C w→w.rangeAt b off cs.toList)
  (hu:P.underlying ty=some d) (hd:d.isRow=true) (hi:(P.info? ty).map (·.size)=some cs.size)
  (h:wpQuiet P ops C Q rest (a.put o.dst (.agg cs))):wpQuiet P ops C Q (o::rest) a:=by
 unfold wpQuiet;rw [if_pos hw];refine ⟨.agg cs,fun w hC=>?_,h⟩;unfold Oper.quietAt execOp;have k:=run_loadVar_mid (P:=P) w b off ty cs.toList d (hc w hC) hu hd (by rw [Array.length_toList];exact hi);simp only [ho,hx,Instr.loadAt,Instr.sureAddr,Sem.run_bind,Sem.run_pure,Result.andThen_ok,k];exact ⟨rfl,rfl⟩
theorem HasF.get1 {T:TypeId} {w:World} {b N:Nat} {L:List (Nat×(Nat→Value))} (h:HasF T w b N (segs L)) (k:Nat) {v:Value} (hk:L[k]? = some (1,fun _=>v)) {a:Nat} (ha:soff L k=a) (hN:a<N):w.cell? ⟨b,a,none⟩=some v:=h.get k hk 0 (by decide) (by omega) hN
theorem zlm:∀(L:List (Nat×(Nat→Value))) (k:Nat),soff L k=((L.map Prod.fst).take k).sum
 |L,0=>by rw [zef];simp
 |[],k+1=>rfl
 |(m,g)::r,k+1=>by rw [zfg,zlm r k];simp
theorem ztM {M:List Nat} {L:List (Nat×(Nat→Value))} (h:L.map Prod.fst=M) (k:Nat) {a:Nat} (ha:(M.take k).sum=a):soff L k=a:=by rw [zlm,h,ha]
theorem zln {M:List Nat} {L:List (Nat×(Nat→Value))} (h:L.map Prod.fst=M) {k n:Nat} {f:Nat→Value} (hk:L[k]? = some (n,f)) (f':Nat→Value):(L.set k (n,f')).map Prod.fst=M:=by
 rw [←h];apply List.ext_getElem?;intro i;rw [List.getElem?_map,List.getElem?_map,List.getElem?_set]
 by_cases e:k=i
 ·subst e;rw [if_pos rfl,hk]
  by_cases hl:k<L.length
  ·rw [if_pos hl];rfl
  ·rw [List.getElem?_eq_none (by omega)] at hk;cases hk
 ·rw [if_neg e]
theorem zcu {L:List (Nat×(Nat→Value))} {k n:Nat} {f:Nat→Value} (hk:L[k]? = some (n,f)) (x:Nat×(Nat→Value)):(L.set k x)[k]? = some x:=by
 rw [List.getElem?_set,if_pos rfl]
 by_cases hl:k<L.length
 ·rw [if_pos hl]
 ·rw [List.getElem?_eq_none (by omega)] at hk;cases hk
theorem zhJ {L:List (Nat×(Nat→Value))} {k:Nat} {x:Nat×(Nat→Value)} (hk:L[k]? = some x):L.set k x=L:=by
 apply List.ext_getElem?;intro i
 by_cases e:k=i
 ·subst e;rw [hk];exact zcu (n:=x.1) (f:=x.2) hk x
 ·rw [List.getElem?_set,if_neg e]
theorem zaA {L:List (Nat×(Nat→Value))} {k i:Nat} {y:Option (Nat×(Nat→Value))} (hk:L[i]? = y) (x:Nat×(Nat→Value)) (h:k≠i):(L.set k x)[i]? = y:=by
 rw [List.getElem?_set,if_neg h,hk]
theorem zaj (n:Int) (w:World):
  Calls Tryz.prog 32 #[.int .i64 n] w fun e w'=>e=.returned (.int .i64 (n%256))∧w'=w:=by
 go_enter Tryz.func32,Tryz.ntmps32;go_wp2;go_ret;exact ⟨zay (zun n),rfl⟩
theorem zbd (n:Int) (w:World):
  Calls Tryz.prog 33 #[.int .i64 n] w fun e w'=>e=.returned (.int .i64 (n%65536))∧w'=w:=by
 go_enter Tryz.func33,Tryz.ntmps33;go_wp2;go_ret;exact ⟨zay (znG n),rfl⟩
theorem zbo (n:Int) (w:World):
  Calls Tryz.prog 85 #[.int .i64 n] w fun e w'=>e=.returned (.tuple #[.int .i64 (n%256),.int .i64 (n/256%256)])∧w'=w:=by
 go_enter Tryz.func85,Tryz.ntmps85;go_wp2_with (go_at_call 32;refine (zaj _ _).mono ?_;rintro e w' ⟨rfl,rfl⟩);go_ret2;exact ⟨rfl,rfl⟩
theorem zfY (b off len cap:Nat) (zs:List Int) (w:World) (hz:zs.length=len) (hbig:len≤1000) (hc:∀j,j<zs.length→w.cell? ⟨b,off+j,none⟩=some (.int .i64 (zs[j]?.getD 0))):
  Calls Tryz.prog 97 #[.slice (some ⟨b,off,none⟩) len cap] w fun e w'=>e=.returned (.int .i64 (zgB zs))∧w'=w:=by
 go_enter Tryz.func97,Tryz.ntmps97;go_wp2;go_loop [3,8] (fun t i=>∃k:Nat,k≤len∧i=.int .i64 k∧t=.int .i64 (zgB (zs.take k))) (fun _ i=>len-(intOf i).toNat)
 case atStart=>exact ⟨0,Nat.zero_le _,rfl,rfl⟩
 case round=>
  obtain ⟨k,hk,rfl,rfl⟩:=hrel
  by_cases hlt:k<len
  ·have hcell:w.cell? ⟨b,off+k,none⟩=some (.int .i64 (zs[k]?.getD 0)):=hc k (by omega);have HS:Hid (zgB (zs.take (k+1))=bits .or .i64 (zgB (zs.take k)) (zs[k]?.getD 0)):=zmd zs k (by omega);clear hc;generalize zs[k]?.getD 0=z at *;go_wp2;go_round
   case rel=>exact ⟨k+1,by omega,by go_num,by rw [HS.out]⟩
   case measure=>simp [intOf];omega
  ·go_wp2;go_ret;exact ⟨zay (by rw [List.take_of_length_le (by omega)]),rfl⟩
theorem zbY (a b:Int) (w:World):
  Calls Tryz.prog 90 #[.int .i64 a,.int .i64 b] w fun e w'=>e=.returned (.int .i64 (a%256+256*(b%256)))∧Below w.heap.size w w':=by
 go_enter Tryz.func90,Tryz.ntmps90
 go_wp2_with (first
  |(go_at_call 32;refine (zaj _ _).mono ?_;rintro e w' ⟨rfl,rfl⟩))
 refine (zfY _ 0 2 2 [a%256,b%256*256] _ rfl (by decide) ?_).mono ?_
 ·exact zjh _ [a%256,b%256*256] _ _ rfl
 rintro e w1 ⟨rfl,rfl⟩;go_wp2;go_ret;exact ⟨zay (zme a b),(Below.refl _ _).alloc (Nat.le_refl _) _⟩
theorem zml (n:Int) (w:World):
  Calls Tryz.prog 171 #[.int .i64 n] w fun e w'=>e=.returned (.int .i64 (zhD n))∧w'=w:=by
 by_cases h:128≤n%256
 all_goals
  go_enter Tryz.func171,Tryz.ntmps171
  go_wp2_with (first
   |(go_at_call 32;refine (zaj _ _).mono ?_;rintro e w' ⟨rfl,rfl⟩))
  go_ret;exact ⟨zay (by unfold zhD;split<;>omega),rfl⟩
theorem zdF (k:Int) (w:World):
  Calls Tryz.prog 96 #[.int .i64 k] w fun e w'=>e=.returned (.bool (inW k))∧w'=w:=by
 by_cases h0:0≤k
 ·by_cases h1:k<16
  ·have HB:=hide (zkl h0 h1);go_enter Tryz.func96,Tryz.ntmps96;go_wp2;go_ret;exact ⟨zbA HB.out.symm,rfl⟩
  ·have HB:=hide (zla (k:=k) (by omega));go_enter Tryz.func96,Tryz.ntmps96;go_wp2;go_ret;exact ⟨zbA HB.out.symm,rfl⟩
 ·have HB:=hide (zla (k:=k) (by omega));go_enter Tryz.func96,Tryz.ntmps96;go_wp2;go_ret;exact ⟨zbA HB.out.symm,rfl⟩
theorem zaM (n k:Int) (w:World):
  Calls Tryz.prog 56 #[.int .i64 n,.int .i64 k] w fun e w'=>e=.returned (.int .i64 (zaP n k))∧w'=w:=by
 by_cases h:0≤k∧k<16
 ·have hb:zaP n k=n%65536/2 ^ k.toNat%2:=by unfold zaP;rw [if_pos h]
  have HB:=hide hb;clear hb;obtain ⟨h0,h1⟩:=h;have hd:=zkl h0 h1;go_enter Tryz.func56,Tryz.ntmps56
  go_wp2_with (first
   |(go_at_call 96;refine (zdF _ _).mono ?_;rintro e w' ⟨rfl,rfl⟩)
   |(go_at_call 33;refine (zbd _ _).mono ?_;rintro e w' ⟨rfl,rfl⟩))
  go_ret;exact ⟨zay (by rw [HB.out];exact zjf _),rfl⟩
 ·have hb:zaP n k=0:=by unfold zaP;rw [if_neg h]
  have HB:=hide hb;clear hb;have hd:=zla h;go_enter Tryz.func56,Tryz.ntmps56
  go_wp2_with (first
   |(go_at_call 96;refine (zdF _ _).mono ?_;rintro e w' ⟨rfl,rfl⟩)
   |(go_at_call 33;refine (zbd _ _).mono ?_;rintro e w' ⟨rfl,rfl⟩))
  go_ret;exact ⟨zay (by rw [HB.out]),rfl⟩
theorem zeS (n k:Int) (on:Bool) (w:World):
  Calls Tryz.prog 53 #[.int .i64 n,.int .i64 k,.bool on] w fun e w'=>e=.returned (.int .i64 (zbj n k on))∧Below w.heap.size w w':=by
 by_cases h:0≤k∧k<16
 ·obtain ⟨h0,h1⟩:=h;have hd:=zkl h0 h1;have hp:=zxC k h0 h1;cases on
  ·have HB:=hide (znJ n k h0 h1);go_enter Tryz.func53,Tryz.ntmps53
   go_wp2_with (first
    |(go_at_call 96;refine (zdF _ _).mono ?_;rintro e w' ⟨rfl,rfl⟩))
   go_quiet ((go_at_call 33;exact Calls.quiet_of_same (zbd _ _)));go_wp2;go_ret;exact ⟨zay (by rw [HB.out];exact ztK n k h0 h1),zhE (Below.refl _ _) _⟩
  ·have HB:=hide (znI n k h0 h1);go_enter Tryz.func53,Tryz.ntmps53
   go_wp2_with (first
    |(go_at_call 96;refine (zdF _ _).mono ?_;rintro e w' ⟨rfl,rfl⟩))
   go_quiet ((go_at_call 33;exact Calls.quiet_of_same (zbd _ _)));go_wp2_with fail;rw [ztK n k h0 h1];refine (zfY _ 0 2 2 [n%65536-zaP n k*2 ^ k.toNat,2 ^ k.toNat] _ rfl (by decide) ?_).mono ?_
   ·exact zjh _ [n%65536-zaP n k*2 ^ k.toNat,2 ^ k.toNat] _ _ rfl
   rintro e w1 ⟨rfl,rfl⟩;go_wp2;go_ret;exact ⟨zay (by rw [HB.out];exact znH n k h0 h1),(zhE (Below.refl _ _) _).alloc (Nat.le_refl _) _⟩
 ·have hd:=zla h;have HB:=hide (znK n k on h);go_enter Tryz.func53,Tryz.ntmps53
  go_wp2_with (first
   |(go_at_call 96;refine (zdF _ _).mono ?_;rintro e w' ⟨rfl,rfl⟩)
   |(go_at_call 33;refine (zbd _ _).mono ?_;rintro e w' ⟨rfl,rfl⟩))
  go_ret;exact ⟨zay HB.out.symm,Below.refl _ _⟩
end Go.Proofs.YtoijhhbiknhlnaaGreatDoor
namespace Go.Proofs.YtoijhhbiknhlnaaGreatDoor.C3
set_option maxRecDepth 20000
open Go.RowKit
set_option linter.unusedVariables false
def zeA:Array Value:=#[.int .i64 1,.int .i64 0,.int .i64 2,.int .i64 0,.int .i64 4,.int .i64 0,.int .i64 8,.int .i64 0,.int .i64 16,.int .i64 0,.int .i64 32,.int .i64 0,.int .i64 64,.int .i64 0,.int .i64 128,.int .i64 0,.int .i64 48,.int .i64 1,.int .i64 96,.int .i64 1,.int .i64 320,.int .i64 2]
def HasTab (w:World):Prop:=∃t fr,w.heap[6]? = some (.cells zeA t fr)
theorem HasTab.below {B:Nat} {w w':World} (h:HasTab w) (b:Below B w w') (hB:6<B):HasTab w':=by
 obtain ⟨t,fr,e⟩:=h;exact ⟨t,fr,(b.block 6 hB).trans e⟩
theorem HasTab.pos {w:World} (h:HasTab w):6<w.heap.size:=by
 obtain ⟨t,fr,e⟩:=h;exact lt_of_block e
theorem HasTab.next {w w':World} (h:HasTab w) (b:Below w.heap.size w w'):HasTab w':=h.below b h.pos
def zfi (j:Nat):Int:=[(1:Int),2,4,8,16,32,64,128,48,96,320].getD j 0
def zjo (j:Nat):Int:=[(0:Int),0,0,0,0,0,0,0,1,1,2].getD j 0
theorem tab_index (j:Nat) (hj:j<11) (w:World):(Instr.index 235 (.agg zeA) (.int .i64 (j:Int))).run Tryz.prog w=.ok (.agg #[.int .i64 (zfi j),.int .i64 (zjo j)]) w:=by
 rcases j with _|_|_|_|_|_|_|_|_|_|_|j
 ·kernel_rfl
 ·kernel_rfl
 ·kernel_rfl
 ·kernel_rfl
 ·kernel_rfl
 ·kernel_rfl
 ·kernel_rfl
 ·kernel_rfl
 ·kernel_rfl
 ·kernel_rfl
 ·kernel_rfl
 ·omega
theorem zre (n:Int) (w:World) (cs:Array Value) (t:TypeId) (fr:Nat×Nat) (hT:w.heap[6]? = some (.cells cs t fr)) (hs:some 22=some cs.size)
  (hx:∀(j:Nat),j<11→∀w:World,(Instr.index 235 (.agg cs) (.int .i64 (j:Int))).run Tryz.prog w=.ok (.agg #[.int .i64 (zfi j),.int .i64 (zjo j)]) w):
  Calls Tryz.prog 142 #[.int .i64 n] w fun e w'=>((∃j,j<11∧zfi j=n∧e=.returned (.tuple #[.int .i64 (zjo j),.bool true]))∨((∀i,i<11→zfi i≠n)∧e=.returned (.tuple #[.int .i64 0,.bool false])))∧Below w.heap.size w w':=by
 have hi:(Tryz.prog.info? 235).map (·.size)=some cs.size:=Eq.trans (by kernel_rfl) hs;have HX:=hide hx;have HT:=hide hT;have HI:=hide hi;clear hx hs hi hT;go_enter Tryz.func142,Tryz.ntmps142;go_wp2_with (first|(refine wpList_load_row rfl 235 (.global 6) rfl 6 rfl t cs fr _ HT.out Tryz.underlying235 rfl HI.out ?_));go_loopw [7] (fun si wr=>∃j:Nat,j≤11∧si=.int .i64 (j:Int)∧(∀i,i<j→zfi i≠n)∧Below w.heap.size w wr) (fun si _=>11-(intOf si).toNat)
 case atStart=>exact ⟨0,by omega,rfl,fun i hi=>absurd hi (by omega),Below.refl _ _⟩
 case round=>
  obtain ⟨j,hj,rfl,hne,bel⟩:=hrel;have HN:=hide hne;have BL:=hide bel;clear hne bel
  by_cases h:j<11
  ·have hx:=HX.out j h;obtain ⟨p,hp⟩:∃p,p=zfi j:=⟨_,rfl⟩
   obtain ⟨k,hk⟩:∃k,k=zjo j:=⟨_,rfl⟩
   rw [←hp,←hk] at hx;have HP:=hide hp;have HK:=hide hk;clear hp hk
   by_cases hpn:p=n
   ·go_wp2_with fail;go_ret2;refine ⟨.inl ⟨j,h,by rw [←HP.out];exact hpn,zhF HK.out rfl⟩,BL.out.alloc BL.out.size _⟩
   ·go_wp2_with fail;go_roundw
    case rel=>
     refine ⟨j+1,by omega,by go_num,fun i hi=>?_,?_⟩
     ·by_cases hij:i=j
      ·subst hij;rw [←HP.out];exact hpn
      ·exact HN.out i (by omega)
     ·exact BL.out.alloc BL.out.size _
    case measure=>simp [intOf];omega
  ·have hj:j=11:=by omega
   subst hj;go_wp2_with fail;go_ret2;exact ⟨.inr ⟨HN.out,rfl⟩,BL.out⟩
def zdg (n:Int):Int:=if n=48∨n=96 then 1 else if n=320 then 2 else 0
def zdh (n:Int):Bool:=decide (n=1∨n=2∨n=4∨n=8∨n=16∨n=32∨n=64∨n=128∨n=48∨n=96∨n=320)
theorem zlo (j:Nat) (hj:j<11):zdh (zfi j)=true∧zdg (zfi j)=zjo j:=by
 revert j;decide
theorem zhK {n:Int} (h:∀i,i<11→zfi i≠n):zdh n=false∧zdg n=0:=by
 have h0:(1:Int)≠n:=h 0 (by decide);have h1:(2:Int)≠n:=h 1 (by decide);have h2:(4:Int)≠n:=h 2 (by decide);have h3:(8:Int)≠n:=h 3 (by decide);have h4:(16:Int)≠n:=h 4 (by decide);have h5:(32:Int)≠n:=h 5 (by decide);have h6:(64:Int)≠n:=h 6 (by decide);have h7:(128:Int)≠n:=h 7 (by decide);have h8:(48:Int)≠n:=h 8 (by decide);have h9:(96:Int)≠n:=h 9 (by decide);have hA:(320:Int)≠n:=h 10 (by decide);constructor
 ·unfold zdh;rw [decide_eq_false_iff_not];omega
 ·unfold zdg;rw [if_neg (by omega),if_neg (by omega)]
theorem zgL (n:Int) (w:World) (hT:HasTab w):
  Calls Tryz.prog 142 #[.int .i64 n] w fun e w'=>e=.returned (.tuple #[.int .i64 (zdg n),.bool (zdh n)])∧Below w.heap.size w w':=by
 obtain ⟨t,fr,hT⟩:=hT;refine (zre n w zeA t fr hT rfl (fun j hj w=>tab_index j hj w)).mono ?_;rintro e w' ⟨⟨j,hj,rfl,rfl⟩|⟨h,rfl⟩,b⟩
 ·rw [(zlo j hj).1,(zlo j hj).2];exact ⟨rfl,b⟩
 ·rw [(zhK h).1,(zhK h).2];exact ⟨rfl,b⟩
theorem zfj (a:Addr) (s:Option Addr) (len cap:Nat) (w:World) (hl:len<4611686018427387904) (h:w.cell? a=some (.slice s len cap)):
  Calls Tryz.prog 80 #[.pointer (some a)] w fun e w'=>e=.returned (.int .i64 ((len/8192:Nat):Int))∧w'=w:=by
 go_enter Tryz.func80,Tryz.ntmps80;go_wp2;go_ret;exact ⟨rfl,rfl⟩
theorem zuu (a:Addr) (b off len cap p q:Nat) (z:Int) (w:World) (hl:len<4611686018427387904) (h:w.cell? a=some (.slice (some ⟨b,off,none⟩) len cap)) (hp:p<len/8192) (hq:q<8192)
  (hz:w.cell? ⟨b,off+(p*8192+q),none⟩=some (.int .u8 z)) (z0:0≤z) (z1:z<256):
  Calls Tryz.prog 124 #[.pointer (some a),.int .i64 p,.int .i64 q] w fun e w'=>e=.returned (.int .i64 z)∧w'=w:=by
 have HP:=hide (zfj a (some ⟨b,off,none⟩) len cap w hl h);have hm:(p:Int)<((len/8192:Nat):Int):=by omega
 have h1:(p:Int)*8192+q<len:=by omega
 have h2:((p:Int)*8192+q).toNat=p*8192+q:=by omega
 generalize ((len/8192:Nat):Int)=m at *;clear hp;go_enter Tryz.func124,Tryz.ntmps124;go_wp2_with (first|(go_at_call 80;refine HP.out.mono ?_;rintro e w' ⟨rfl,rfl⟩));go_ret;exact ⟨rfl,rfl⟩
end Go.Proofs.YtoijhhbiknhlnaaGreatDoor.C3
