/- Texts put together. -/
import Derived.Test.YtdiidjehdginnaaGreatDoorConsoleCountsJ17
import Derived.Test.YtdiidjehdginnaaGreatDoorConsoleCountsJ01
import Derived.Laws.Rows
import Derived.Laws.Tables
import Derived.Laws.ResultCell
import Derived.Laws.CopyOwn
import Derived.Deep.Quiet
import Derived.WalkMore
import Derived.OneCell
import Derived.Handy
import Derived.Test.YtdiidjehdginnaaGreatDoorConsoleCountsJ02
import Derived.Deep.CutRange
import Derived.Test.YtdiidjehdginnaaGreatDoorConsoleCountsJ09
import Derived.Test.YtdiidjehdginnaaGreatDoorConsoleCountsJ08
import Derived.Test.YtdiidjehdginnaaGreatDoorConsoleCountsJ15
import Derived.Test.YtdiidjehdginnaaGreatDoorConsoleCountsJ16
import Derived.Test.YtdiidjehdginnaaGreatDoorConsoleCountsJ07
import Derived.Test.YtdiidjehdginnaaGreatDoorConsoleCountsJ06
import Derived.Deep.MidRow
import Derived.Test.YtdiidjehdginnaaGreatDoorRows
import Derived.Test.YtdiidjehdginnaaGreatDoorConsoleCountsJ03
import Derived.Test.YtdiidjehdginnaaGreatDoorConsoleCountsJ10
import Derived.ChangeSame
import Derived.ChangeVars
import Derived.JoinedOf
import Derived.RowKit
import Derived.RowKitTokens
import Derived.LaidLaws
import Derived.LaidHandle
import Derived.Stop.Joined
namespace Go.Proofs.YtdiidjehdginnaaGreatDoor.N21
set_option maxHeartbeats 4000000
set_option maxRecDepth 20000
open Go.RowKit
set_option linter.unusedVariables false
variable {b:Nat} {f:Nat→Nat} {w:World}
def rowL (f:Nat→Nat):Array Value:=((List.range 18).map fun j=>Value.int .i64 ((f j:Nat):Int)).toArray
theorem zbB (f:Nat→Nat):(rowL f).size=18:=by simp [rowL]
theorem zkD (f:Nat→Nat) (j:Nat) (h:j<18):(rowL f)[j]? = some (.int .i64 ((f j:Nat):Int)):=by simp [rowL,h]
theorem zkE {g:Nat→Nat} (h:∀j,j<18→f j=g j):rowL f=rowL g:=by
 unfold rowL
 congr 1
 apply List.map_congr_left;intro j hj;rw [h j (List.mem_range.1 hj)]
def updL (f:Nat→Nat) (i v:Nat):Nat→Nat:=fun j=>if j=i then v else f j
theorem zwn (f:Nat→Nat) (i v:Nat):(rowL f).setIfInBounds i (.int .i64 ((v:Nat):Int))=rowL (updL f i v):=by
 apply Array.ext_getElem?;intro j;rw [Array.getElem?_setIfInBounds,zbB]
 by_cases k:j<18
 ·rw [zkD _ _ k,zkD _ _ k]
  by_cases e:i=j
  ·subst e;simp [k,updL]
  ·rw [if_neg e];simp [updL,show ¬j=i from fun h=>e h.symm]
 ·rw [Array.getElem?_eq_none (by rw [zbB];omega),Array.getElem?_eq_none (by rw [zbB];omega)]
  by_cases e:i=j
  ·subst e;simp [k]
  ·rw [if_neg e]
theorem zgs (f:Nat→Nat):(rowL f).all (·.oneCell')=true:=by
 unfold rowL;rw [←Array.all_toList];simp [Value.oneCell']
def HasL (w:World) (b:Nat) (f:Nat→Nat):Prop:=w.heap[b]? = some (.cells (rowL f) 310 (0,0))
theorem HasL.next (h:HasL w b f) {w':World} (k:Below w.heap.size w w'):HasL w' b f:=(k.block b (lt_of_block h)).trans h
theorem HasL.at (h:HasL w b f) (j:Nat) (hj:j<18):w.cell? ⟨b,j,none⟩=some (.int .i64 ((f j:Nat):Int)):=(cell_of_row w b j _ _ _ h).trans (zkD f j hj)
theorem HasL.frozen (h:HasL w b f) (j:Nat):w.frozen? ⟨b,j,none⟩=false:=frozen_of_row w b j _ _ h
theorem HasL.ext (h:HasL w b f) {g:Nat→Nat} (e:∀j,j<18→f j=g j):HasL w b g:=by
 unfold HasL;rw [←zkE e];exact h
theorem HasL.set (h:HasL w b f) (i v:Nat):HasL (w.setCell ⟨b,i,none⟩ (.int .i64 ((v:Nat):Int))) b (updL f i v):=by
 have e:=heap_setCell_same w b i _ _ (.int .i64 ((v:Nat):Int)) h;rw [zwn] at e;exact e
theorem HasL.other (h:HasL w b f) (p:Addr) (v:Value) (hb:b≠p.block):HasL (w.setCell p v) b f:=(heap_setCell_other w p b v hb).trans h
theorem zkF (w:World) (f:Nat→Nat):HasL (w.alloc (.cells (rowL f) 310)) w.heap.size f:=heap_alloc_new _ _
theorem ztv (w:World):(zeroValue 310).run Tryz.prog w=.ok (.agg (rowL (fun _=>0))) w:=by kernel_rfl
theorem zcS (f:Nat→Nat):(Tryz.prog.info? 310).map (·.size)=some (rowL f).size:=by
 rw [zbB]
 kernel_rfl
theorem size_int (w:World):(sizeOf 3).run Tryz.prog w=.ok 1 w:=by
 have h:(Tryz.prog.info? 3).map (·.size)=some 1:=by kernel_rfl
 cases hq:Tryz.prog.info? 3 with
 |none=>rw [hq] at h;cases h
 |some i=>
  rw [hq] at h;have:i.size=1:=by simpa using h
  simp [sizeOf,typeInfo,hq,this]
theorem zjw (f:Nat→Nat) (k:Nat) (hk:k<18) (w:World):(Instr.index 310 (.agg (rowL f)) (.int .i64 (k:Int))).run Tryz.prog w=.ok (.int .i64 ((f k:Nat):Int)) w:=by
 have e:=zkD f k hk;have h0:(0:Int)≤k∧(k:Int)<((18:Nat):Int):=by omega
 have h1:(k:Int)<18:=by omega
 have hs:=size_int w;generalize rowL f=cs at e ⊢;simp only [Instr.index,asIntOf,part];simp only [run_underlying Tryz.underlying310,Sem.run_bind,Result.andThen];simp [h0,h1,hs,e,isAgg,run_underlying Tryz.underlying3,Result.andThen]
theorem ztw (s k:Nat):bits .and .i64 ((s:Int)/2 ^ k) 1=((s/2 ^ k%2:Nat):Int):=by
 have e:(s:Int)/2 ^ k=((s/2 ^ k:Nat):Int):=by
  rw [Int.natCast_ediv,Int.natCast_pow];rfl
 rw [e,zho];omega
theorem ztx (t x s k:Nat) (ht:t<262144) (hx:x<262144):bits .xor .i64 (t:Int) (wrap64 ((x:Int)*bits .and .i64 ((s:Int)/2 ^ k) 1))=((t ^^^ x*(s/2 ^ k%2):Nat):Int):=by
 rw [ztw];have h2:s/2 ^ k%2=0∨s/2 ^ k%2=1:=by omega
 have e:wrap64 ((x:Int)*((s/2 ^ k%2:Nat):Int))=((x*(s/2 ^ k%2):Nat):Int):=by
  rcases h2 with e|e<;>rw [e]<;>unfold wrap64<;>omega
 have l:x*(s/2 ^ k%2)<262144:=by rcases h2 with e|e<;>rw [e]<;>omega
 rw [e,ziB _ _ ht l]
theorem zkG (f:Nat→Nat) (hf:∀i,i<18→f i<262144) (s:Nat) (hs:s<262144) (w:World):
  Calls Tryz.prog 256 #[.agg (rowL f),.int .i64 ((s:Nat):Int)] w fun e w'=>e=.returned (.int .i64 ((zdm f s 18:Nat):Int))∧Below w.heap.size w w':=by
 have N:=hide (zkF w f);have HF:=hide hf;clear hf;go_enter Tryz.func256,Tryz.ntmps256;go_wp2_with (refine wpList_load_row rfl 310 (.tmp 2) rfl w.heap.size rfl _ _ _ _ N.out Tryz.underlying310 rfl (zcS f) ?_);go_loop [5,9] (fun t i=>∃k:Nat,k≤18∧i=.int .i64 k∧t=.int .i64 ((zdm f s k:Nat):Int)) (fun _ i=>18-(intOf i).toNat)
 case atStart=>exact ⟨0,Nat.zero_le _,rfl,rfl⟩
 case round=>
  obtain ⟨k,hk,rfl,rfl⟩:=hrel
  by_cases hlt:k<18
  ·have hi:=fun w=>zjw f k hlt w
   have hF:=HF.out k hlt;have hT:=zlO HF.out s k (by omega);have HS:=hide (show zdm f s (k+1)=zdm f s k ^^^ f k*(s/2 ^ k%2) from rfl);generalize f k=x at *;generalize zdm f s k=t at *;go_wp2;go_round
   case rel=>exact ⟨k+1,by omega,by go_num,by rw [HS.out,ztx t x s k hT hF]⟩
   case measure=>simp [intOf];omega
  ·obtain rfl:k=18:=by omega
   go_wp2;go_ret;exact ⟨rfl,(Below.refl _ w).alloc (Nat.le_refl _) _⟩
def toF (f:Nat→Nat) (k:Nat):Nat→Nat:=fun j=>if j<k then f j else 0
theorem zty (f:Nat→Nat) (k:Nat):∀j,j<18→updL (toF f k) k (f k) j=toF f (k+1) j:=by
 intro j _;unfold updL toF
 by_cases e:j=k
 ·subst e;simp
 ·rw [if_neg e]
  by_cases l:j<k
  ·rw [if_pos l,if_pos (by omega)]
  ·rw [if_neg l,if_neg (by omega)]
theorem ztz (f:Nat→Nat):∀j,j<18→toF f 18 j=f j:=fun j hj=>if_pos hj
theorem zxm {k:Nat} (h:k<18):0<2 ^ k∧2 ^ k<262144:=by
 have e:(2:Nat) ^ k<2 ^ 18:=Nat.pow_lt_pow_right (by decide) h;exact ⟨Nat.two_pow_pos k,e⟩
theorem zmM (w:World):Calls Tryz.prog 253 #[] w fun e w'=>e=.returned (.agg (rowL fun i=>zbZ (2 ^ i)))∧Below w.heap.size w w':=by
 go_enter Tryz.func253,Tryz.ntmps253;go_wp2_with (refine zav rfl 310 rfl (rowL fun _=>0) ztv ?_);refine under_name fun wa hwa=>?_
 obtain ⟨n0,n1,nz,nb⟩:=two_named hwa;have M0:Hid (HasL wa w.heap.size (fun _=>0)):=n0;have M1:Hid (HasL wa (w.heap.size+1) (toF (fun i=>zbZ (2 ^ i)) 0)):=n1;have MB:=hide nb;clear n0 n1 nz nb hwa;go_loopw [3] (fun i w'=>∃k:Nat,k≤18∧i=.int .i64 k∧HasL w' w.heap.size (fun _=>0)∧HasL w' (w.heap.size+1) (toF (fun i=>zbZ (2 ^ i)) k)∧Below w.heap.size w w') (fun i _=>18-(intOf i).toNat)
 case atStart=>exact ⟨0,Nat.zero_le _,rfl,M0.out,M1.out,MB.out⟩
 case round=>
  obtain ⟨k,hk,rfl,h0,h1,hB⟩:=hrel;have H0:=hide h0;have H1:=hide h1;have HB:=hide hB;clear h0 h1 hB
  by_cases hlt:k<18
  ·have c:=H1.out.at k hlt;have fr:=H1.out.frozen k;obtain ⟨p0,p1⟩:=zxm hlt
   have HS:Hid (stOf (wrap64 (2 ^ k))=2 ^ k):=hide (by
    rw [show wrap64 ((2:Int) ^ k)=((2 ^ k:Nat):Int) by
     rw [show (2:Int) ^ k=((2 ^ k:Nat):Int) from (Int.natCast_pow 2 k).symm];unfold wrap64
     omega]
    exact ziy p0 p1)
   go_wp2_with (go_at_call 270;refine (zwk _ _).mono ?_;rintro e w4 ⟨rfl,hw⟩;subst w4);rw [HS.out];exact ⟨⟨k+1,by omega,by go_num,H0.out.other _ _ (by simp),(H1.out.set k _).ext (zty (fun i=>zbZ (2 ^ i)) k),HB.out.setCell (p:=⟨w.heap.size+1,k,none⟩) (by simp) _⟩,by simp [intOf];omega⟩
  ·obtain rfl:k=18:=by omega
   go_wp2_with (first
    |(refine wpList_load_row rfl 310 (.tmp 1) rfl (w.heap.size+1) rfl _ _ _ _ H1.out Tryz.underlying310 rfl (zcS _) ?_)
    |(refine wpList_store_row rfl 310 (.tmp 0) (.tmp 12) rfl (w.heap.size ) _ rfl rfl 310 _ H0.out (zcS _) (by rw [zbB,zbB]) (zgs _) ?_)
    |(refine bodyPost_ret (results_cell_row rfl _ _ (w.heap.size ) 310 _ (0,0) _ rfl (setRow_heap _ _ _ _ _ _ H0.out) Tryz.underlying310 rfl (zcS _)) rfl ⟨by rw [zkE (ztz _)],below_setRow HB.out (by omega) _⟩))
theorem ziD (f:Nat→Nat) (hf:∀i,i<18→f i<262144) (w:World):Calls Tryz.prog 255 #[.agg (rowL f)] w fun e w'=>e=.returned (.agg (rowL fun i=>zdm f (f i) 18))∧Below w.heap.size w w':=by
 have N:=hide (zfy (w:=w) (o0:=.cells (rowL f) 310) (o1:=.cells (rowL fun _=>0) 310) (o2:=.cells (rowL fun _=>0) 310) rfl).1;have HF:=hide hf;clear hf;go_enter Tryz.func255,Tryz.ntmps255
 go_wp2_with (first
  |(refine zav rfl 310 rfl (rowL fun _=>0) ztv ?_)
  |(refine wpList_load_row rfl 310 (.tmp 1) rfl w.heap.size rfl _ _ _ _ N.out Tryz.underlying310 rfl (zcS _) ?_))
 refine under_name fun wa hwa=>?_
 obtain ⟨n0,n1,n2,nz,nb⟩:=zfy hwa;have M0:Hid (HasL wa w.heap.size f):=n0;have M1:Hid (HasL wa (w.heap.size+1) (fun _=>0)):=n1;have M2:Hid (HasL wa (w.heap.size+1+1) (toF (fun i=>zdm f (f i) 18) 0)):=n2;have MB:=hide nb;clear n0 n1 n2 nz nb hwa N;go_loopw [7] (fun i w'=>∃k:Nat,k≤18∧i=.int .i64 k∧HasL w' w.heap.size f∧HasL w' (w.heap.size+1) (fun _=>0)∧HasL w' (w.heap.size+1+1) (toF (fun i=>zdm f (f i) 18) k)∧Below w.heap.size w w') (fun i _=>18-(intOf i).toNat)
 case atStart=>exact ⟨0,Nat.zero_le _,rfl,M0.out,M1.out,M2.out,MB.out⟩
 case round=>
  clear M0 M1 M2 MB;obtain ⟨k,hk,rfl,h2,h0,h1,hB⟩:=hrel;have H0:=hide h0;have H1:=hide h1;have H2:=hide h2;have HB:=hide hB;clear h0 h1 h2 hB
  by_cases hlt:k<18
  ·have hi:=fun w=>zjw f k hlt w
   have hF:=HF.out k hlt
   go_wp2_with (first
    |(refine wpList_load_row rfl 310 (.tmp 1) rfl w.heap.size rfl _ _ _ _ H2.out Tryz.underlying310 rfl (zcS _) ?_)
    |(go_at_call 256;refine (zkG f HF.out (f k) hF _).mono ?_;rintro e w4 ⟨rfl,b4⟩
      have c:=(H1.out.next b4).at k hlt
      have fr:=(H1.out.next b4).frozen k))
   exact ⟨⟨k+1,by omega,by go_num,(H2.out.next b4).other _ _ (by simp;omega),(H0.out.next b4).other _ _ (by simp),((H1.out.next b4).set k _).ext (zty (fun i=>zdm f (f i) 18) k),(zaz HB.out b4).setCell (p:=⟨w.heap.size+1+1,k,none⟩) (by simp;omega) _⟩,by simp [intOf];omega⟩
  ·obtain rfl:k=18:=by omega
   go_wp2_with (first
    |(refine wpList_load_row rfl 310 (.tmp 3) rfl (w.heap.size+1+1) rfl _ _ _ _ H1.out Tryz.underlying310 rfl (zcS _) ?_)
    |(refine wpList_store_row rfl 310 (.tmp 2) (.tmp 17) rfl (w.heap.size +1) _ rfl rfl 310 _ H0.out (zcS _) (by rw [zbB,zbB]) (zgs _) ?_)
    |(refine bodyPost_ret (results_cell_row rfl _ _ (w.heap.size +1) 310 _ (0,0) _ rfl (setRow_heap _ _ _ _ _ _ H0.out) Tryz.underlying310 rfl (zcS _)) rfl ⟨by rw [zkE (ztz _)],below_setRow HB.out (by omega) _⟩))
end Go.Proofs.YtdiidjehdginnaaGreatDoor.N21
namespace Go.Proofs.YtdiidjehdginnaaGreatDoor.D24
set_option maxHeartbeats 4000000
set_option maxRecDepth 20000
open W13
open Go.RowKit
set_option linter.unusedVariables false
def t0C:Nat→Value:=fun j=>if j=2 then .bool false else .int .i64 0
def p0C:Nat→Value:=fun j=>if j<3 then .bool false else .int .i64 0
def a0C:Nat→Value:=fun j=>if j%2=0 then .int .i64 0 else .bool false
def LN (P:Int) (sl:Value) (g c:Nat) (fl ps:Nat→Int):List (Nat×(Nat→Value)):=
 [(1,fun _=>Value.int .i64 P),(1,fun _=>Value.int .i64 0),(1,fun _=>sl),(1,fun _=>.slice (some ⟨g,0,none⟩) 8192 8192),(8,iv fl),(21,iv fun _=>0),(1,fun _=>.pointer (some ⟨c,0,none⟩)),(256,iv fun _=>0),(1,fun _=>Value.int .i64 0),(1,fun _=>.bool false),(1,fun _=>.bool false),(514,iv fun _=>0),(244,iv ps),(4,t0C),(1,fun _=>Value.int .i64 0),(1,fun _=>Value.int .i64 0),(4,p0C),(10,a0C),(1,fun _=>Value.int .i64 255)]
end Go.Proofs.YtdiidjehdginnaaGreatDoor.D24
namespace Go.Proofs.YtdiidjehdginnaaGreatDoor.L24
set_option maxHeartbeats 4000000
set_option maxRecDepth 20000
open B4 C3 D24 G6 I11 J23 M5 P22 R15 T10 V12 W13
open Go.RowKit
set_option linter.unusedVariables false
def padZ (K:Nat→Int) (k:Nat):Nat→Int:=fun j=>if j/2<k then (if j%2=0 then K (j/2) else b2i (j/2==2)) else 0
def Z0 (K:Nat→Int) (k:Nat):Nat→Nat→Int:=fun i=>if i=9 then fl0 else if i=11 then zcO else if i=15 then padZ K k else if i=16 then oneV 255 else if i=19 then (fun j=>if j=2 then 1 else 0) else if i=13 then twoV 0 0 else if i=17 then oneV 0 else fun _=>0
theorem zxn (K:Nat→Int):padZ K 0=fun _=>0:=funext fun j=>by
 unfold padZ;rw [if_neg (by omega)]
theorem tvZ_0:tvZ (fun _=>0)=t0C:=funext fun j=>by
 unfold tvZ tv t0C;rcases j with _|_|_|j<;>rfl
theorem pvZ_0:pvZ (fun _=>0)=p0C:=funext fun j=>by
 unfold pvZ pv p0C;rcases j with _|_|_|j
 ·rfl
 ·rfl
 ·rfl
 ·rw [if_neg (by omega),if_neg (by omega),if_neg (by omega),if_neg (by omega)]
theorem pcZ_0:pcZ (fun _=>0)=a0C:=funext fun j=>by
 unfold pcZ J23.pc a0C;rfl
theorem sv_0:sv 0 0=iv fun _=>0:=funext fun j=>by
 unfold sv iv;split<;>rfl
theorem xp_0 (K:Nat→Int) (v c:Nat):XP v c (Z0 K 0)=LB v c:=by
 show [(21,iv fun _=>0),(1,fun _=>Value.pointer (some ⟨v,0,none⟩)),(256,iv fun _=>0),(1,fun _=>.int .i64 0),(1,fun _=>.bool false),(1,fun _=>.bool false),(1,fun _=>.pointer (some ⟨c,0,none⟩)),(1,fun _=>.int .i64 0),(8192,bv fun _=>0),(8,iv fl0),(514,iv fun _=>0),(244,iv zcO),(4,tvZ fun _=>0),(2,sv 0 0),(4,pvZ fun _=>0),(10,pcZ (padZ K 0)),(1,fun _=>.int .i64 255),(1,fun _=>.int .i64 0)]=_;rw [zxn,tvZ_0,pvZ_0,pcZ_0,sv_0];rfl
theorem gz_0 (K:Nat→Int) (k:Nat):∀i,GZ i (Z0 K k i)
 |0=>(show (0≤(0:Int)∧(0:Int)<32)∧∀i,i<20→0≤(0:Int)∧(0:Int)<65536 from ⟨by decide,fun _ _=>by decide⟩)
 |1=>trivial
 |2=>trivial
 |3=>(show 0≤(0:Int)∧(0:Int)<128 by decide)
 |4=>trivial
 |5=>trivial
 |6=>trivial
 |7=>trivial
 |8=>(show ∀j:Nat,0≤(0:Int)∧(0:Int)<256 from fun _=>by decide)
 |9=>trivial
 |10=>(show (0≤(0:Int)∧(0:Int)<512)∧∀j:Nat,0≤(0:Int)∧(0:Int)<512 from ⟨by decide,fun _=>by decide⟩)
 |11=>zuL
 |12=>(show okT 0 0 (isB 0) 0=true by decide)
 |13=>(show ((0≤(0:Int)∧(0:Int)<8)∧0≤(0:Int)∧(0:Int)<8)∧twoV 0 0=twoV 0 0 from ⟨by decide,rfl⟩)
 |14=>trivial
 |15=>trivial
 |16=>(show 0≤(255:Int)∧(255:Int)<256 by decide)
 |17=>(show (0≤(0:Int)∧(0:Int)≤8388608)∧oneV 0=oneV 0 from ⟨by decide,rfl⟩)
 |18=>(show ∀j:Nat,0≤(0:Int)∧(0:Int)<65536 from fun _=>by decide)
 |19=>(show (0≤(0:Int)∧(0:Int)<65536)∧(0≤(0:Int)∧(0:Int)<65536)∧(1≤(1:Int)∧(1:Int)<65536)∧(0≤(0:Int)∧(0:Int)<256)∧(0≤(0:Int)∧(0:Int)<65536) by decide)
 |20=>(show (∀k:Nat,k<5→0≤(0:Int)∧(0:Int)<256)∧0≤(0:Int)∧(0:Int)<65536 from ⟨fun _ _=>by decide,by decide⟩)
 |n+21=>trivial
end Go.Proofs.YtdiidjehdginnaaGreatDoor.L24
namespace Go.Proofs.YtdiidjehdginnaaGreatDoor.L25
set_option maxHeartbeats 4000000
set_option maxRecDepth 20000
open A2 B4 C3 D24 G6 I11 J23 K9 L24 M5 N8 O7 P22 R15 T10 V12 W13
open Go.RowKit
set_option linter.unusedVariables false
variable {bs:List Int} {b:Nat} {Y Z:Nat→Nat→Int} {w:World}
def zK:Nat→Nat→Int:=Z0 (fun _=>0) 0
def r4:Nat→Int:=fun j=>if j=4 then 4 else 0
def zS (Z:Nat→Nat→Int):Nat→Nat→Int:=upZ (upZ (upZ (upZ Z 20 r4) 21 (oneV 0)) 22 (oneV 0)) 23 (oneV 0)
theorem zxo (Z:Nat→Nat→Int) (k:Nat) (hk:k<20):zS Z k=Z k:=by
 unfold zS;rw [zaC _ _ _ _ (by omega),zaC _ _ _ _ (by omega),zaC _ _ _ _ (by omega),zaC _ _ _ _ (by omega)]
theorem zlP {M R:Nat→Int} {f l c:Int} (k:Nat) (hk:k<20):cz Y M R f l c k=upZ Y 8 M k:=by
 unfold cz;rw [zaC _ _ _ _ (by omega),zaC _ _ _ _ (by omega),zaC _ _ _ _ (by omega),zaC _ _ _ _ (by omega)]
theorem zS_cz (Y:Nat→Nat→Int) (M R:Nat→Int) (f l c:Int):zS (cz Y M R f l c)=cz Y M r4 0 0 0:=funext fun k=>by
 by_cases h:k<20
 ·rw [zxo _ k h,zlP k h,zlP k h]
 ·unfold zS cz upZ
  by_cases h0:k=20<;>by_cases h1:k=21<;>by_cases h2:k=22<;>by_cases h3:k=23<;>by_cases h8:k=8<;>simp [h0,h1,h2,h3,h8]<;>omega
theorem zmN:∀k,GZ k (zK k):=gz_0 _ _
theorem zwo (b:Nat) (w:World):(Instr.build 110 #[(1,.pointer (some ⟨b,0,none⟩))]).run Tryz.prog w=.ok (.agg #[.int .i64 0,.int .i64 0,.int .i64 0,.int .i64 0,.int .i64 0,.int .i64 0,.bool false,.int .i64 0,.pointer (some ⟨b,0,none⟩),.int .i64 0,.string ⟨#[]⟩,.int .i64 0,.int .i64 0,.int .i64 0,.int .i64 0,.int .i64 0,.int .i64 0,.int .i64 0,.int .i64 0,.int .i64 0,.int .i64 0,.int .i64 0,.int .i64 0,.int .i64 0,.bool false]) w:=run_build w _ _ _ (by kernel_rfl)
theorem zzz (w:World):(zeroValue 110).run Tryz.prog w=.ok (.agg #[.int .i64 0,.int .i64 0,.int .i64 0,.int .i64 0,.int .i64 0,.int .i64 0,.bool false,.int .i64 0,.pointer none,.int .i64 0,.string ⟨#[]⟩,.int .i64 0,.int .i64 0,.int .i64 0,.int .i64 0,.int .i64 0,.int .i64 0,.int .i64 0,.int .i64 0,.int .i64 0,.int .i64 0,.int .i64 0,.int .i64 0,.int .i64 0,.bool false]) w:=by kernel_rfl
theorem ztA (w:World):Calls Tryz.prog 34 #[.agg #[.int .i64 0,.int .i64 248,.int .i64 0,.int .i64 0,.int .i64 0,.int .i64 0,.int .i64 0,.int .i64 0],.int .i64 128,.int .i64 0] w fun e w'=>e=Ending.returned (.agg (rowF (iv fl0) 8))∧Below w.heap.size w w':=
 (M5.tam_any fl0 128 0 w).mono fun e w' ⟨e1,b1⟩=>⟨e1.trans (by kernel_rfl),b1⟩
theorem zhk {v c d:Nat} (h:HasP w b v c d bs Z) (k:Nat) {n:Nat} {f:Nat→Value} (hk:(XP v c Z)[k]? = some (n,f)) {a:Nat} (ha:(blens.take k).sum=a):∀j,j<n→segs (XP v c Z) (a+j)=f j:=fun j hj=>by
 have q:=zci (XP v c Z) k n f j hk hj;rw [h.isB.off k ha] at q;exact q
theorem zCu (b:Nat) (Y:Nat→Nat→Int) (M:Nat→Int):#[.int .i64 0,.int .i64 0,.int .i64 0,.int .i64 0,.int .i64 4,.int .i64 0,.bool false,.int .i64 0,.pointer (some ⟨b,0,none⟩),.int .i64 0,.string ⟨#[]⟩,.int .i64 0,.int .i64 0,.int .i64 0,.int .i64 0,.int .i64 0,.int .i64 0,.int .i64 0,.int .i64 0,.int .i64 0,.int .i64 0,.int .i64 0,.int .i64 0,.int .i64 0,.bool false]=rowF (segs (SP b ⟨#[]⟩ (fun _=>0) (fun _=>0) false (cz Y M r4 0 0 0))) 25:=by
 unfold SP;rfl
theorem zCv (h20:Z 20=r4) (h21:Z 21=oneV 0) (h22:Z 22=oneV 0) (h23:Z 23 0=0):rowF (segs (SP b ⟨#[]⟩ (fun _=>0) (fun _=>0) false Z)) 25=#[.int .i64 0,.int .i64 0,.int .i64 0,.int .i64 0,.int .i64 4,.int .i64 0,.bool false,.int .i64 0,.pointer (some ⟨b,0,none⟩),.int .i64 0,.string ⟨#[]⟩,.int .i64 0,.int .i64 0,.int .i64 0,.int .i64 0,.int .i64 0,.int .i64 0,.int .i64 0,.int .i64 0,.int .i64 0,.int .i64 0,.int .i64 0,.int .i64 0,.int .i64 0,.bool false]:=by
 unfold SP;rw [h20,h21,h22,h23];rfl
theorem zCw (hY:RomY bs Y) (M:Nat→Int):pS (cz Y M r4 0 0 0) 65534 (wOf 65534 1)=cz Y M r4 0 0 0:=by
 unfold pS;rw [znS hY (a:=65534) (k:=8190) rfl (by decide) (by decide),znS hY (a:=wOf 65534 1) (k:=8191) rfl (by decide) (by decide)]
theorem zCx (hY:RomY bs Y) (M:Nat→Int):pV bs (cz Y M r4 0 0 0) 65534 (wOf 65534 1)=jn (KB bs 8190) (KB bs 8191):=by
 unfold pV;rw [zsZ hY (a:=65534) (k:=8190) rfl (by decide),znS hY (a:=65534) (k:=8190) rfl (by decide) (by decide),zsZ hY (a:=wOf 65534 1) (k:=8191) rfl (by decide)]
theorem zoa {v c d:Nat} {M:Nat→Int} (h0:HasC w b v c d bs Y M) (hY:RomY bs Y) (h9:Y 9=fl0) {pc:Int} (hpc:jn (KB bs 8190) (KB bs 8191)=pc):
  Calls Tryz.prog 16 #[.pointer (some ⟨b,0,none⟩)] w fun e w'=>e=Ending.returned (.agg #[.int .i64 0,.int .i64 0,.int .i64 0,.int .i64 0,.int .i64 4,.int .i64 pc,.bool false,.int .i64 0])∧HasC w' b v c d bs Y M∧OnlyE (EX b v) w w':=by
 obtain ⟨R0,f0,l0,c0,h⟩:=h0;have HY:=hide hY;have H9:=hide h9;have HPC:=hide hpc;clear hY h9 hpc;have HA:=hide (h.next ((Below.refl w.heap.size w).alloc (Nat.le_refl _) (.cells #[.int .i64 0,.int .i64 0,.int .i64 0,.int .i64 0,.int .i64 0,.int .i64 0,.bool false,.int .i64 0] 64)));have BA:=hide ((Below.refl w.heap.size w).alloc (Nat.le_refl _) (.cells #[.int .i64 0,.int .i64 0,.int .i64 0,.int .i64 0,.int .i64 0,.int .i64 0,.bool false,.int .i64 0] 64));have G0:Hid ((w.alloc (.cells #[.int .i64 0,.int .i64 0,.int .i64 0,.int .i64 0,.int .i64 0,.int .i64 0,.bool false,.int .i64 0] 64)).heap[w.heap.size]? = some (.cells #[.int .i64 0,.int .i64 0,.int .i64 0,.int .i64 0,.int .i64 0,.int .i64 0,.bool false,.int .i64 0] 64 (0,0))):=hide (heap_alloc_new _ _);have LT:=hide h.lts;have HS:=hide h.size;have KT:=hide ztA;clear h;go_enter Tryz.func16,Tryz.ntmps16;go_wp2_with fail;obtain ⟨g0,hg0⟩:∃g,w.heap.size=g:=⟨_,rfl⟩
 have NE:Hid (¬EX b v g0∧w.heap.size≤g0∧(g0≠b∧g0≠v∧g0≠c∧g0≠d∧10≤g0)):=hide (by
  have:=LT.out;have:=HS.out
  exact ⟨fun e=>by rcases e with e|e<;>omega,by omega,by omega⟩)
 rw [hg0] at G0 ⊢;refine (missing_is HA.out.1 HA.out.2.2.1).mono ?_;rintro e w1 ⟨rfl,p1,o1⟩;have H1:=hide (HA.out.bus p1 o1 HA.out.2.2.1);have F1:=hide (o1.obj G0.out NE.out.1);have O1:Hid (OnlyE (EX b v) w w1):=hide ((zay BA.out).trans o1);clear p1 o1 HA G0 BA;go_wp2_with fail;refine (M5.fresh_any _).mono ?_;rintro e w2 ⟨rfl,b2⟩;have H2:=hide (H1.out.next b2);have F2:=hide (zbY F1.out b2);have O2:=hide (O1.out.trans (zay b2));clear b2 H1 F1 O1;go_wp2_with fail;refine (KT.out _).mono ?_;rintro e w3 ⟨rfl,b3⟩;have H3:=hide (H2.out.next b3);have F3:=hide (zbY F2.out b3);have O3:=hide (O2.out.trans (zay b3));clear b3 H2 F2 O2
 go_upto_region 4 with (first
  |(refine zau rfl 40 (.tmp 11) (.tmp 9) rfl b 8475 8 (iv fl0) rfl rfl H3.out.1.1 (by decide) (by kernel_rfl) (fun _ _=>rfl) ?_))
 refine under_name fun w4 hw4=>?_
 have b4:But b w3 w4:=by rw [hw4];exact But.cells _ _ _ (But.refl b w3)
 have H4:=hide (show HasM w4 b v c d bs (cz Y M R0 f0 l0 c0) by
  have q:HasF 60 w4 b 9263 (segs (XP v c (cz Y M R0 f0 l0 c0))):=by
   rw [hw4];refine (H3.out.1.1.cells 8475 8 (iv fl0)).ext fun j hj=>?_
   by_cases e:8475≤j∧j<8475+8
   ·rw [if_pos e];have g:=zhk H3.out.1 9 rfl (a:=8475) rfl (j-8475) (by omega);rw [show 8475+(j-8475)=j by omega,cz_9,H9.out] at g;exact g.symm
   ·rw [if_neg e]
  have q2:HasP w4 b v c d bs (cz Y M R0 f0 l0 c0):=HasX.row H3.out.1 b4 q H3.out.1.isB rfl rfl
  exact H3.out.bus q2 (zbr b4) H3.out.2.2.1)
 have F4:=hide (b4.obj F3.out NE.out.2.2.1);have O4:=hide (O3.out.trans (zbr b4));clear hw4 b4 H3 F3 O3
 go_upto_region 5 with (first
  |(refine wpList_built rfl 110 _ rfl #[(1,.pointer (some ⟨b,0,none⟩))] (by simp [Act.eval]) _ (zwo _) ?_)
  |(refine zav rfl 110 rfl #[.int .i64 0,.int .i64 0,.int .i64 0,.int .i64 0,.int .i64 0,.int .i64 0,.bool false,.int .i64 0,.pointer none,.int .i64 0,.string ⟨#[]⟩,.int .i64 0,.int .i64 0,.int .i64 0,.int .i64 0,.int .i64 0,.int .i64 0,.int .i64 0,.int .i64 0,.int .i64 0,.int .i64 0,.int .i64 0,.int .i64 0,.int .i64 0,.bool false] zzz ?_)
  |(refine wpList_store_row rfl 110 (.tmp 3) (.tmp 13) rfl w4.heap.size _ rfl rfl 110 _ (heap_alloc_new _ _) (by kernel_rfl) rfl (by kernel_rfl) ?_))
 refine under_name fun w5 hw5=>?_
 have G5:Hid (w5.heap[w4.heap.size]? = some (.cells #[.int .i64 0,.int .i64 0,.int .i64 0,.int .i64 0,.int .i64 0,.int .i64 0,.bool false,.int .i64 0,.pointer (some ⟨b,0,none⟩),.int .i64 0,.string ⟨#[]⟩,.int .i64 0,.int .i64 0,.int .i64 0,.int .i64 0,.int .i64 0,.int .i64 0,.int .i64 0,.int .i64 0,.int .i64 0,.int .i64 0,.int .i64 0,.int .i64 0,.int .i64 0,.bool false] 110 (0,0))):=hide (by rw [hw5];exact setRow_heap _ _ _ _ _ _ (heap_alloc_new _ _));have B5:Hid (Below w4.heap.size w4 w5):=hide (by rw [hw5];exact below_setRow ((Below.refl _ w4).alloc (Nat.le_refl _) _) (Nat.le_refl _) _);obtain ⟨s,hs0⟩:∃s,w4.heap.size=s:=⟨_,rfl⟩
 have SL:Hid (w.heap.size≤s∧s≠g0∧(s≠b∧s≠v∧s≠c∧s≠d∧10≤s)):=hide (by
  have l0:=lt_of_block F4.out;have lt4:=H4.out.lts;have sz:=H4.out.size
  exact ⟨by rw [←hs0];exact O4.out.size,by omega,by omega⟩)
 have H5:=hide (H4.out.next B5.out);have F5:=hide (zbY F4.out B5.out);have O5:=hide (O4.out.trans (zay B5.out));rw [hs0] at G5 ⊢;clear hw5 hs0 B5 H4 F4 O4;have s4:w5.cell? ⟨s,4,none⟩=some (.int .i64 0):=(cell_of_row _ s 4 _ _ _ G5.out).trans rfl;have f4:=frozen_of_row w5 s 4 _ _ G5.out;go_upto_region 6 with fail;refine under_name fun w6 hw6=>?_
 have k6:OnlyE (fun i=>i=s) w5 w6:=by rw [hw6];exact ⟨rfl,rfl,rfl,by simp [World.setCell],fun i hi hE=>heap_setCell_other w5 _ i _ hE⟩
 have Q6:Hid (HasQ w6 s b v c d bs ⟨#[]⟩ (fun _=>0) (fun _=>0) false (cz Y M r4 0 0 0)):=hide (by
  have m5:=H5.out.but k6 SL.out.2.2;have g6:w6.heap[s]? = some (.cells #[.int .i64 0,.int .i64 0,.int .i64 0,.int .i64 0,.int .i64 4,.int .i64 0,.bool false,.int .i64 0,.pointer (some ⟨b,0,none⟩),.int .i64 0,.string ⟨#[]⟩,.int .i64 0,.int .i64 0,.int .i64 0,.int .i64 0,.int .i64 0,.int .i64 0,.int .i64 0,.int .i64 0,.int .i64 0,.int .i64 0,.int .i64 0,.int .i64 0,.int .i64 0,.bool false] 110 (0,0)):=by rw [hw6];exact heap_setCell_same w5 s 4 _ _ _ G5.out
  obtain ⟨n1,n2,n3,n4,n5⟩:=SL.out.2.2;refine ⟨?_,zgk m5.1 (fun k hk=>by rw [zlP k hk,zlP k hk]),m5.2.1,zS_cz Y M R0 f0 l0 c0▸zaJ (zaJ (zaJ (zaJ m5.2.2.1 20 _ ?_) 21 _ trivial) 22 _ trivial) 23 _ trivial,⟨n1,n2,n3,n4,n5,m5.2.2.2.1.1,m5.2.2.2.1.2⟩,m5.2.2.2.2⟩
  ·unfold HasF;rw [←zCu];exact g6
  ·have q:=zip r4
   rwa [show cutR r4=r4 from funext fun j=>by unfold cutR r4;by_cases e5:j=5<;>by_cases e4:j=4<;>simp [e5,e4]] at q)
 have F6:=hide (k6.obj F5.out (fun e=>SL.out.2.1 e.symm));have O6:=hide (zjs O5.out k6 SL.out.1);clear hw6 k6 H5 F5 O5 G5 s4 f4;go_wp2_with fail;refine (zmw Q6.out 65534).mono ?_;rintro e w7 ⟨rfl,q7,o7⟩;have Q7:=q7;rw [zCw HY.out] at Q7;have H7:=hide Q7.mach;have F7:=hide (o7.obj F6.out (fun e=>by rcases e with e|e|e;exact SL.out.2.1 e.symm;exact NE.out.1 (.inl e);exact NE.out.1 (.inr e)));have O7:=hide (zmD O6.out o7 SL.out.1);have G7:=Q7.1;unfold HasF at G7;rw [zCv (Z:=cz Y M r4 0 0 0) rfl rfl rfl rfl] at G7;replace G7:=hide G7;rw [zCx HY.out,HPC.out];clear q7 o7 Q7 F6 O6 Q6;have s5:w7.cell? ⟨s,5,none⟩=some (.int .i64 0):=(cell_of_row _ s 5 _ _ _ G7.out).trans rfl;have f5:=frozen_of_row w7 s 5 _ _ G7.out;go_upto_region 7 with fail;refine under_name fun w8 hw8=>?_
 have G8:=hide (show w8.heap[s]? = some (.cells ((#[.int .i64 0,.int .i64 0,.int .i64 0,.int .i64 0,.int .i64 4,.int .i64 0,.bool false,.int .i64 0,.pointer (some ⟨b,0,none⟩),.int .i64 0,.string ⟨#[]⟩,.int .i64 0,.int .i64 0,.int .i64 0,.int .i64 0,.int .i64 0,.int .i64 0,.int .i64 0,.int .i64 0,.int .i64 0,.int .i64 0,.int .i64 0,.int .i64 0,.int .i64 0,.bool false]:Array Value).setIfInBounds 5 (.int .i64 pc)) 110 (0,0)) by rw [hw8];exact heap_setCell_same w7 s 5 _ _ _ G7.out);have k8:OnlyE (fun i=>i=s) w7 w8:=by rw [hw8];exact ⟨rfl,rfl,rfl,by simp [World.setCell],fun i hi hE=>heap_setCell_other w7 _ i _ hE⟩
 have H8:=hide (H7.out.but k8 SL.out.2.2);have F8:=hide (k8.obj F7.out (fun e=>SL.out.2.1 e.symm));have O8:=hide (zjs O7.out k8 SL.out.1);clear hw8 k8 H7 F7 O7 G7 s5 f5
 have R8:=hide (show w8.rangeAt s 0 (#[.int .i64 0,.int .i64 0,.int .i64 0,.int .i64 0,.int .i64 4,.int .i64 pc,.bool false,.int .i64 0]:Array Value).toList from fun j u hu=>by
  rw [cell_of_row w8 s (0+j) _ _ _ G8.out]
  rcases j with _|_|_|_|_|_|_|_|j<;>first|exact hu|exact absurd hu (by simp))
 go_wp2_with (first
  |(refine wpList_load_mid rfl 64 (.tmp 21) rfl s 0 rfl _ _ R8.out Tryz.underlying64 rfl (by kernel_rfl) ?_)
  |(refine wpList_store_row rfl 64 (.tmp 2) (.tmp 22) rfl g0 _ rfl rfl 64 _ F8.out (by kernel_rfl) rfl (by kernel_rfl) ?_))
 have k9:OnlyE (fun i=>i=g0) w8 (w8.setRow g0 #[.int .i64 0,.int .i64 0,.int .i64 0,.int .i64 0,.int .i64 4,.int .i64 pc,.bool false,.int .i64 0]):=⟨rfl,rfl,rfl,by simp [World.setRow],fun i hi hE=>setRow_other w8 g0 i _ hE⟩
 refine bodyPost_ret (results_cell_row rfl _ _ g0 64 _ (0,0) _ rfl (setRow_heap _ _ _ _ _ _ F8.out) Tryz.underlying64 rfl (by kernel_rfl)) rfl ?_;exact ⟨rfl,⟨_,_,_,_,H8.out.but k9 NE.out.2.2⟩,zjs O8.out k9 NE.out.2.1⟩
end Go.Proofs.YtdiidjehdginnaaGreatDoor.L25
namespace Go.Proofs.YtdiidjehdginnaaGreatDoor
set_option maxHeartbeats 4000000
set_option maxRecDepth 20000
open Go.RowKit
set_option linter.unusedVariables false
def zhs (b:Int):Int:=inB 262 263 b
def zlQ (a:Int):Int:=min 512 (1365/inB 2 4 a)
def zxp (a c:Int):Int:=inB 8 (zlQ a) (zis c)
def zmO (b d:Int):Int:=inB 0 (zhs b) (zeI d)
def zkH (b d f:Int):Int:=inB 0 (zhs b) (zmO b d+zdA f)
def ztB (b d f:Int):Int:=min (zkH b d f) (zhs b-1)
theorem ziE (a b n r:Int) (hr:inB a b n=r) (x y:Nat) (w:World) (hx:w.cell? ⟨x,0,none⟩=some (.int .i64 a)) (hy:w.cell? ⟨y,0,none⟩=some (.int .i64 b)):
  Calls Tryz.prog 124 #[.int .i64 n,.pointer (some ⟨x,0,none⟩),.pointer (some ⟨y,0,none⟩)] w fun e w'=>e=.returned (.int .i64 r)∧w'=w:=by
 subst hr;exact zvZ a b n x y w hx hy
theorem ziF (a b:Int) (w:World):Calls Tryz.prog 82 #[.int .i64 a,.int .i64 b] w fun e w'=>
  e=.returned (.func (.func 124) #[] #[.pointer (some ⟨w.heap.size,0,none⟩),.pointer (some ⟨w.heap.size+1,0,none⟩)])∧Below w.heap.size w w'∧Box 3 w' w.heap.size a∧Box 3 w' (w.heap.size+1) b:=by
 refine (zfC a b w).mono ?_;rintro e w' ⟨he,hw⟩;obtain ⟨b0,b1,_,B⟩:=two_named hw;exact ⟨he,B,b0,b1⟩
theorem of_walk (a b c d f g:Int) (w:World) (p l q m u t v h o x k:Int) (ep:inB 2 4 a=p) (el:inB 262 263 b=l) (eq:Int.tdiv 1365 p=q) (em:q<512∧q=m∨512≤q∧512=m) (eu:zeI d=u) (et:inB 0 l u=t) (eh:zdA f=h) (ev:inB 0 l (t+h)=v) (eo:zis c=o) (ex:inB 8 m o=x)
  (ek:v<l∧v=k∨l≤v∧l-1=k) (p0:2≤p) (p1:p≤4) (q0:341≤q) (q1:q≤682) (l0:262≤l) (l1:l≤263) (t0:0≤t) (t1:t≤263) (h0:1≤h) (h1:h≤512) (v0:0≤v) (v1:v≤263):
  Calls Tryz.prog 53 #[.agg #[.int .i64 a,.int .i64 b,.int .i64 c,.int .i64 d,.int .i64 f,.int .i64 g]] w fun e w'=>
   e=.returned (.agg #[.int .i64 x,.int .i64 t,.int .i64 v,.int .i64 k,.int .i64 l])∧Below w.heap.size w w':=by
 have C1:=hide (ziE 2 4 a p ep);have C2:=hide (ziE 262 263 b l el);have C3:=hide (ziE 0 l u t et);have C4:=hide (ziE 0 l (t+h) v ev);have C5:=hide (ziE 8 m o x ex);have D1:=hide (fun w=>ztc d w);have D2:=hide (fun w=>zpR f w);have D3:=hide (fun w=>ztd c w);rw [eu] at D1;rw [eh] at D2;rw [eo] at D3;clear ep el eu et eh ev eo ex;have EK:=hide ek;clear ek;rcases em with ⟨m0,rfl⟩|⟨m0,rfl⟩
 all_goals
  go_enter Tryz.func53,Tryz.ntmps53;go_wp2_with fail;refine under_name fun wa hwa=>?_
  obtain ⟨b0,b1,hs,B⟩:=two_named hwa;have B0:=hide B;clear hwa B;generalize hzz:w.heap.size=z at b0 b1 hs B0 ⊢;have HZ:=hide hzz;clear hzz;have c0:wa.cell? ⟨z,0,none⟩=some (.int .i64 a):=(cell_of_row wa z 0 _ _ _ b0).trans rfl;have hz:z<wa.heap.size:=by omega
  go_region_held3 (fun w'=>w'.cell? ⟨z,0,none⟩=some (.int .i64 a)) (simp [c0,hz,Nat.lt_succ_of_lt hz,World.cell?_alloc_lt])
   (first
    |(go_at_call 82;refine (zfC _ _ _).mono ?_;rintro e w' ⟨rfl,rfl⟩)
    |(go_at_call 124;refine (C1.out _ _ _ (by simp) (by simp)).mono ?_;rintro e w' ⟨rfl,rfl⟩))
  go_wp2_with fail;refine under_name fun wb hwb=>?_
  have n1:Below wa.heap.size wa wb:=by rw [hwb];exact (((Below.refl _ wa).alloc (Nat.le_refl _) _).alloc (by simp) _).drew
  have b2:=(n1.block z hz).trans b0;have r2:=(n1.block (z+1) hs).trans b1;have B1:=hide (B0.out.trans (n1.mono (Nat.le_trans (Nat.le_of_lt hz) (Nat.le_refl _))));have hy:z+1<wb.heap.size:=Nat.lt_of_lt_of_le hs n1.size;clear hwb n1 b0 b1 c0 hz hs B0;have c1:wb.cell? ⟨z,1,none⟩=some (.int .i64 b):=(cell_of_row wb z 1 _ _ _ b2).trans rfl;have hz:z<wb.heap.size:=by omega
  go_region_held3 (fun w'=>w'.cell? ⟨z,1,none⟩=some (.int .i64 b)) (simp [c1,hz,Nat.lt_succ_of_lt hz,World.cell?_alloc_lt])
   (first
    |(go_at_call 82;refine (zfC _ _ _).mono ?_;rintro e w' ⟨rfl,rfl⟩)
    |(go_at_call 124;refine (C2.out _ _ _ (by simp) (by simp)).mono ?_;rintro e w' ⟨rfl,rfl⟩))
  refine zjb fun wc hwc=>?_
  have n2:Below wb.heap.size wb wc:=by rw [hwc];exact (((Below.refl _ wb).alloc (Nat.le_refl _) _).alloc (by simp) _).drew
  have b3:=(n2.block z hz).trans b2;have r3:=hide ((n2.block (z+1) hy).trans r2);have B2:=hide (B1.out.trans (n2.mono (Nat.le_trans (Nat.le_of_lt hz) (Nat.le_refl _))));have hx:z+1<wc.heap.size:=Nat.lt_of_lt_of_le hy n2.size;clear hwc n2 b2 r2 c1 hz hy B1;have hb3:=hide b3;clear b3;go_wp2_with fail;refine (ziF _ _ _).mono ?_;rintro e w3 ⟨rfl,n3,x3,y3⟩;have s3:=n3.size;generalize wc.heap.size=i1 at *;go_wp2_with fail;refine (ziF _ _ _).mono ?_;rintro e w4 ⟨rfl,n4,x4,y4⟩;have hx4:z+1<w3.heap.size:=Nat.lt_of_lt_of_le hx s3;have Z4:=(n4.block z (by omega)).trans ((n3.block z (by omega)).trans hb3.out);have R4:=hide ((n4.block (z+1) hx4).trans ((n3.block (z+1) hx).trans r3.out));have X4:=(x3.below n4 x3.lt).cell;have Y4:=(y3.below n4 y3.lt).cell;have B4:=hide ((B2.out.trans (n3.mono (by omega))).trans (n4.mono (by omega)));replace x4:=x4.cell;replace y4:=y4.cell;clear n3 n4 x3 y3 hb3 r3 B2 hx hx4 s3;have c2:w4.cell? ⟨z,2,none⟩=some (.int .i64 c):=(cell_of_row w4 z 2 _ _ _ Z4).trans rfl;have c3:w4.cell? ⟨z,3,none⟩=some (.int .i64 d):=(cell_of_row w4 z 3 _ _ _ Z4).trans rfl;have c4:w4.cell? ⟨z,4,none⟩=some (.int .i64 f):=(cell_of_row w4 z 4 _ _ _ Z4).trans rfl;clear Z4;generalize w3.heap.size=i2 at *;go_wp2_with fail;refine (D1.out _).mono ?_;rintro e w' ⟨rfl,rfl⟩;go_wp2_with fail;refine (C3.out _ _ _ x4 y4).mono ?_;rintro e w' ⟨rfl,rfl⟩;go_wp2_with fail;refine (D2.out _).mono ?_;rintro e w' ⟨rfl,rfl⟩;go_wp2_with fail;refine (C4.out _ _ _ x4 y4).mono ?_;rintro e w' ⟨rfl,rfl⟩;go_wp2_with fail;refine (D3.out _).mono ?_;rintro e w' ⟨rfl,rfl⟩;go_wp2_with fail;refine (C5.out _ _ _ X4 Y4).mono ?_;rintro e w' ⟨rfl,rfl⟩;obtain ek:=EK.out;clear EK;rcases ek with ⟨k0,rfl⟩|⟨k0,rfl⟩
  all_goals
   go_wp2_with (first|(refine wpList_store_row rfl 67 (.tmp 2) (.tmp 47) rfl (z+1) _ rfl rfl 67 _ R4.out (by kernel_rfl) rfl (by kernel_rfl) ?_));refine bodyPost_ret (results_cell_row rfl _ _ (z+1) 67 _ (0,0) _ rfl (setRow_heap _ _ _ _ _ _ R4.out) Tryz.underlying67 rfl (by kernel_rfl)) rfl ?_;exact ⟨rfl,by rw [HZ.out];exact below_setRow B4.out (Nat.le_succ _) _⟩
theorem zzA (a:Int):341≤1365/inB 2 4 a∧1365/inB 2 4 a≤682∧(1365/inB 2 4 a)*inB 2 4 a≤1365:=by
 have h:=ztb 2 4 a (by decide);have:inB 2 4 a=2∨inB 2 4 a=3∨inB 2 4 a=4:=by omega
 rcases this with h|h|h<;>rw [h]<;>decide
theorem ztC (b:Int):262≤zhs b∧zhs b≤263:=ztb 262 263 b (by decide)
theorem zxq (b d:Int):3≤zmO b d∧zmO b d≤zhs b:=by
 have h:=ztC b;have k:=zpQ d;unfold zmO inB;omega
theorem zCy (b d f:Int):zmO b d≤zkH b d f∧zkH b d f≤zhs b:=by
 have h:=ztC b;have k:=zxq b d;have i:=zit f;unfold zkH inB;omega
theorem of_any (a b c d f g:Int) (w:World):Calls Tryz.prog 53 #[.agg #[.int .i64 a,.int .i64 b,.int .i64 c,.int .i64 d,.int .i64 f,.int .i64 g]] w fun e w'=>
   e=.returned (.agg #[.int .i64 (zxp a c),.int .i64 (zmO b d),.int .i64 (zkH b d f),.int .i64 (ztB b d f),.int .i64 (zhs b)])∧Below w.heap.size w w':=by
 have h1:=zzA a;have h2:=ztb 2 4 a (by decide);have h3:=ztC b;have h4:=zxq b d;have h5:=zCy b d f;have h6:=zit f;have em:1365/inB 2 4 a<512∧1365/inB 2 4 a=zlQ a∨512≤1365/inB 2 4 a∧512=zlQ a:=by unfold zlQ;omega
 have ek:zkH b d f<zhs b∧zkH b d f=ztB b d f∨zhs b≤zkH b d f∧zhs b-1=ztB b d f:=by unfold ztB;omega
 exact of_walk a b c d f g w (inB 2 4 a) (zhs b) (1365/inB 2 4 a) (zlQ a) (zeI d) (zmO b d) (zkH b d f) (zdA f) (zis c) (zxp a c) (ztB b d f) rfl rfl (Int.tdiv_eq_ediv_of_nonneg (by decide)) em rfl rfl rfl rfl rfl rfl ek
  h2.1 h2.2 h1.1 h1.2.1 h3.1 h3.2 (by omega) (by omega) h6.1 h6.2 (by omega) (by omega)
def zgX (t v n:Int):Int:=if t≤n∧n<v then n-t else -1
theorem ziG (x t v k l n:Int) (w:World) (t0:0≤t) (v1:v≤1000):Calls Tryz.prog 56 #[.agg #[.int .i64 x,.int .i64 t,.int .i64 v,.int .i64 k,.int .i64 l],.int .i64 n] w fun e w'=>e=.returned (.int .i64 (zgX t v n))∧Below w.heap.size w w':=by
 unfold zgX;split
 ·next h=>exact zte x t v k l n w h.1 h.2 t0 v1
 ·next h=>exact zwa x t v k l n w (by omega)
end Go.Proofs.YtdiidjehdginnaaGreatDoor
namespace Go.Proofs.YtdiidjehdginnaaGreatDoor.L25
set_option maxHeartbeats 4000000
set_option maxRecDepth 20000
open A2 B4 C3 D24 G6 I11 J23 K9 L24 M5 N8 O7 P22 R15 T10 V12 W13
open Go.RowKit
set_option linter.unusedVariables false
set_option linter.unusedSimpArgs false
variable {bs:List Int} {c d:Nat} {w:World}
theorem dot_0 (w:World):Calls Tryz.prog 54 #[.agg (rowF (iv fun _=>0) 514)] w fun e w'=>e=Ending.returned (.int .i64 4)∧Below w.heap.size w w':=by
 have k:=V12.dot_any 0 0 (fun _=>0) w;rw [←zdx,show vF 0 0 (fun _=>0)=fun _=>0 from funext fun j=>by unfold vF;split<;>first|rfl|(split<;>rfl)] at k;exact k
theorem zzB (w:World):Calls Tryz.prog 55 #[.agg (rowF (iv fun _=>0) 514)] w fun e w'=>e=Ending.returned (.int .i64 262)∧Below w.heap.size w w':=by
 have k:=V12.lines_any 0 0 (fun _=>0) w;rw [←zdx,show vF 0 0 (fun _=>0)=fun _=>0 from funext fun j=>by unfold vF;split<;>first|rfl|(split<;>rfl)] at k;exact k
theorem of_0 (w:World):Calls Tryz.prog 53 #[.agg #[.int .i64 4,.int .i64 262,.int .i64 0,.int .i64 0,.int .i64 0,.int .i64 0]] w fun e w'=>e=Ending.returned (.agg #[.int .i64 8,.int .i64 3,.int .i64 4,.int .i64 4,.int .i64 262])∧Below w.heap.size w w':=
 (of_any 4 262 0 0 0 0 w).mono fun e w' ⟨e1,b1⟩=>⟨e1.trans (by kernel_rfl),b1⟩
theorem zzC (w:World):(zeroValue 30).run Tryz.prog w=.ok (.agg (rowF (iv fun _=>0) 20)) w:=by kernel_rfl
theorem ziH {b v:Nat} (h:HasM w b v c d bs zK):Calls Tryz.prog 26 #[.pointer (some ⟨b,0,none⟩)] w fun e w'=>e=Ending.returned (.agg #[.int .i64 8,.int .i64 3,.int .i64 4,.int .i64 4,.int .i64 262])∧Below w.heap.size w w':=by
 have SR:=hide (show ∀j,j<20→segs (XP v c zK) (1+j)=iv (fun _=>0) j from fun j hj=>by
  have q:=zhk h.1 0 rfl (a:=0) rfl (j+1) (by omega);rw [show 0+(j+1)=1+j by omega] at q
  exact q)
 have SV:=hide (show ∀j,j<514→segs (XP v c zK) (8483+j)=iv (fun _=>0) j from fun j hj=>zhk h.1 10 rfl (a:=8483) rfl j hj);have H:=hide h;have KD:=hide dot_0;have KL:=hide zzB;have KO:=hide of_0;have LT:=hide h.lts;clear h;go_enter Tryz.func26,Tryz.ntmps26;have I20:=hide (show (Tryz.prog.info? 30).map (·.size)=some (rowF (iv fun _=>0) 20).size by rw [zai];kernel_rfl);have O20:=hide (zby (fun _=>0) 20);have Z20:=hide zzC;obtain ⟨ZR,hZR⟩:∃q,rowF (iv fun _=>0) 20=q:=⟨_,rfl⟩
 have HZR:=hide hZR;rw [hZR] at I20 O20 Z20;clear hZR
 go_upto_region 2 with (first
  |(refine zaw rfl 30 (.tmp 8) rfl b 1 rfl (H.out.next ((Below.refl _ w).alloc (Nat.le_refl _) _)).1.1 20 (by decide) (iv fun _=>0) SR.out _ Tryz.underlying30 rfl (by kernel_rfl) ?_;rw [HZR.out])
  |(refine zav rfl 30 rfl ZR Z20.out ?_)
  |(refine wpList_store_row rfl 30 (.tmp 3) (.tmp 9) rfl (w.alloc (.cells #[.int .i64 0,.int .i64 0,.int .i64 0,.int .i64 0,.int .i64 0] 67)).heap.size _ rfl rfl 30 _ (heap_alloc_new _ _) I20.out rfl O20.out ?_))
 refine under_name fun w2 hw2=>?_
 have e1:(w.alloc (.cells #[.int .i64 0,.int .i64 0,.int .i64 0,.int .i64 0,.int .i64 0] 67)).heap.size=w.heap.size+1:=by simp
 have q1:w2.heap[w.heap.size]? = some (.cells #[.int .i64 0,.int .i64 0,.int .i64 0,.int .i64 0,.int .i64 0] 67 (0,0)):=by
  rw [hw2,setRow_other _ _ _ _ (by simp),heap_alloc_old _ _ (by simp)];exact heap_alloc_new _ _
 have q2:w2.heap[w.heap.size+1]? = some (.cells ZR 30 (0,0)):=by
  rw [hw2];have k:=setRow_heap _ _ _ ZR _ _ (heap_alloc_new (w.alloc (.cells #[.int .i64 0,.int .i64 0,.int .i64 0,.int .i64 0,.int .i64 0] 67)) (.cells ZR 30));rw [e1] at k ⊢;exact k
 have bw:Below w.heap.size w w2:=by
  rw [hw2];exact below_setRow (((Below.refl _ w).alloc (Nat.le_refl _) _).alloc (by simp) _) (by simp) _
 have Q1:Hid (w2.heap[w.heap.size]? = some (.cells #[.int .i64 0,.int .i64 0,.int .i64 0,.int .i64 0,.int .i64 0] 67 (0,0))):=hide q1;have BW:=hide bw;have H2:=hide (H.out.next bw);have c11:=zah ((cell_of_row w2 _ 11 _ _ _ q2).trans (show _=some (Value.int .i64 0) by rw [←HZR.out];exact zbp _ 20 11 (by decide))) (lt_of_block q2);have c12:=zah ((cell_of_row w2 _ 12 _ _ _ q2).trans (show _=some (Value.int .i64 0) by rw [←HZR.out];exact zbp _ 20 12 (by decide))) (lt_of_block q2);have c13:=zah ((cell_of_row w2 _ 13 _ _ _ q2).trans (show _=some (Value.int .i64 0) by rw [←HZR.out];exact zbp _ 20 13 (by decide))) (lt_of_block q2);have c14:=zah ((cell_of_row w2 _ 14 _ _ _ q2).trans (show _=some (Value.int .i64 0) by rw [←HZR.out];exact zbp _ 20 14 (by decide))) (lt_of_block q2)
 have RV:Hid (∀u,(∃x:Kept w2,u=x.val)→u.rangeAt b 8483 (rowF (iv fun _=>0) 514).toList):=hide (fun u hu=>by
  obtain ⟨x,hx⟩:=hu;rw [hx,←zbh SV.out]
  exact (H2.out.next x.below).1.1.range 8483 514 (by decide))
 have IV:=hide (show (Tryz.prog.info? 43).map (·.size)=some (rowF (iv fun _=>0) 514).size by rw [zai];kernel_rfl);obtain ⟨VR,hVR⟩:∃q,rowF (iv fun _=>0) 514=q:=⟨_,rfl⟩
 rw [hVR] at RV KD KL IV;clear hVR hw2 q1 q2 bw SR SV H;simp only [Act.put,List.setIfInBounds_toArray,List.set_cons_succ,List.set_cons_zero,e1];clear e1;haveI:=zax w2;refine zaR _ _ (show _=[_,_,_,_,_,_,_,_,_,_,_,_,_,_,_,_,_,_,_,_]++[_] from rfl) (by kernel_rfl) (by kernel_rfl) (by kernel_rfl) ?_
 repeat (first
  |(refine wpQuiet_mid rfl 43 (.tmp 12) rfl b 8483 rfl VR _ RV.out Tryz.underlying43 rfl IV.out ?_;simp only [Act.put,List.setIfInBounds_toArray,List.set_cons_succ,List.set_cons_zero])
  |(refine wpQuiet_mid rfl 43 (.tmp 17) rfl b 8483 rfl VR _ RV.out Tryz.underlying43 rfl IV.out ?_;simp only [Act.put,List.setIfInBounds_toArray,List.set_cons_succ,List.set_cons_zero])
  |go_big_quiet_step ((first
   |(go_at_call 54;exact zaL (KD.out _))
   |(go_at_call 55;exact zaL (KL.out _))
   |(go_at_call 53;exact zaL (KO.out _)))))
 refine wpQuiet_nil ?_;rintro _ ⟨wk,rfl⟩;have R3:=hide ((wk.block w.heap.size (lt_of_block Q1.out)).trans Q1.out);have B3:=hide (zaz BW.out wk.below)
 go_wp2_with (first
  |(refine wpList_store_row rfl 67 (.tmp 2) (.tmp 29) rfl w.heap.size _ rfl rfl 67 _ R3.out (by kernel_rfl) rfl (by kernel_rfl) ?_))
 (try simp only [Exit.inBlock,Exit.then])
 refine bodyPost_ret (results_cell_row rfl _ _ w.heap.size 67 _ (0,0) _ rfl (setRow_heap _ _ _ _ _ _ R3.out) Tryz.underlying67 rfl (by kernel_rfl)) rfl ?_;exact ⟨rfl,below_setRow B3.out (Nat.le_refl _) _⟩
def rc (pc:Int):Nat→Int:=fun j=>if j=4 then 4 else if j=5 then pc else 0
theorem vz_K:VZ zK:=by
 refine ⟨by decide,fun j _=>⟨Int.le_refl _,show (0:Int)≤65535 by decide⟩,by decide,fun j hj=>?_,by decide,fun j hj=>?_,by decide,rfl,?_⟩
 ·show 0≤fl0 j∧fl0 j≤255;unfold fl0;split<;>decide
 ·show 0≤padZ (fun _=>0) 0 (2*j)∧padZ (fun _=>0) 0 (2*j)≤65535;rw [zxn];exact ⟨Int.le_refl _,show (0:Int)≤65535 by decide⟩
 ·kernel_rfl
theorem zCz (hl:bs.length=8192):RomY bs zK:=⟨hl,rfl,rfl,rfl,rfl⟩
theorem cz_K (R0:Nat→Int) (f0 l0 c0:Int) (k:Nat) (hk:k<20):cz zK (fun _=>0) R0 f0 l0 c0 k=zK k:=by
 rw [zlP k hk]
 by_cases e:k=8
 ·subst e;rw [zcB];rfl
 ·rw [zaC _ _ _ _ e]
theorem zCA {b v:Nat} (h:HasC w b v c d bs zK (fun _=>0)):HasM w b v c d bs zK:=by
 obtain ⟨R0,f0,l0,c0,m⟩:=h;exact ⟨zgk m.1 fun k hk=>(cz_K _ _ _ _ k hk).symm,m.2.1,zmN,m.2.2.2⟩
theorem zxr {b v:Nat} (h:HasM w b v c d bs zK):HasC w b v c d bs zK (fun _=>0):=by
 have e:zS zK=cz zK (fun _=>0) r4 0 0 0:=funext fun k=>by
  by_cases hk:k<20
  ·rw [zxo _ k hk,cz_K _ _ _ _ k hk]
  ·unfold zS cz upZ
   by_cases h0:k=20<;>by_cases h1:k=21<;>by_cases h2:k=22<;>by_cases h3:k=23<;>by_cases h8:k=8<;>simp [h0,h1,h2,h3,h8]<;>omega
 refine ⟨r4,0,0,0,zgk h.1 (fun k hk=>cz_K _ _ _ _ k hk),h.2.1,?_,h.2.2.2⟩;rw [←e];refine zaJ (zaJ (zaJ (zaJ zmN 20 _ ?_) 21 _ trivial) 22 _ trivial) 23 _ trivial;have q:=zip r4
 rwa [show cutR r4=r4 from funext fun j=>by unfold cutR r4;by_cases e5:j=5<;>by_cases e4:j=4<;>simp [e5,e4]] at q
theorem zzD (hc:HasCard w c d bs) (hl:bs.length=8192) (hT:Tabs w) (hC:CT w) (hG:10≤w.heap.size) {pc:Int} (hpc:jn (KB bs 8190) (KB bs 8191)=pc):
  Calls Tryz.prog 10 #[.pointer (some ⟨c,0,none⟩)] w fun e w'=>∃g b v,e=Ending.returned (.pointer (some ⟨g,0,none⟩))∧HasM w' b v c d bs zK∧HasK w' g b (rc pc) false 0 8 3 4 4 262 0 0 0∧(w.heap.size≤b∧w.heap.size≤v∧w.heap.size≤g)∧(b<g∧v<g)∧Below w.heap.size w w':=by
 have KN:=hide (zAI hc (by omega) (by omega) hT);have HC:=hide hC;have HL:=hide hl;have HG:=hide hG;have HP:=hide hpc;clear hc hT hC hl hG hpc;go_enter Tryz.func10,Tryz.ntmps10;go_wp2_with fail;refine KN.out.mono ?_;rintro e w1 ⟨b,v,rfl,x1,⟨lb,lv⟩,b1⟩
 have H1:=hide (show HasM w1 b v c d bs zK by
  refine ⟨?_,HC.out.next b1,gz_0 _ _,⟨Nat.le_trans HG.out lb,Nat.le_trans HG.out lv⟩,?_,?_⟩
  ·rw [←xp_0 (fun _=>0)] at x1;exact x1
  ·rw [HL.out];decide
  ·rw [HL.out];decide)
 have B1:=hide b1;have LB:=hide (show w.heap.size≤b∧w.heap.size≤v from ⟨lb,lv⟩);clear x1 b1 lb lv KN HC;go_wp2_with fail;refine (zoa (zxr H1.out) (zCz HL.out) rfl HP.out).mono ?_;rintro e w2 ⟨rfl,h2,o2⟩;have H2:=hide (zCA h2);have B2:=hide (B1.out.trans (o2.below (B:=w.heap.size) (fun k e=>by rcases e with rfl|rfl;exact LB.out.1;exact LB.out.2) B1.out.size));clear h2 o2 H1 B1;go_wp2_with fail;refine (ziH H2.out).mono ?_;rintro e w3 ⟨rfl,b3⟩;have H3:=hide (H2.out.next b3);have B3:=hide (zaz B2.out b3);clear b3 H2 B2;go_wp2;go_ret;have ba:=(Below.refl w3.heap.size w3).alloc (Nat.le_refl _) (.cells (conC b (rc pc) false 0 8 3 4 4 262 0 0 0) 69);exact ⟨w3.heap.size,b,v,rfl,H3.out.next ba,heap_alloc_new _ _,⟨LB.out.1,LB.out.2,B3.out.size⟩,⟨H3.out.lts.1,H3.out.lts.2.1⟩,zaz B3.out ba⟩
end Go.Proofs.YtdiidjehdginnaaGreatDoor.L25
namespace Go.Proofs.YtdiidjehdginnaaGreatDoor.D19
set_option maxHeartbeats 4000000
set_option maxRecDepth 20000
open Go.RowKit
set_option linter.unusedVariables false
variable {L N X Y Z:Int} {rest:List (Nat×Value)} {D G P0 T V:List Value} {b i:Nat} {TI:TypeId} {w w':World}
def zdT (B:Nat→Int) (P:Nat) (C:Nat→Int) (F:Nat→Bool) (x:Nat):Int:=if x<P∧¬C x=0∧(F x=true∨B x=0) then 256+C x else B x
theorem zob (b0 o0 N k0 pb pp pk P x:Nat) (B v:Int) (w:World) (cp:w.cell? ⟨pb,0,none⟩=some (.int .i64 (P:Int))) (cb:w.cell? ⟨pk,0,none⟩=some (.slice (some ⟨b0,o0,none⟩) N k0)) (e0:w.cell? ⟨b0,o0+x,none⟩=some (.int .i64 B)) (hx:x<N) (hP:¬x<P) (hN:N≤65536) (hv:B=v):Calls Tryz.prog 192 #[.int .i64 (x:Int),.pointer (some ⟨pb,0,none⟩),.pointer (some ⟨pp,0,none⟩),.pointer (some ⟨pk,0,none⟩)] w fun e w'=>e=.returned (.int .i64 v)∧w'=w:=by
 subst hv;have hd:decide ((x:Int)<(P:Int))=false:=decide_eq_false (by omega);go_enter Tryz.func192,Tryz.ntmps192;go_wp2_with fail;go_ret;exact ⟨rfl,rfl⟩
theorem ztD (b0 o0 N k0 pb pp pk P x:Nat) (B v:Int) (w:World) (cp:w.cell? ⟨pb,0,none⟩=some (.int .i64 (P:Int))) (cb:w.cell? ⟨pk,0,none⟩=some (.slice (some ⟨b0,o0,none⟩) N k0)) (e0:w.cell? ⟨b0,o0+x,none⟩=some (.int .i64 B)) (hx:x<N) (b1 o1 l1 k1 b2 o2 l2 k2:Nat) (C:Int) (F:Bool) (c0:w.cell? ⟨pp,0,none⟩=some (.slice (some ⟨b1,o1,none⟩) l1 k1)) (c1:w.cell? ⟨pp,1,none⟩=some (.slice (some ⟨b2,o2,none⟩) l2 k2)) (e1:w.cell? ⟨b1,o1+x,none⟩=some (.int .i64 C)) (e2:w.cell? ⟨b2,o2+x,none⟩=some (.bool F)) (hP:x<P) (h1:P≤l1) (h2:P≤l2) (hN:N≤65536) (hC:C≤1099511627776) (hC2 : -9223372036854775808≤C) (hv:(if ¬C=0∧(F=true∨B=0) then 256+C else B)=v):Calls Tryz.prog 192 #[.int .i64 (x:Int),.pointer (some ⟨pb,0,none⟩),.pointer (some ⟨pp,0,none⟩),.pointer (some ⟨pk,0,none⟩)] w fun e w'=>e=.returned (.int .i64 v)∧w'=w:=by
 have hd:decide ((x:Int)<(P:Int))=true:=decide_eq_true (by omega);have hx1:x<l1:=by omega
 have hx2:x<l2:=by omega
 by_cases z:C=0
 ·subst z;rw [if_neg (fun h=>h.1 rfl)] at hv;subst hv;go_enter Tryz.func192,Tryz.ntmps192;go_wp2_with fail;go_ret;exact ⟨rfl,rfl⟩
 ·have z1:(C != 0)=true:=by simpa using z
  cases F
  ·by_cases q:B=0
   ·subst q;rw [if_pos ⟨z,.inr rfl⟩] at hv;subst hv;go_enter Tryz.func192,Tryz.ntmps192;go_wp2_with fail;go_ret;exact ⟨rfl,rfl⟩
   ·have q1:(B==0)=false:=by simpa using q
    rw [if_neg (fun h=>by rcases h.2 with h|h;cases h;exact q h)] at hv
    subst hv;go_enter Tryz.func192,Tryz.ntmps192;go_wp2_with fail;go_ret;exact ⟨rfl,rfl⟩
  ·rw [if_pos ⟨z,.inl rfl⟩] at hv;subst hv;go_enter Tryz.func192,Tryz.ntmps192;go_wp2_with fail;go_ret;exact ⟨rfl,rfl⟩
def zht (M:Nat→Int) (k j:Nat):Int:=if j<k then M j else 0
theorem zzE (a0 a1 a2:Option Addr) (N k0 l1 k1 l2 k2 P:Nat) (B:Nat→Int) (C:Nat→Int) (F:Nat→Bool) (w:World) (H0:Hid (IntsAt w a0 N B)) (H1:Hid (IntsAt w a1 P C)) (H2:Hid (FlagsAt w a2 P F)) (hN:N≤65536) (hl1:(l1:Int)≤1099511627776) (hl2:(l2:Int)≤1099511627776) (HC:Hid (∀j,j<P→-9223372036854775808≤C j∧C j≤1099511627776)) (hP:P=l1) (q:l1≤l2):Calls Tryz.prog 131 #[.slice a0 N k0,.agg #[.slice a1 l1 k1,.slice a2 l2 k2]] w fun e w'=>∃g,w.heap.size≤g∧e=.returned (.slice (some ⟨g,0,none⟩) N N)∧RowN w' g N (zdT B P C F)∧Below w.heap.size w w':=by
 subst hP;have q1:(P:Int)≤(l2:Int):=by omega
 have hmk:=zgn N (by omega);go_enter Tryz.func131,Tryz.ntmps131;go_wp2_with fail;refine under_name fun wa hwa=>?_
 obtain ⟨q0,q1,q2,q3,hs,BB⟩:=zjc hwa;clear hwa hs;obtain ⟨pk,hpk⟩:∃z,w.heap.size=z:=⟨_,rfl⟩
 obtain ⟨pp,hpp⟩:∃z,w.heap.size+1=z:=⟨_,rfl⟩
 obtain ⟨pb,hpb⟩:∃z,w.heap.size+2=z:=⟨_,rfl⟩
 obtain ⟨g,hg⟩:∃z,w.heap.size+3=z:=⟨_,rfl⟩
 have HZ:=hide (show w.heap.size≤g∧pk≠g∧pp≠g∧pb≠g by omega);rw [hpk] at q0;rw [hpp] at q1;rw [hpb] at q2;rw [hg] at q3;simp only [Nat.add_assoc];rw [hg,hpb,hpp,hpk];have G0:=hide (show RowN wa g N (zht (zdT B P C F) 0) from RowN.ext (show RowN wa g N (fun _=>0) from q3) fun j _=>by unfold zht;rw [if_neg (by omega)]);have K0:=hide q0;have K1:=hide q1;have K2:=hide q2;have B0:=hide BB;clear q0 q1 q2 q3 BB hpk hpp hpb hg;go_loopw [22] (fun si wr=>∃k:Nat,k≤N∧si=.int .i64 (k:Int)∧RowN wr g N (zht (zdT B P C F) k)∧(∀z o,z≠g→wa.heap[z]? = some o→wr.heap[z]? = some o)∧Below w.heap.size w wr) (fun si _=>N-(intOf si).toNat)
 case atStart=>exact ⟨0,Nat.zero_le _,rfl,G0.out,fun z o _ h=>h,B0.out⟩
 case round=>
  obtain ⟨k,hk,rfl,hgr,hkeep,hb⟩:=hrel;have GK:=hide hgr;have KK:=hide hkeep;have BK:=hide hb;clear hgr hkeep hb
  by_cases hlt:k<N
  ·have KS:Hid (Calls Tryz.prog 192 #[.int .i64 (k:Int),.pointer (some ⟨pb,0,none⟩),.pointer (some ⟨pp,0,none⟩),.pointer (some ⟨pk,0,none⟩)] wr fun e w'=>e=.returned (.int .i64 (zdT B P C F k))∧w'=wr):=by
    obtain ⟨b0,o0,rfl,hb0,e0⟩:=(H0.out.next BK.out) k hlt;have cp:=(cell_of_row wr pb 0 _ _ _ (KK.out pb _ HZ.out.2.2.2 K2.out)).trans rfl;have cb:=(cell_of_row wr pk 0 _ _ _ (KK.out pk _ HZ.out.2.1 K0.out)).trans rfl
    by_cases hP:k<P
    ·obtain ⟨b1,o1,rfl,hb1,e1⟩:=(H1.out.next BK.out) k hP;obtain ⟨b2,o2,rfl,hb2,e2⟩:=(H2.out.next BK.out) k hP;have c0:=(cell_of_row wr pp 0 _ _ _ (KK.out pp _ HZ.out.2.2.1 K1.out)).trans rfl;have c1:=(cell_of_row wr pp 1 _ _ _ (KK.out pp _ HZ.out.2.2.1 K1.out)).trans rfl;exact ztD b0 o0 N k0 pb pp pk P k (B k) _ wr cp cb e0 hlt b1 o1 _ k1 b2 o2 _ k2 (C k) (F k) c0 c1 e1 e2 hP (by omega) (by omega) hN (HC.out k hP).2 (HC.out k hP).1 (by unfold zdT;simp [hP])
    ·exact zob b0 o0 N k0 pb pp pk P k (B k) _ wr cp cb e0 hlt hP hN (by unfold zdT;rw [if_neg (fun h=>hP h.1)])
   have ck:=GK.out.at k hlt;have zk:=GK.out.frozen k;obtain ⟨v,hv⟩:∃v,zdT B P C F k=v:=⟨_,rfl⟩
   obtain ⟨u,hu⟩:∃u,zht (zdT B P C F) k k=u:=⟨_,rfl⟩
   rw [hv] at KS;rw [hu] at ck;have HV:=hide hv;clear hv hu;go_wp2_with (first|(go_at_call 192;refine KS.out.mono ?_;rintro e w' ⟨rfl,hw⟩;subst w'));go_roundw
   case rel=>
    refine ⟨k+1,by omega,by go_num,?_,?_,BK.out.setCell (p:=⟨g,k,none⟩) HZ.out.1 _⟩
    ·refine RowN.ext (GK.out.set k v) fun j _=>?_
     unfold zht
     by_cases e:j=k
     ·rw [if_pos e,if_pos (by omega),e,HV.out]
     ·rw [if_neg e]
      by_cases q:j<k
      ·rw [if_pos q,if_pos (by omega)]
      ·rw [if_neg q,if_neg (by omega)]
    ·exact fun z o hz h=>(heap_setCell_other _ _ _ _ hz).trans (KK.out z o hz h)
   case measure=>simp [intOf];omega
  ·obtain rfl:k=N:=by omega
   go_wp2_with fail;go_ret;exact ⟨g,HZ.out.1,rfl,GK.out.ext fun j hj=>by unfold zht;rw [if_pos hj],BK.out⟩
theorem zzF (a0 a1 a2:Option Addr) (N k0 l1 k1 l2 k2 P:Nat) (B:Nat→Int) (C:Nat→Int) (F:Nat→Bool) (w:World) (H0:Hid (IntsAt w a0 N B)) (H1:Hid (IntsAt w a1 P C)) (H2:Hid (FlagsAt w a2 P F)) (hN:N≤65536) (hl1:(l1:Int)≤1099511627776) (hl2:(l2:Int)≤1099511627776) (HC:Hid (∀j,j<P→-9223372036854775808≤C j∧C j≤1099511627776)) (hP:P=l2) (q:l2<l1):Calls Tryz.prog 131 #[.slice a0 N k0,.agg #[.slice a1 l1 k1,.slice a2 l2 k2]] w fun e w'=>∃g,w.heap.size≤g∧e=.returned (.slice (some ⟨g,0,none⟩) N N)∧RowN w' g N (zdT B P C F)∧Below w.heap.size w w':=by
 subst hP;have q1:(P:Int)<(l1:Int):=by omega
 have hmk:=zgn N (by omega);go_enter Tryz.func131,Tryz.ntmps131;go_wp2_with fail;refine under_name fun wa hwa=>?_
 obtain ⟨q0,q1,q2,q3,hs,BB⟩:=zjc hwa;clear hwa hs;obtain ⟨pk,hpk⟩:∃z,w.heap.size=z:=⟨_,rfl⟩
 obtain ⟨pp,hpp⟩:∃z,w.heap.size+1=z:=⟨_,rfl⟩
 obtain ⟨pb,hpb⟩:∃z,w.heap.size+2=z:=⟨_,rfl⟩
 obtain ⟨g,hg⟩:∃z,w.heap.size+3=z:=⟨_,rfl⟩
 have HZ:=hide (show w.heap.size≤g∧pk≠g∧pp≠g∧pb≠g by omega);rw [hpk] at q0;rw [hpp] at q1;rw [hpb] at q2;rw [hg] at q3;simp only [Nat.add_assoc];rw [hg,hpb,hpp,hpk];have G0:=hide (show RowN wa g N (zht (zdT B P C F) 0) from RowN.ext (show RowN wa g N (fun _=>0) from q3) fun j _=>by unfold zht;rw [if_neg (by omega)]);have K0:=hide q0;have K1:=hide q1;have K2:=hide q2;have B0:=hide BB;clear q0 q1 q2 q3 BB hpk hpp hpb hg;go_loopw [22] (fun si wr=>∃k:Nat,k≤N∧si=.int .i64 (k:Int)∧RowN wr g N (zht (zdT B P C F) k)∧(∀z o,z≠g→wa.heap[z]? = some o→wr.heap[z]? = some o)∧Below w.heap.size w wr) (fun si _=>N-(intOf si).toNat)
 case atStart=>exact ⟨0,Nat.zero_le _,rfl,G0.out,fun z o _ h=>h,B0.out⟩
 case round=>
  obtain ⟨k,hk,rfl,hgr,hkeep,hb⟩:=hrel;have GK:=hide hgr;have KK:=hide hkeep;have BK:=hide hb;clear hgr hkeep hb
  by_cases hlt:k<N
  ·have KS:Hid (Calls Tryz.prog 192 #[.int .i64 (k:Int),.pointer (some ⟨pb,0,none⟩),.pointer (some ⟨pp,0,none⟩),.pointer (some ⟨pk,0,none⟩)] wr fun e w'=>e=.returned (.int .i64 (zdT B P C F k))∧w'=wr):=by
    obtain ⟨b0,o0,rfl,hb0,e0⟩:=(H0.out.next BK.out) k hlt;have cp:=(cell_of_row wr pb 0 _ _ _ (KK.out pb _ HZ.out.2.2.2 K2.out)).trans rfl;have cb:=(cell_of_row wr pk 0 _ _ _ (KK.out pk _ HZ.out.2.1 K0.out)).trans rfl
    by_cases hP:k<P
    ·obtain ⟨b1,o1,rfl,hb1,e1⟩:=(H1.out.next BK.out) k hP;obtain ⟨b2,o2,rfl,hb2,e2⟩:=(H2.out.next BK.out) k hP;have c0:=(cell_of_row wr pp 0 _ _ _ (KK.out pp _ HZ.out.2.2.1 K1.out)).trans rfl;have c1:=(cell_of_row wr pp 1 _ _ _ (KK.out pp _ HZ.out.2.2.1 K1.out)).trans rfl;exact ztD b0 o0 N k0 pb pp pk P k (B k) _ wr cp cb e0 hlt b1 o1 _ k1 b2 o2 _ k2 (C k) (F k) c0 c1 e1 e2 hP (by omega) (by omega) hN (HC.out k hP).2 (HC.out k hP).1 (by unfold zdT;simp [hP])
    ·exact zob b0 o0 N k0 pb pp pk P k (B k) _ wr cp cb e0 hlt hP hN (by unfold zdT;rw [if_neg (fun h=>hP h.1)])
   have ck:=GK.out.at k hlt;have zk:=GK.out.frozen k;obtain ⟨v,hv⟩:∃v,zdT B P C F k=v:=⟨_,rfl⟩
   obtain ⟨u,hu⟩:∃u,zht (zdT B P C F) k k=u:=⟨_,rfl⟩
   rw [hv] at KS;rw [hu] at ck;have HV:=hide hv;clear hv hu;go_wp2_with (first|(go_at_call 192;refine KS.out.mono ?_;rintro e w' ⟨rfl,hw⟩;subst w'));go_roundw
   case rel=>
    refine ⟨k+1,by omega,by go_num,?_,?_,BK.out.setCell (p:=⟨g,k,none⟩) HZ.out.1 _⟩
    ·refine RowN.ext (GK.out.set k v) fun j _=>?_
     unfold zht
     by_cases e:j=k
     ·rw [if_pos e,if_pos (by omega),e,HV.out]
     ·rw [if_neg e]
      by_cases q:j<k
      ·rw [if_pos q,if_pos (by omega)]
      ·rw [if_neg q,if_neg (by omega)]
    ·exact fun z o hz h=>(heap_setCell_other _ _ _ _ hz).trans (KK.out z o hz h)
   case measure=>simp [intOf];omega
  ·obtain rfl:k=N:=by omega
   go_wp2_with fail;go_ret;exact ⟨g,HZ.out.1,rfl,GK.out.ext fun j hj=>by unfold zht;rw [if_pos hj],BK.out⟩
theorem zCB (a0 a1 a2:Option Addr) (N k0 l1 k1 l2 k2 P:Nat) (B:Nat→Int) (C:Nat→Int) (F:Nat→Bool) (w:World) (H0:Hid (IntsAt w a0 N B)) (H1:Hid (IntsAt w a1 P C)) (H2:Hid (FlagsAt w a2 P F)) (hN:N≤65536) (hl1:(l1:Int)≤1099511627776) (hl2:(l2:Int)≤1099511627776) (HC:Hid (∀j,j<P→-9223372036854775808≤C j∧C j≤1099511627776)) (hP:P=min l1 l2):Calls Tryz.prog 131 #[.slice a0 N k0,.agg #[.slice a1 l1 k1,.slice a2 l2 k2]] w fun e w'=>∃g,w.heap.size≤g∧e=.returned (.slice (some ⟨g,0,none⟩) N N)∧RowN w' g N (zdT B P C F)∧Below w.heap.size w w':=by
 by_cases q:l1≤l2
 ·exact zzE a0 a1 a2 N k0 l1 k1 l2 k2 P B C F w H0 H1 H2 hN hl1 hl2 HC (by omega) q
 ·exact zzF a0 a1 a2 N k0 l1 k1 l2 k2 P B C F w H0 H1 H2 hN hl1 hl2 HC (by omega) (by omega)
open W13
def zoc (h:Nat→Value) (N:Nat):List Value:=(List.range N).map h
theorem zkI (h:Nat→Value) (N:Nat):(zoc h N).length=N:=by simp [zoc]
def tabL (T:Nat→Int):List Value:=zoc (fun j=>.int .i64 (T j)) 256
theorem zbU (T:Nat→Int):(tabL T).length=256:=zkI _ _
open R15 V12 W13
def inL (P0 G T V:List Value) (X Y L N:Int):List Value:=P0++(G++(T++(V++[.int .i64 X,.int .i64 Y,.int .i64 L,.int .i64 N])))
def gL (s:Int) (f:Nat→Int):List Value:=(R15.rowG s f).toList
def vL (c a:Int) (f:Nat→Int):List Value:=(V12.rowV c a f).toList
theorem zcu (s:Int) (f:Nat→Int):(gL s f).length=21:=by unfold gL;rw [Array.length_toList,R15.rowG_size]
theorem zdn (c a:Int) (f:Nat→Int):(vL c a f).length=514:=by unfold vL;rw [Array.length_toList,V12.rowV_size]
theorem zxs (s:Int) (f:Nat→Int):(gL s f).toArray=R15.rowG s f:=by unfold gL;simp
theorem zxt (c a:Int) (f:Nat→Int):(vL c a f).toArray=V12.rowV c a f:=by unfold vL;simp
def HasI (TI:TypeId) (w:World) (b:Nat) (P0 G T V:List Value) (X Y L N:Int):Prop:=w.heap[b]? = some (.cells (inL P0 G T V X Y L N).toArray TI (0,0))∧G.length=21∧T.length=256∧V.length=514
theorem HasI.next (h:HasI TI w b P0 G T V X Y L N) (k:Below w.heap.size w w'):HasI TI w' b P0 G T V X Y L N:=⟨(k.block b (lt_of_block h.1)).trans h.1,h.2⟩
theorem HasI.keep (h:HasI TI w b P0 G T V X Y L N) (k:w'.heap[b]? = w.heap[b]?):HasI TI w' b P0 G T V X Y L N:=⟨k.trans h.1,h.2⟩
theorem zfd {A B C:List Value} (h:w.heap[b]? = some (.cells (A++(B++C)).toArray TI (0,0))):w.rangeAt b A.length B:=by
 intro j v hv;rw [cell_of_row w b (A.length+j) _ _ _ h,List.getElem?_toArray,List.getElem?_append_right (by omega),show A.length+j-A.length=j by omega];rw [List.getElem?_append_left (List.getElem?_eq_some_iff.1 hv).1];exact hv
theorem HasI.first (h:HasI TI w b P0 G T V X Y L N):w.rangeAt b 0 P0:=zfd (A:=[]) (TI:=TI) h.1
theorem HasI.regs (h:HasI TI w b P0 G T V X Y L N):w.rangeAt b P0.length G:=zfd h.1
theorem HasI.vce (h:HasI TI w b P0 G T V X Y L N):w.rangeAt b (P0.length+277) V:=by
 have k:=zfd (A:=P0++(G++T)) (B:=V) (C:=[.int .i64 X,.int .i64 Y,.int .i64 L,.int .i64 N]) (TI:=TI) (by rw [List.append_assoc,List.append_assoc];exact h.1);rw [List.length_append,List.length_append,h.2.1,h.2.2.1] at k;exact k
theorem HasI.tail (h:HasI TI w b P0 G T V X Y L N):w.rangeAt b (P0.length+791) [.int .i64 X,.int .i64 Y,.int .i64 L,.int .i64 N]:=by
 have k:=zfd (A:=P0++(G++(T++V))) (B:=[.int .i64 X,.int .i64 Y,.int .i64 L,.int .i64 N]) (C:=[]) (TI:=TI) (by rw [List.append_assoc,List.append_assoc,List.append_assoc,List.append_nil];exact h.1);rw [List.length_append,List.length_append,List.length_append,h.2.1,h.2.2.1,h.2.2.2] at k;exact k
theorem HasI.n (h:HasI TI w b P0 G T V X Y L N):w.cell? ⟨b,P0.length+794,none⟩=some (.int .i64 N):=h.tail 3 _ rfl
theorem fold_put (off:Nat):∀(cs B A C:List Value) (k:Nat),B.length=cs.length→A.length=off+k→(cs.zipIdx k).foldl (fun (acc:Array Value) (p:Value×Nat)=>acc.setIfInBounds (off+p.2) p.1) (A++(B++C)).toArray=(A++(cs++C)).toArray
 |[],B,A,C,k,h,_=>by
  cases B with
  |nil=>rfl
  |cons b B=>cases h
 |c::cs,B,A,C,k,h,hA=>by
  cases B with
  |nil=>cases h
  |cons b B=>
   rw [List.zipIdx_cons,List.foldl_cons];have e:(A++(b::B++C)).toArray.setIfInBounds (off+k) c=((A++[c])++(B++C)).toArray:=by
    rw [←hA,List.setIfInBounds_toArray,List.set_append_right _ _ (Nat.le_refl _),Nat.sub_self];simp
   show List.foldl _ ((A++(b::B++C)).toArray.setIfInBounds (off+k) c) _=_;rw [e,fold_put off cs B (A++[c]) C (k+1) (by simpa using h) (by simp;omega)];simp
theorem zcI {place:Nat→Option (Nat×Nat)} {cells:Array Value} {off size:Nat} {v:Value} (A B C D:List Value) (hc:cells=(A++(B++C)).toArray) (hp:place i=some (off,size)) (hA:A.length=off) (hv:v.cells.toList=D) (hD:D.length=size) (hB:B.length=size):
  Instr.fill place cells ((i,v)::rest)=Instr.fill place (A++(D++C)).toArray rest:=by
 subst hc;have hs:v.cells.size=size:=by rw [←Array.length_toList,hv,hD]
 rw [Instr.fill,hp];simp only [hs];rw [if_neg (by simp [hA,hB])]
 congr 1
 rw [←Array.foldl_toList,Array.toList_zipIdx,hv];exact fold_put off D B A C 0 (by omega) (by omega)
theorem zqb {place:Nat→Option (Nat×Nat)} {p v:Value} (hp:place i=some (0,1)) (hv:v.cells.toList=[v]):Instr.fill place (inL [p] G T V X Y L N).toArray ((i,v)::rest)=Instr.fill place (inL [v] G T V X Y L N).toArray rest:=
 zcI [] [p] _ [v] rfl hp rfl hv rfl rfl
theorem zCC {place:Nat→Option (Nat×Nat)} (hG:G.length=21) (hT:T.length=256) (hV:V.length=514)  (hp:place i=some (P0.length,21)) (hD:D.length=21):Instr.fill place (inL P0 G T V X Y L N).toArray ((i,.agg D.toArray)::rest)=Instr.fill place (inL P0 D T V X Y L N).toArray rest:=
 zcI P0 G _ D rfl hp rfl rfl hD hG
theorem zCD {place:Nat→Option (Nat×Nat)} (hG:G.length=21) (hT:T.length=256) (hV:V.length=514)  (hp:place i=some (P0.length+21,256)) (hD:D.length=256):Instr.fill place (inL P0 G T V X Y L N).toArray ((i,.agg D.toArray)::rest)=Instr.fill place (inL P0 G D V X Y L N).toArray rest:=by
 rw [zcI (P0++G) T (V++[.int .i64 X,.int .i64 Y,.int .i64 L,.int .i64 N]) D (by unfold inL;rw [List.append_assoc]) hp (by rw [List.length_append,hG]) rfl hD hT];unfold inL;rw [List.append_assoc]
theorem zCE {place:Nat→Option (Nat×Nat)} (hG:G.length=21) (hT:T.length=256) (hV:V.length=514)  (hp:place i=some (P0.length+277,514)) (hD:D.length=514):Instr.fill place (inL P0 G T V X Y L N).toArray ((i,.agg D.toArray)::rest)=Instr.fill place (inL P0 G T D X Y L N).toArray rest:=by
 rw [zcI (P0++(G++T)) V [.int .i64 X,.int .i64 Y,.int .i64 L,.int .i64 N] D (by unfold inL;rw [List.append_assoc,List.append_assoc]) hp (by rw [List.length_append,List.length_append,hG,hT]) rfl hD hV];unfold inL;rw [List.append_assoc,List.append_assoc]
theorem zCF {place:Nat→Option (Nat×Nat)} (hG:G.length=21) (hT:T.length=256) (hV:V.length=514)  (hp:place i=some (P0.length+791,1)):Instr.fill place (inL P0 G T V X Y L N).toArray ((i,.int .i64 Z)::rest)=Instr.fill place (inL P0 G T V Z Y L N).toArray rest:=by
 rw [zcI (P0++(G++(T++(V++[])))) [.int .i64 X] [.int .i64 Y,.int .i64 L,.int .i64 N] [.int .i64 Z] (by unfold inL;simp [List.append_assoc]) hp (by simp [hG,hT,hV]) rfl rfl rfl];unfold inL;simp [List.append_assoc]
theorem zCG {place:Nat→Option (Nat×Nat)} (hG:G.length=21) (hT:T.length=256) (hV:V.length=514)  (hp:place i=some (P0.length+792,1)):Instr.fill place (inL P0 G T V X Y L N).toArray ((i,.int .i64 Z)::rest)=Instr.fill place (inL P0 G T V X Z L N).toArray rest:=by
 rw [zcI (P0++(G++(T++(V++[.int .i64 X])))) [.int .i64 Y] [.int .i64 L,.int .i64 N] [.int .i64 Z] (by unfold inL;simp [List.append_assoc]) hp (by simp [hG,hT,hV]) rfl rfl rfl];unfold inL;simp [List.append_assoc]
theorem zCH {place:Nat→Option (Nat×Nat)} (hG:G.length=21) (hT:T.length=256) (hV:V.length=514)  (hp:place i=some (P0.length+793,1)):Instr.fill place (inL P0 G T V X Y L N).toArray ((i,.int .i64 Z)::rest)=Instr.fill place (inL P0 G T V X Y Z N).toArray rest:=by
 rw [zcI (P0++(G++(T++(V++[.int .i64 X,.int .i64 Y])))) [.int .i64 L] [.int .i64 N] [.int .i64 Z] (by unfold inL;simp [List.append_assoc]) hp (by simp [hG,hT,hV]) rfl rfl rfl];unfold inL;simp [List.append_assoc]
theorem zCI {place:Nat→Option (Nat×Nat)} (hG:G.length=21) (hT:T.length=256) (hV:V.length=514)  (hp:place i=some (P0.length+794,1)):Instr.fill place (inL P0 G T V X Y L N).toArray ((i,.int .i64 Z)::rest)=Instr.fill place (inL P0 G T V X Y L Z).toArray rest:=by
 rw [zcI (P0++(G++(T++(V++[.int .i64 X,.int .i64 Y,.int .i64 L])))) [.int .i64 N] [] [.int .i64 Z] (by unfold inL;simp [List.append_assoc]) hp (by simp [hG,hT,hV]) rfl rfl rfl];unfold inL;simp [List.append_assoc]
def zG:List Value:=gL 0 fun _=>0
def zV:List Value:=vL 0 0 fun _=>0
def zT:List Value:=tabL fun _=>0
theorem zlR:zG.length=21:=zcu _ _
theorem zgt:zV.length=514:=zdn _ _ _
theorem ziI:zT.length=256:=zbU _
theorem zCJ:∀v ∈ zG,v=Value.int .i64 0:=by
 intro v hv;unfold zG gL R15.rowG at hv;simp only [List.mem_cons,List.mem_map] at hv;rcases hv with h|⟨j,_,h⟩
 ·exact h
 ·exact h.symm
theorem zCK:∀v ∈ zV,v=Value.int .i64 0:=by
 intro v hv;unfold zV vL V12.rowV at hv;simp only [List.mem_cons,List.mem_map] at hv;rcases hv with h|h|⟨j,_,h⟩
 ·exact h
 ·exact h
 ·exact h.symm
theorem zCL:∀v ∈ zT,v=Value.int .i64 0:=by
 intro v hv;unfold zT tabL zoc at hv;simp only [List.mem_map] at hv;obtain ⟨j,_,h⟩:=hv;exact h.symm
theorem zqc:zG++(zT++(zV++[Value.int .i64 0,.int .i64 0,.int .i64 0,.int .i64 0]))=List.replicate 795 (.int .i64 0):=by
 refine List.eq_replicate_iff.2 ⟨?_,fun v hv=>?_⟩
 ·simp only [List.length_append,zlR,ziI,zgt,List.length_cons,List.length_nil]
 ·simp only [List.mem_append,List.mem_cons,List.not_mem_nil,or_false] at hv;rcases hv with h|h|h|h|h|h|h
  ·exact zCJ v h
  ·exact zCL v h
  ·exact zCK v h
  all_goals exact h
def ztE:Option Value→Bool|some (.agg ⟨.pointer none::xs⟩)=>allZ 795 xs|_=>false
def zeroI:Array Value:=(inL [.pointer none] zG zT zV 0 0 0 0).toArray
theorem zqd {v:Option Value} (h:ztE v=true):v=some (.agg zeroI):=by
 unfold ztE at h;split at h
 ·rename_i xs;have k:=zmg _ _ h;subst k;unfold zeroI inL;rw [zqc];rfl
 ·cases h
theorem zCM:Tryz.t197.zero=some (.agg zeroI):=zqd (by kernel_rfl)
def zCN (i:Nat):Option (Nat×Nat):=#[(0,1),(1,21),(22,256),(278,514),(792,1),(793,1),(794,1),(795,1)][i]?
set_option maxRecDepth 100000 in
theorem zzG (parts:List (Nat×Value)):Tryz.prog.built 197 parts=Instr.fill zCN zeroI parts:=by
 have h1:Tryz.prog.info? 197=some Tryz.t197:=by kernel_rfl
 unfold Program.built;simp only [h1,Tryz.underlying197,zCM];rfl
theorem zqe (b:Nat) (m:Nat→Int) (wr rd st lo bu:Int) (w:World) (h:HasM w b true m wr rd st lo bu):Calls Tryz.prog 127 #[.pointer (some ⟨b,0,none⟩)] w fun e w'=>e=.returned (.bool false)∧Below w.heap.size w w':=by
 have KW:=hide (words_is b m wr rd st lo bu w h 0 1 0 rfl (by omega) (by omega));clear h;go_enter Tryz.func127,Tryz.ntmps127;go_wp2_with fail;refine KW.out.mono ?_;rintro e w1 ⟨rfl,_,b1⟩;have B1:=hide b1;clear b1;go_wp2;go_ret;exact ⟨rfl,B1.out⟩
theorem ons (s:Int) (f:Nat→Int) (G:List Value) (hG:Hid (G=gL s f)) (k:Int) (x:Bool) (hx:(zaV (f 5) k==1)=x) (w:World):Calls Tryz.prog 126 #[.agg G.toArray,.int .i64 k] w fun e w'=>e=.returned (.bool x)∧Below w.heap.size w w':=by
 rw [hG.out,zxs,←hx];exact R15.on_any s f k w
def zod (F:Nat→Int) (c k:Int):Int:=V12.colOf (F (k%512).toNat%512) (zaV c 7==1)
theorem zzH (c a:Int) (F:Nat→Int) (V:List Value) (hV:Hid (V=vL c a F)) (k v:Int) (hv:zod F c k=v) (w:World):Calls Tryz.prog 132 #[.agg V.toArray,.int .i64 k] w fun e w'=>e=.returned (.int .i64 v)∧Below w.heap.size w w':=by
 rw [hV.out,zxt,←hv];exact V12.colour_at c a k F w (k%512).toNat (by omega)
theorem draw_off (b:Nat) (m:Nat→Int) (wr rd st lo bu:Int) (w:World) (h:HasM w b true m wr rd st lo bu) (A:Array Value) (G TL V:List Value) (s:Int) (f:Nat→Int) (T:Nat→Int) (c a:Int) (F:Nat→Int) (X Y L:Int) (hG:Hid (G=gL s f)) (hT:Hid (TL=tabL T)) (hV:Hid (V=vL c a F)) (N:Nat) (hA:Hid (A=(inL [.pointer (some ⟨b,0,none⟩)] G TL V X Y L (N:Int)).toArray)) (hN0:1≤N) (hN1:N≤512) (h7:(zaV (f 5) 7==1)=false) (h6:(zaV (f 5) 6==1)=false):
  Calls Tryz.prog 89 #[.agg A] w fun e w'=>∃g K,w.heap.size≤g∧e=.returned (.tuple #[.slice (some ⟨g,0,none⟩) N N,.bool false,.bool false])∧RowN w' g N K∧Below w.heap.size w w':=by
 have HM:=hide h;clear h;have KN:=hide (zqe b m wr rd st lo bu);have LG:=hide (show G.length=21 by rw [hG.out];exact zcu _ _);have LT:=hide (show TL.length=256 by rw [hT.out];exact zbU _);have LV:=hide (show V.length=514 by rw [hV.out];exact zdn _ _ _);go_enter Tryz.func89,Tryz.ntmps89;have A0:=hide (show HasI 197 (w.alloc (.cells A 197)) w.heap.size [.pointer (some ⟨b,0,none⟩)] G TL V X Y L (N:Int) from ⟨by rw [hA.out];exact heap_alloc_new _ _,LG.out,LT.out,LV.out⟩);have c0:=A0.out.first 0 _ rfl;go_wp2_with fail;refine zfx fun wa hwa=>?_
 have I0:=hide (show HasI 197 wa w.heap.size [.pointer (some ⟨b,0,none⟩)] G TL V X Y L (N:Int) by rw [hwa];exact A0.out);have B0:=hide (show Below w.heap.size w wa by rw [hwa];exact (Below.refl _ w).alloc (Nat.le_refl _) _);clear hwa A0 c0;obtain ⟨z,hz⟩:∃z,w.heap.size=z:=⟨_,rfl⟩
 rw [hz] at I0 ⊢;have HZ:=hide hz;clear hz;refine (KN.out wa (HM.out.next B0.out)).mono ?_;rintro e w1 ⟨rfl,b1⟩;have I1:=hide (I0.out.next b1);have B1:=hide (zaz B0.out b1);clear b1 I0 B0 KN;have cN:w1.cell? ⟨z,795,none⟩=some (.int .i64 (N:Int)):=I1.out.n;have hd1:decide ((N:Int)<1)=false:=decide_eq_false (by omega);have hd2:decide ((512:Int)<N)=false:=decide_eq_false (by omega);have hmk:=zgn N (by omega);have K7:=hide (ons s f G hG 7 false h7);have IG:=hide (show (Tryz.prog.info? 32).map (·.size)=some G.length by rw [LG.out];kernel_rfl);have R1:=hide (I1.out.next ((Below.refl _ w1).alloc (Nat.le_refl _) (.cells (rowN (fun _=>0) N).toArray 3)));go_wp2_with (first|(refine wpList_load_mid rfl 32 (.tmp 27) rfl z 1 rfl G _ R1.out.regs Tryz.underlying32 rfl IG.out ?_));refine zfx fun w2 hw2=>?_
 have n2:Below w1.heap.size w1 w2:=by rw [hw2];exact (Below.refl _ w1).alloc (Nat.le_refl _) _
 have G2:=hide (show RowN w2 w1.heap.size N (fun _=>0) by rw [hw2];exact heap_alloc_new _ _);have I2:=hide (I1.out.next n2);have B2:=hide (zaz B1.out n2);have hb1:=B1.out.size;clear hw2 n2 R1 I1 B1 hmk cN;obtain ⟨g2,hg2⟩:∃z,w1.heap.size=z:=⟨_,rfl⟩
 have HG2:=hide (show w.heap.size≤g2 by rw [←hg2];exact hb1);rw [hg2] at G2 ⊢;clear hg2 hb1;refine (K7.out w2).mono ?_;rintro e w3 ⟨rfl,b3⟩;have G3:=hide (G2.out.next b3);have I3:=hide (I2.out.next b3);have B3:=hide (zaz B2.out b3);clear b3 G2 I2 B2 K7;have G5:=hide (show RowN w3 g2 N (fun _=>0) from G3.out);have HB5:=hide B3.out.size;obtain ⟨w5,hw5⟩:∃u,u=w3:=⟨_,rfl⟩
 have I5:=I3;have B5:=B3;rw [←hw5] at G5 I5 B5 HB5 ⊢;obtain ⟨gk,hgk⟩:∃u,u=g2:=⟨_,rfl⟩
 rw [←hgk] at G5 ⊢;clear hw5 hgk G3 I3 B3 HG2 h7;have K6:=hide (ons s f G hG 6 false h6);have IG:=hide (show (Tryz.prog.info? 32).map (·.size)=some G.length by rw [LG.out];kernel_rfl);have R8:=hide (I5.out.next ((Below.refl _ w5).alloc (Nat.le_refl _) (.cells #[.slice none 0 0,.slice none 0 0] 229)));go_wp2_with (first|(refine wpList_load_mid rfl 32 (.tmp 48) rfl z 1 rfl G _ R8.out.regs Tryz.underlying32 rfl IG.out ?_));refine zfx fun w6 hw6=>?_
 have n6:Below w5.heap.size w5 w6:=by rw [hw6];exact (Below.refl _ w5).alloc (Nat.le_refl _) _
 have P6:=hide (show w6.heap[w5.heap.size]? = some (.cells #[.slice none 0 0,.slice none 0 0] 229 (0,0)) by rw [hw6];exact heap_alloc_new _ _);have I6:=hide (I5.out.next n6);have G6:=hide (G5.out.next n6);have B6:=hide (zaz B5.out n6);have hzp:=n6.size;clear hw6 n6 R8 I5 G5 B5;obtain ⟨zp,ezp⟩:∃z,w5.heap.size=z:=⟨_,rfl⟩
 have HP:=hide (show w.heap.size≤zp by rw [←ezp];exact HB5.out);rw [ezp] at P6 ⊢;clear ezp hzp HB5;refine (K6.out w6).mono ?_;rintro e w7 ⟨rfl,b7⟩;have P7:=hide ((b7.block _ (lt_of_block P6.out)).trans P6.out);have I7:=hide (I6.out.next b7);have G7:=hide (G6.out.next b7);have B7:=hide (zaz B6.out b7);clear b7 P6 I6 G6 B6 K6 IG h6;have p0:=(cell_of_row w7 zp 0 _ _ _ P7.out).trans rfl;have p1:=(cell_of_row w7 zp 1 _ _ _ P7.out).trans rfl;go_wp2_with fail;refine (zCB (some ⟨gk,0,none⟩) none none N N 0 0 0 0 0 _ (fun _=>0) (fun _=>false) w7 (hide G7.out.ints) (hide (zmI _ _ _)) (hide (zlL _ _ _)) (by omega) (by omega) (by omega) (hide fun j hj=>absurd hj (Nat.not_lt_zero _)) rfl).mono ?_;rintro e w8 ⟨g8,hg8,rfl,r8,b8⟩
 have G8:=hide (show RowN w8 g8 N (zdT (fun _=>0) N (fun _=>0) (fun _=>false)) from r8.ext fun j hj=>by
  unfold zdT
  rw [if_neg (fun h=>absurd h.1 (Nat.not_lt_zero _)),if_neg (fun h=>h.2.1 rfl)])
 have I8:=hide (I7.out.next b8);have HG8:=hide (Nat.le_trans B7.out.size hg8);have B8:=hide (zaz B7.out b8);clear r8 b8 hg8 p0 p1 P7 I7 G7 B7 HP;obtain ⟨M,hM⟩:∃M:Nat→Int,M=zdT (fun _=>0) N (fun _=>0) (fun _=>false):=⟨_,rfl⟩
 rw [←hM] at G8;clear hM;have K8:=hide (show RowN w8 g8 N (fun j=>if j<0 then zod F c (M j) else M j) from G8.out.ext fun j _=>by rw [if_neg (by omega)]);have IV:=hide (show (Tryz.prog.info? 43).map (·.size)=some V.length by rw [LV.out];kernel_rfl);clear G8;go_wp2_with fail;go_loopw [69] (fun si wr=>∃k:Nat,k≤N∧si=.int .i64 (k:Int)∧RowN wr g8 N (fun j=>if j<k then zod F c (M j) else M j)∧HasI 197 wr z [.pointer (some ⟨b,0,none⟩)] G TL V X Y L (N:Int)∧Below w.heap.size w wr) (fun si _=>N-(intOf si).toNat)
 case atStart=>exact ⟨0,Nat.zero_le _,rfl,K8.out,I8.out,B8.out⟩
 case round=>
  obtain ⟨k,hk,rfl,hr,hi,hb⟩:=hrel;have RK:=hide hr;have IK:=hide hi;have BK:=hide hb;clear hr hi hb K8 I8 B8
  by_cases hlt:k<N
  ·have ck:wr.cell? ⟨g8,k,none⟩=some (.int .i64 (M k)):=by
    have:=RK.out.at k hlt;rw [if_neg (by omega)] at this;exact this
   obtain ⟨x,hx⟩:∃x,M k=x:=⟨_,rfl⟩
   obtain ⟨v,hv⟩:∃v,zod F c x=v:=⟨_,rfl⟩
   rw [hx] at ck;have KC:=hide (zzH c a F V hV x v hv);have HX:=hide (And.intro hx hv);clear hx hv;go_wp2_with (first|(refine wpList_load_mid rfl 43 (.tmp 76) rfl z 278 rfl V _ IK.out.vce Tryz.underlying43 rfl IV.out ?_));refine (KC.out wr).mono ?_;rintro e w11 ⟨rfl,b11⟩;have R11:=hide (RK.out.next b11);have I11:=hide (IK.out.next b11);have B11:=hide (zaz BK.out b11);have cj:=R11.out.at k hlt;have zj:=R11.out.frozen k;rw [if_neg (by omega)] at cj;clear b11 RK IK BK KC ck;go_wp2_with fail;go_roundw
   case rel=>
    refine ⟨k+1,by omega,by go_num,?_,?_,B11.out.setCell (p:=⟨g8,k,none⟩) HG8.out _⟩
    ·refine RowN.ext (R11.out.set k v) fun j _=>?_
     by_cases e:j=k
     ·rw [if_pos e,if_pos (by omega),e,HX.out.1,HX.out.2]
     ·rw [if_neg e]
      by_cases q:j<k
      ·rw [if_pos q,if_pos (by omega)]
      ·rw [if_neg q,if_neg (by omega)]
    ·exact I11.out.keep (heap_setCell_other _ _ _ _ (zmH I11.out.1 R11.out (by decide)))
   case measure=>simp [intOf];omega
  ·obtain rfl:k=N:=by omega
   go_wp2_with fail;go_ret3;exact ⟨g8,_,HG8.out,rfl,RK.out,BK.out⟩
theorem run_input (p:Value) (hp:p.cells.toList=[p]) (s:Int) (f:Nat→Int) (T:Nat→Int) (c a:Int) (F:Nat→Int) (X Y L N:Int) (w:World):
  (Instr.build 197 #[(0,p),(1,.agg (R15.rowG s f)),(2,.agg (tabL T).toArray),(3,.agg (V12.rowV c a F)),(4,.int .i64 X),(5,.int .i64 Y),(6,.int .i64 L),(7,.int .i64 N)]).run Tryz.prog w=.ok (.agg (inL [p] (gL s f) (tabL T) (vL c a F) X Y L N).toArray) w:=by
 refine run_build w _ _ _ ?_;rw [←zxs,←zxt,zzG];unfold zeroI
 rw [zqb rfl hp,zCC zlR ziI zgt rfl (zcu _ _),zCD (zcu _ _) ziI zgt rfl (zbU _),zCE (zcu _ _) (zbU _) zgt rfl (zdn _ _ _),
  zCF (zcu _ _) (zbU _) (zdn _ _ _) rfl,zCG (zcu _ _) (zbU _) (zdn _ _ _) rfl,zCH (zcu _ _) (zbU _) (zdn _ _ _) rfl,zCI (zcu _ _) (zbU _) (zdn _ _ _) rfl]
 rfl
end Go.Proofs.YtdiidjehdginnaaGreatDoor.D19
namespace Go.Proofs.YtdiidjehdginnaaGreatDoor.L25
set_option maxHeartbeats 4000000
set_option maxRecDepth 20000
open A2 B4 C3 D24 G6 I11 J23 K9 L24 M5 N8 O7 P22 R15 T10 V12 W13
open Go.RowKit
set_option linter.unusedVariables false
variable {p:Int} {bs:List Int}
theorem zlS (Z:Nat→Nat→Int) (k:Nat) (f g:Nat→Int):upZ (upZ Z k f) k g=upZ Z k g:=funext fun i=>by
 unfold upZ;split<;>rfl
theorem ztF (Y:Nat→Nat→Int) (k:Nat):upZ Y k (Y k)=Y:=funext fun i=>by
 unfold upZ;split
 ·rename_i e;rw [e]
 ·rfl
def YC (st lag:Int):Nat→Nat→Int:=upZ (upZ zK 3 (oneV st)) 17 (oneV lag)
theorem zfe (st lag:Int) (k:Nat) (h3:k≠3) (h17:k≠17):YC st lag k=zK k:=by
 unfold YC;rw [zaC _ _ _ _ h17,zaC _ _ _ _ h3]
theorem zCO (st lag x:Int):upZ (YC st lag) 17 (oneV x)=YC st x:=zlS _ _ _ _
theorem yc_3 (st lag x:Int):upZ (YC st lag) 3 (oneV x)=YC x lag:=by
 unfold YC;rw [zaE _ 3 17 _ _ (by decide),zlS]
theorem yc_0:YC 0 0=zK:=funext fun i=>by
 unfold YC upZ
 by_cases h:i=17
 ·subst h;rfl
 ·by_cases h3:i=3
  ·subst h3;rfl
  ·simp [h,h3]
theorem zxu (st lag:Int):setZ (YC st lag)=YC st 0:=by
 unfold setZ
 rw [show advG (YC st lag 12) (YC st lag 17 0)=YC st lag 12 from funext fun j=>by
   rw [zfe _ _ 12 (by decide) (by decide)];unfold advG cT pT goT;split
   ·rename_i e;rw [e];rfl
   ·split
    ·rename_i e;rw [e];rfl
    ·rfl,
  show rndG (YC st lag 12) (YC st lag 17 0)=0 by rw [zfe _ _ 12 (by decide) (by decide)];rfl,
  show twoV (mT (YC st lag 13 0) 0) (lT (YC st lag 13 1) 0)=YC st lag 13 from rfl,ztF,ztF,zCO]
theorem zxv (hl:bs.length=8192) (st lag:Int):RomY bs (YC st lag):=⟨hl,rfl,rfl,rfl,rfl⟩
theorem zCP (st lag:Int):upZ (YC st lag) 9 (zce (YC st lag 9) 2 248)=YC st lag:=by
 have e:zce (YC st lag 9) 2 248=YC st lag 9:=funext fun k=>by
  rw [zfe _ _ 9 (by decide) (by decide)];unfold zce
  by_cases h:zaV 2 (k:Int)=1
  ·rw [if_pos h];have k1:k=1:=by
    unfold zaV at h;split at h
    ·rename_i hk;have hk2:k<16:=by omega
     have q:∀x:Fin 16,(2:Int)%65536/2 ^ ((x.val:Int).toNat)%2=1→x.val=1:=by decide +kernel
     exact q ⟨k,hk2⟩ h
    ·cases h
   subst k1;rfl
  ·rw [if_neg h]
 rw [e];exact ztF _ 9
def pcJ (j:Nat):Nat:=if j=0 then 0 else if j=1 then 1 else if j=2 then 3 else if j%2=1 then 5 else 7
def aJ (j:Nat):Int:=if j<2 then 0 else 248
def lJ (j:Nat):Int:=if j<3 then 0 else 248
def fJ (F:Bool) (j:Nat):Bool:=if j=0 then false else F
def cyJ (j:Nat):Nat:=if j=0 then 3 else if j=1 then 2 else if j=2 then 5 else if j%2=1 then 6 else 4
def UJ (j:Nat):Nat:=if j=0 then 0 else if j=1 then 3 else if j=2 then 5 else 10*((j-1)/2)+(if j%2=1 then 0 else 6)
def nJ (j:Nat):Nat:=(j-2)/2
theorem zzI (j:Nat):UJ (j+1)=UJ j+cyJ j:=by
 unfold UJ cyJ;rcases j with _|_|_|j
 ·rfl
 ·rfl
 ·rfl
 ·simp only [show ¬(j+1+1+1=0) by omega,show ¬(j+1+1+1=1) by omega,show ¬(j+1+1+1=2) by omega,show ¬(j+1+1+1+1=0) by omega,show ¬(j+1+1+1+1=1) by omega,show ¬(j+1+1+1+1=2) by omega,if_false];split<;>split<;>omega
def ztG (bs:List Int) (F:Bool):Prop:=bs.length=8192∧KB bs 0=(if F then 212 else 84)∧KB bs 1=169∧KB bs 2=248∧KB bs 3=83∧KB bs 4=2∧KB bs 5=230∧KB bs 6=16∧KB bs 7=128∧KB bs 8=252
theorem zB':zao 0:=⟨by decide,by decide⟩
theorem zkJ (h:zao p):zao (anP p 32):=zcH (P:=fun p=>0≤anP p 32∧anP p 32<256) (by unfold anP;decide +kernel) h
theorem zzJ (j:Nat):zao (aJ j):=by
 unfold aJ zao;split<;>decide
theorem zzK {F:Bool} (hc:ztG bs F) (st:Int) {M:Nat→Int} (hp:zao p) (j:Nat) (hj:j≤300) (hM:M 16=(nJ j:Int)):
  ∃(M':Nat→Int) (p':Int),GoK bs (YC st 0) M (aJ j) p (pcJ j) (fJ F j) (lJ j) (YC st 0) M' (aJ (j+1)) p' (pcJ (j+1)) (fJ F (j+1)) (lJ (j+1)) (cyJ j:Int)∧M' 16=(nJ (j+1):Int)∧zao p':=by
 obtain ⟨hl,k0,k1,k2,k3,k4,k5,k6,k7,k8⟩:=hc;have hY:=zxv hl st 0;rcases j with _|_|_|j
 ·refine ⟨M,anP p 32,?_,hM,zkJ hp⟩;cases F
  ·exact zlE (n:=84) hY zB' hp (by decide) k0 (by decide) (by kernel_rfl) (by kernel_rfl) (by kernel_rfl) false (by rw [show zcq 84=⟨#[67,83,76]⟩ by kernel_rfl];exact zCa)
  ·exact zlE (n:=212) hY zB' hp (by decide) k0 (by decide) (by kernel_rfl) (by kernel_rfl) (by kernel_rfl) true (by rw [show zcq 212=⟨#[67,83,72]⟩ by kernel_rfl];exact zCb)
 ·exact ⟨M,_,zzj (n:=169) (z:=248) hY zB' hp (by decide) k1 (by decide) (by kernel_rfl) (by kernel_rfl) (by decide) k2 (by kernel_rfl) (by rw [show zcq 169=⟨#[76,68,65]⟩ by kernel_rfl];exact zBX),hM,zba _ _⟩
 ·have k:=zzl (n:=83) (z:=2) (M:=M) (l:=0) (f:=fJ F 2) hY (zzJ 2) hp (q:=3) (by decide) k3 (by decide) (by kernel_rfl) (by kernel_rfl) (by decide) k4 (by decide) (by kernel_rfl) (by rw [show zcq 83=⟨#[84,65,77]⟩ by kernel_rfl];exact zCc);rw [show aJ 2=248 from rfl,show ((2:Nat):Int)=2 from rfl,zCP] at k;exact ⟨M,_,k,hM,zkJ hp⟩
 ·have ea:aJ (j+1+1+1)=248:=by unfold aJ;rw [if_neg (by omega)]
  have ea2:aJ (j+1+1+1+1)=248:=by unfold aJ;rw [if_neg (by omega)]
  have el:lJ (j+1+1+1)=248:=by unfold lJ;rw [if_neg (by omega)]
  have el2:lJ (j+1+1+1+1)=248:=by unfold lJ;rw [if_neg (by omega)]
  have ef:fJ F (j+1+1+1)=F:=by unfold fJ;rw [if_neg (by omega)]
  have ef2:fJ F (j+1+1+1+1)=F:=by unfold fJ;rw [if_neg (by omega)]
  rw [ea,ea2,el,el2,ef,ef2];have aB:zao 248:=⟨by decide,by decide⟩
  by_cases h:j%2=0
  ·have e1:pcJ (j+1+1+1)=5:=by unfold pcJ;rw [if_neg (by omega),if_neg (by omega),if_neg (by omega),if_pos (by omega)]
   have e2:pcJ (j+1+1+1+1)=7:=by unfold pcJ;rw [if_neg (by omega),if_neg (by omega),if_neg (by omega),if_neg (by omega)]
   have e3:cyJ (j+1+1+1)=6:=by unfold cyJ;rw [if_neg (by omega),if_neg (by omega),if_neg (by omega),if_pos (by omega)]
   rw [e1,e2,e3];refine ⟨_,_,zzm (n:=230) (z:=16) hY aB hp (by decide) k5 (by decide) rfl (by kernel_rfl) (by kernel_rfl) (by decide) k6 (by kernel_rfl) (by rw [show zcq 230=⟨#[73,78,67]⟩ by kernel_rfl];exact zBY),?_,zba _ _⟩;show up M 16 _ 16=_;rw [show ∀y,up M 16 y 16=y from fun y=>by simp [up],hM];show (((nJ (j+1+1+1):Nat):Int)%256+1)%256%256=_;unfold nJ;omega
  ·have e1:pcJ (j+1+1+1)=7:=by unfold pcJ;rw [if_neg (by omega),if_neg (by omega),if_neg (by omega),if_neg (by omega)]
   have e2:pcJ (j+1+1+1+1)=5:=by unfold pcJ;rw [if_neg (by omega),if_neg (by omega),if_neg (by omega),if_pos (by omega)]
   have e3:cyJ (j+1+1+1)=4:=by unfold cyJ;rw [if_neg (by omega),if_neg (by omega),if_neg (by omega),if_neg (by omega)]
   rw [e1,e2,e3];refine ⟨M,_,zzn (n:=128) hY aB hp (by decide) k7 (by decide) (by kernel_rfl) (by kernel_rfl) (by kernel_rfl) (by rw [show zcq 128=⟨#[66,82,65]⟩ by kernel_rfl];exact zBZ) (by rw [show KB bs (7+1)=252 from k8];decide) (by decide),?_,zkJ hp⟩;rw [hM];unfold nJ;omega
open C3
theorem zzL (l:List Int) {i k:Nat} (x:Int) (h:k≠i):(l.set i x).getD k 0=l.getD k 0:=by
 simp only [List.getD_eq_getElem?_getD];rw [List.getElem?_set_ne (fun e=>h e.symm)]
theorem zzM (l:List Int) {i:Nat} (x:Int) (h:i<l.length):(l.set i x).getD i 0=x:=by
 simp [List.getD_eq_getElem?_getD,h]
def Nine (C:Nat→Int) (bs:List Int):Prop:=∀k,k<9→bs.getD k 0=C k
theorem Nine.set {C:Nat→Int} (h:Nine C bs) (i:Nat) (x:Int) (hi:9≤i):Nine C (bs.set i x):=fun k hk=>(zzL bs x (by omega)).trans (h k hk)
theorem zwp (w:World) (gc:Nat) (C:Nat→Int) (hC:∀k,k<9→w.cell? ⟨gc,k,none⟩=some (.int .u8 (C k))∧0≤C k∧C k<256) (hgc:gc<w.heap.size):Calls Tryz.prog 9 #[.slice (some ⟨gc,0,none⟩) 9 9,.int .i64 0] w fun e w'=>∃bs:List Int,bs.length=8192∧e=Ending.returned (.slice (some ⟨w.heap.size,0,none⟩) 8192 8192)∧Bytes 5 w' w.heap.size bs∧Nine C bs∧bs.getD 8190 0=0∧bs.getD 8191 0=224∧Below w.heap.size w w':=by
 have hm:=znt 8192 (by omega) w;rw [show ((8192:Nat):Int)=(8192:Int) from rfl] at hm;obtain ⟨w1,hw1⟩:∃w1,w1=(w.alloc (.cells ((List.replicate 8192 (0:Int)).map (Value.int .u8)).toArray 5)):=⟨_,rfl⟩
 have B1:Hid (Bytes 5 w1 w.heap.size (List.replicate 8192 0)):=by subst hw1;exact hide Bytes.made
 have L1:Hid (Below w.heap.size w w1):=by subst hw1;exact hide ((Below.refl _ w).alloc (Nat.le_refl _) _)
 rw [←hw1] at hm;have HC:=hide hC;clear hw1 hC;go_enter Tryz.func9,Tryz.ntmps9;go_wp2_with fail;go_loopw [6] (fun s6 wr=>∃(i:Nat) (bs:List Int),i≤9∧s6=.int .i64 (i:Int)∧bs.length=8192∧Bytes 5 wr w.heap.size bs∧Below w.heap.size w wr∧∀k,k<i→bs.getD k 0=C k) (fun s6 _=>9-(intOf s6).toNat)
 case atStart=>exact ⟨0,_,by decide,rfl,List.length_replicate ..,B1.out,L1.out,fun k hk=>absurd hk (Nat.not_lt_zero k)⟩
 case round=>
  clear B1 L1;obtain ⟨i,bs,hi,rfl,hl,hb,bel,hn⟩:=hrel
  by_cases hlt:i<9
  ·obtain ⟨hd,d0,d1⟩:=hb.cell i (by rw [hl];omega);have hf:=hb.free i;obtain ⟨q0,q1,q2⟩:=HC.out i hlt;have cq:=(bel.cell (p:=⟨gc,i,none⟩) hgc).trans q0;obtain ⟨x,hx⟩:∃x,C i=x:=⟨_,rfl⟩
   have HX:=hide hx;have HB:=hide hb;have BL:=hide bel;have HN:=hide hn;have HLn:=hide hl;have X01:=hide (show 0≤x∧x<256 by rw [←hx];exact ⟨q1,q2⟩);rw [hx] at cq;clear hb bel hn q0 q1 q2 hx;obtain ⟨t,ht⟩:∃t:Int,t=(i:Int):=⟨_,rfl⟩
   have t0:0≤t:=by omega
   have t1:t<9:=by omega
   have t2:t<8000:=by omega
   have t3:(decide (t<9))=true:=decide_eq_true t1;have t4:(decide (t<8000))=true:=decide_eq_true t2;have tn:t.toNat=i:=by omega
   rw [←ht];have HT:=hide ht;clear ht;go_wp2_with fail;go_roundw
   case rel=>exact ⟨i+1,_,by omega,by go_num,by rw [List.length_set];exact HLn.out,HB.out.put i x X01.out,BL.out.setCell (Nat.le_refl _) _,fun k hk=>by
    by_cases e:k=i
    ·subst e;rw [zzM _ _ (by rw [HLn.out];omega),HX.out]
    ·rw [zzL _ _ e]
     exact HN.out k (by omega)⟩
   case measure=>simp [intOf];omega
  ·obtain rfl:i=9:=by omega
   have HB:=hide hb;have BL:=hide bel;have HN:Hid (Nine C bs):=hide hn;clear hb bel hn;go_wp2_with fail;go_loopw [7] (fun s7 wr=>∃(j:Int) (bs:List Int),(j=0∨j=1∨j=2∨j=3)∧s7=.int .i64 j∧bs.length=8192∧Bytes 5 wr w.heap.size bs∧Below w.heap.size w wr∧Nine C bs) (fun s7 _=>(3-intOf s7).toNat)
   case atStart=>exact ⟨0,_,.inl rfl,rfl,hl,HB.out,BL.out,HN.out⟩
   case round=>
    clear HB BL HN;obtain ⟨j,bs,hj,rfl,hl,hb,bel,hn⟩:=hrel;rcases hj with rfl|rfl|rfl|rfl
    ·skip
     obtain ⟨hc,c0,c1⟩:=hb.cell 8182 (by rw [hl];decide);obtain ⟨hd,d0,d1⟩:=hb.cell 8183 (by rw [hl];decide);have hf:=hb.free 8182;have hg:=hb.free 8183;have HB:=hide hb;have BL:=hide bel;have N9:=hide hn;have HL:=hide hl;clear hb bel hn;go_wp2_with fail;go_roundw
     case rel=>exact ⟨1,_,by decide,by go_num,by rw [List.length_set,List.length_set];exact HL.out,(HB.out.put 8182 0 (by decide)).put 8183 224 (by decide),(BL.out.setCell (Nat.le_refl _) _).setCell (Nat.le_refl _) _,(N9.out.set _ _ (by decide)).set _ _ (by decide)⟩
     case measure=>simp [intOf]
    ·skip
     obtain ⟨hc,c0,c1⟩:=hb.cell 8184 (by rw [hl];decide);obtain ⟨hd,d0,d1⟩:=hb.cell 8185 (by rw [hl];decide);have hf:=hb.free 8184;have hg:=hb.free 8185;have HB:=hide hb;have BL:=hide bel;have N9:=hide hn;have HL:=hide hl;clear hb bel hn;go_wp2_with fail;go_roundw
     case rel=>exact ⟨2,_,by decide,by go_num,by rw [List.length_set,List.length_set];exact HL.out,(HB.out.put 8184 0 (by decide)).put 8185 224 (by decide),(BL.out.setCell (Nat.le_refl _) _).setCell (Nat.le_refl _) _,(N9.out.set _ _ (by decide)).set _ _ (by decide)⟩
     case measure=>simp [intOf]
    ·skip
     obtain ⟨hc,c0,c1⟩:=hb.cell 8186 (by rw [hl];decide);obtain ⟨hd,d0,d1⟩:=hb.cell 8187 (by rw [hl];decide);have hf:=hb.free 8186;have hg:=hb.free 8187;have HB:=hide hb;have BL:=hide bel;have N9:=hide hn;have HL:=hide hl;clear hb bel hn;go_wp2_with fail;go_roundw
     case rel=>exact ⟨3,_,by decide,by go_num,by rw [List.length_set,List.length_set];exact HL.out,(HB.out.put 8186 0 (by decide)).put 8187 224 (by decide),(BL.out.setCell (Nat.le_refl _) _).setCell (Nat.le_refl _) _,(N9.out.set _ _ (by decide)).set _ _ (by decide)⟩
     case measure=>simp [intOf]
    ·obtain ⟨hc,c0,c1⟩:=hb.cell 8190 (by rw [hl];decide);obtain ⟨hd,d0,d1⟩:=hb.cell 8191 (by rw [hl];decide);have hf:=hb.free 8190;have hg:=hb.free 8191;have HB:=hide hb;have BL:=hide bel;have N9:=hide hn;have HL:=hide hl;clear hb bel hn;go_wp2_with fail;go_ret;exact ⟨_,by rw [List.length_set,List.length_set];exact HL.out,rfl,(HB.out.put 8190 0 (by decide)).put 8191 224 (by decide),(N9.out.set _ _ (by decide)).set _ _ (by decide),by rw [zzL _ _ (by decide),zzM _ _ (by rw [HL.out];decide)],zzM _ _ (by rw [List.length_set,HL.out];decide),(BL.out.setCell (Nat.le_refl _) _).setCell (Nat.le_refl _) _⟩
end Go.Proofs.YtdiidjehdginnaaGreatDoor.L25
namespace Go.Proofs.YtdiidjehdginnaaGreatDoor
set_option maxHeartbeats 4000000
set_option maxRecDepth 20000
open B4 C3 G6 I11 J23 K9 L24 L25 M5 N8 P22 R15 T10 V12 W13
open Go.ChangeShapes Go.WideShapes Go.RowKit
set_option linter.unusedVariables false
variable {W:World}
abbrev zbV:List (String×DataW Unit):=[("phosphor/block.names",Rows.laid_phosphor_block_names),("phosphor/block.paths",Rows.laid_phosphor_block_paths),("phosphor/region.portPlaces",Rows.laid_phosphor_region_portPlaces),("phosphor/regs.mayHave",Rows.laid_phosphor_regs_mayHave),("phosphor/volume.levels",Rows.laid_phosphor_volume_levels),("phosphor/card.classes",Rows.laid_phosphor_card_classes),("phosphor/irq.vectors",Rows.laid_phosphor_irq_vectors),("phosphor/cpu.videoPorts",Rows.laid_phosphor_cpu_videoPorts),("phosphor/sprites.heights",Rows.laid_phosphor_sprites_heights)]
abbrev zgY:List (String×DataW Unit):=[("phosphor/block.names",Rows.laid_phosphor_block_names),("phosphor/block.paths",Rows.laid_phosphor_block_paths),("phosphor/region.portPlaces",Rows.laid_phosphor_region_portPlaces),("phosphor/regs.mayHave",Rows.laid_phosphor_regs_mayHave),("phosphor/volume.levels",Rows.laid_phosphor_volume_levels),("errors.errorType",Rows.laid_errors_errorType),("phosphor/card.classes",Rows.laid_phosphor_card_classes),("phosphor/irq.vectors",Rows.laid_phosphor_irq_vectors),("phosphor/cpu.videoPorts",Rows.laid_phosphor_cpu_videoPorts),("phosphor/sprites.heights",Rows.laid_phosphor_sprites_heights)]
theorem Tryz.gNames:Tryz.prog.globalNamed "phosphor/block.names"=some 7:=by kernel_rfl
theorem Tryz.tNames:(Tryz.prog.globals[7]?).map (·.type)=some 305:=by kernel_rfl
theorem zqf:flat Tryz.prog 40 305 Rows.laid_phosphor_block_names=some zgd.toList:=by kernel_rfl
theorem Tryz.gPaths:Tryz.prog.globalNamed "phosphor/block.paths"=some 8:=by kernel_rfl
theorem Tryz.tPaths:(Tryz.prog.globals[8]?).map (·.type)=some 306:=by kernel_rfl
theorem zqg:flat Tryz.prog 40 306 Rows.laid_phosphor_block_paths=some zgc.toList:=by kernel_rfl
theorem Tryz.gReg:Tryz.prog.globalNamed "phosphor/region.portPlaces"=some 5:=by kernel_rfl
theorem Tryz.tReg:(Tryz.prog.globals[5]?).map (·.type)=some 39:=by kernel_rfl
theorem zwq:flat Tryz.prog 40 39 Rows.laid_phosphor_region_portPlaces=some zey.toList:=by kernel_rfl
theorem Tryz.gMask:Tryz.prog.globalNamed "phosphor/regs.mayHave"=some 2:=by kernel_rfl
theorem Tryz.tMask:(Tryz.prog.globals[2]?).map (·.type)=some 30:=by kernel_rfl
theorem ztH:flat Tryz.prog 40 30 Rows.laid_phosphor_regs_mayHave=some zez.toList:=by kernel_rfl
theorem Tryz.gTab:Tryz.prog.globalNamed "phosphor/card.classes"=some 1:=by kernel_rfl
theorem Tryz.tTab:(Tryz.prog.globals[1]?).map (·.type)=some 187:=by kernel_rfl
theorem zwr:flat Tryz.prog 40 187 Rows.laid_phosphor_card_classes=some zeS.toList:=by kernel_rfl
theorem Tryz.gVec:Tryz.prog.globalNamed "phosphor/irq.vectors"=some 3:=by kernel_rfl
theorem Tryz.tVec:(Tryz.prog.globals[3]?).map (·.type)=some 235:=by kernel_rfl
theorem zws:flat Tryz.prog 40 235 Rows.laid_phosphor_irq_vectors=some zeZ.toList:=by kernel_rfl
theorem Tryz.gVid:Tryz.prog.globalNamed "phosphor/cpu.videoPorts"=some 4:=by kernel_rfl
theorem Tryz.tVid:(Tryz.prog.globals[4]?).map (·.type)=some 248:=by kernel_rfl
theorem zwt:flat Tryz.prog 40 248 Rows.laid_phosphor_cpu_videoPorts=some zhD.toList:=by kernel_rfl
theorem Tryz.gErr:Tryz.prog.globalNamed "errors.errorType"=some 0:=by kernel_rfl
theorem Tryz.rt:(Tryz.prog.cutTypes.find? (·.1== "internal/reflectlite.rtype")).map (·.2)=some 173:=by kernel_rfl
theorem Tryz.oneRow:((List.range 349).filter fun t=>Tryz.prog.rowNamed t [101,114,114,111,114])=[92]:=by kernel_rfl
theorem Tryz.size:Tryz.prog.types.size=349:=by kernel_rfl
theorem zjx (h:laidMet Tryz.prog zbV W):∃t fr,W.heap[7]? = some (.cells zgd t fr):=by
 obtain ⟨ps,⟨g,t,cs,fuel,p,q,e1,e2,e3,e4,x,_⟩,_⟩:=h;clear x;obtain rfl:=Option.some.inj (Tryz.gNames.symm.trans e1);obtain rfl:=Option.some.inj (Tryz.tNames.symm.trans e2);have hc:=zeb 40 fuel 305 _ _ _ _ zqf e4;have hc2:cs=zgd:=Array.toList_inj.1 hc;subst hc2;simp only [World.var?,Tryz.gNames,Option.bind_some] at e3;split at e3
 ·rename_i cs' t' fr hh;obtain rfl:=Option.some.inj e3;exact ⟨t',fr,hh⟩
 ·cases e3
theorem zjy (h:laidMet Tryz.prog zbV W):∃t fr,W.heap[8]? = some (.cells zgc t fr):=by
 obtain ⟨ps,⟨g,t,cs,fuel,p,q,e1,e2,e3,e4,x,_⟩,_⟩:=h;obtain ⟨g,t,cs,fuel,p,q,e1,e2,e3,e4,x,_⟩:=x;clear x;obtain rfl:=Option.some.inj (Tryz.gPaths.symm.trans e1);obtain rfl:=Option.some.inj (Tryz.tPaths.symm.trans e2);have hc:=zeb 40 fuel 306 _ _ _ _ zqg e4;have hc2:cs=zgc:=Array.toList_inj.1 hc;subst hc2;simp only [World.var?,Tryz.gPaths,Option.bind_some] at e3;split at e3
 ·rename_i cs' t' fr hh;obtain rfl:=Option.some.inj e3;exact ⟨t',fr,hh⟩
 ·cases e3
theorem zoe (h:laidMet Tryz.prog zbV W):∃t fr,W.heap[5]? = some (.cells zey t fr):=by
 obtain ⟨ps,⟨g,t,cs,fuel,p,q,e1,e2,e3,e4,x,_⟩,_⟩:=h;obtain ⟨g,t,cs,fuel,p,q,e1,e2,e3,e4,x,_⟩:=x;obtain ⟨g,t,cs,fuel,p,q,e1,e2,e3,e4,x,_⟩:=x;clear x;obtain rfl:=Option.some.inj (Tryz.gReg.symm.trans e1);obtain rfl:=Option.some.inj (Tryz.tReg.symm.trans e2);have hc:=zeb 40 fuel 39 _ _ _ _ zwq e4;have hc2:cs=zey:=Array.toList_inj.1 hc;subst hc2;simp only [World.var?,Tryz.gReg,Option.bind_some] at e3;split at e3
 ·rename_i cs' t' fr hh;obtain rfl:=Option.some.inj e3;exact ⟨t',fr,hh⟩
 ·cases e3
theorem zlT (h:laidMet Tryz.prog zbV W):∃t fr,W.heap[2]? = some (.cells zez t fr):=by
 obtain ⟨ps,⟨g,t,cs,fuel,p,q,e1,e2,e3,e4,x,_⟩,_⟩:=h;obtain ⟨g,t,cs,fuel,p,q,e1,e2,e3,e4,x,_⟩:=x;obtain ⟨g,t,cs,fuel,p,q,e1,e2,e3,e4,x,_⟩:=x;obtain ⟨g,t,cs,fuel,p,q,e1,e2,e3,e4,x,_⟩:=x;clear x;obtain rfl:=Option.some.inj (Tryz.gMask.symm.trans e1);obtain rfl:=Option.some.inj (Tryz.tMask.symm.trans e2);have hc:=zeb 40 fuel 30 _ _ _ _ ztH e4;have hc2:cs=zez:=Array.toList_inj.1 hc;subst hc2;simp only [World.var?,Tryz.gMask,Option.bind_some] at e3;split at e3
 ·rename_i cs' t' fr hh;obtain rfl:=Option.some.inj e3;exact ⟨t',fr,hh⟩
 ·cases e3
theorem zof (h:laidMet Tryz.prog zbV W):∃t fr,W.heap[1]? = some (.cells zeS t fr):=by
 obtain ⟨ps,⟨g,t,cs,fuel,p,q,e1,e2,e3,e4,x,_⟩,_⟩:=h;obtain ⟨g,t,cs,fuel,p,q,e1,e2,e3,e4,x,_⟩:=x;obtain ⟨g,t,cs,fuel,p,q,e1,e2,e3,e4,x,_⟩:=x;obtain ⟨g,t,cs,fuel,p,q,e1,e2,e3,e4,x,_⟩:=x;obtain ⟨g,t,cs,fuel,p,q,e1,e2,e3,e4,x,_⟩:=x;obtain ⟨g,t,cs,fuel,p,q,e1,e2,e3,e4,x,_⟩:=x;clear x;obtain rfl:=Option.some.inj (Tryz.gTab.symm.trans e1);obtain rfl:=Option.some.inj (Tryz.tTab.symm.trans e2);have hc:=zeb 40 fuel 187 _ _ _ _ zwr e4;have hc2:cs=zeS:=Array.toList_inj.1 hc;subst hc2;simp only [World.var?,Tryz.gTab,Option.bind_some] at e3;split at e3
 ·rename_i cs' t' fr hh;obtain rfl:=Option.some.inj e3;exact ⟨t',fr,hh⟩
 ·cases e3
theorem zog (h:laidMet Tryz.prog zbV W):∃t fr,W.heap[3]? = some (.cells zeZ t fr):=by
 obtain ⟨ps,⟨g,t,cs,fuel,p,q,e1,e2,e3,e4,x,_⟩,_⟩:=h;obtain ⟨g,t,cs,fuel,p,q,e1,e2,e3,e4,x,_⟩:=x;obtain ⟨g,t,cs,fuel,p,q,e1,e2,e3,e4,x,_⟩:=x;obtain ⟨g,t,cs,fuel,p,q,e1,e2,e3,e4,x,_⟩:=x;obtain ⟨g,t,cs,fuel,p,q,e1,e2,e3,e4,x,_⟩:=x;obtain ⟨g,t,cs,fuel,p,q,e1,e2,e3,e4,x,_⟩:=x;obtain ⟨g,t,cs,fuel,p,q,e1,e2,e3,e4,x,_⟩:=x;clear x;obtain rfl:=Option.some.inj (Tryz.gVec.symm.trans e1);obtain rfl:=Option.some.inj (Tryz.tVec.symm.trans e2);have hc:=zeb 40 fuel 235 _ _ _ _ zws e4;have hc2:cs=zeZ:=Array.toList_inj.1 hc;subst hc2;simp only [World.var?,Tryz.gVec,Option.bind_some] at e3;split at e3
 ·rename_i cs' t' fr hh;obtain rfl:=Option.some.inj e3;exact ⟨t',fr,hh⟩
 ·cases e3
theorem zoh (h:laidMet Tryz.prog zbV W):∃t fr,W.heap[4]? = some (.cells zhD t fr):=by
 obtain ⟨ps,⟨g,t,cs,fuel,p,q,e1,e2,e3,e4,x,_⟩,_⟩:=h;obtain ⟨g,t,cs,fuel,p,q,e1,e2,e3,e4,x,_⟩:=x;obtain ⟨g,t,cs,fuel,p,q,e1,e2,e3,e4,x,_⟩:=x;obtain ⟨g,t,cs,fuel,p,q,e1,e2,e3,e4,x,_⟩:=x;obtain ⟨g,t,cs,fuel,p,q,e1,e2,e3,e4,x,_⟩:=x;obtain ⟨g,t,cs,fuel,p,q,e1,e2,e3,e4,x,_⟩:=x;obtain ⟨g,t,cs,fuel,p,q,e1,e2,e3,e4,x,_⟩:=x;obtain ⟨g,t,cs,fuel,p,q,e1,e2,e3,e4,x,_⟩:=x;clear x;obtain rfl:=Option.some.inj (Tryz.gVid.symm.trans e1);obtain rfl:=Option.some.inj (Tryz.tVid.symm.trans e2);have hc:=zeb 40 fuel 248 _ _ _ _ zwt e4;have hc2:cs=zhD:=Array.toList_inj.1 hc;subst hc2;simp only [World.var?,Tryz.gVid,Option.bind_some] at e3;split at e3
 ·rename_i cs' t' fr hh;obtain rfl:=Option.some.inj e3;exact ⟨t',fr,hh⟩
 ·cases e3
def zhH:Array Value:=#[.int .i64 1024,.int .i64 862,.int .i64 725,.int .i64 610,.int .i64 513,.int .i64 432,.int .i64 363,.int .i64 306,.int .i64 257,.int .i64 216,.int .i64 182,.int .i64 153,.int .i64 129,.int .i64 108,.int .i64 91,.int .i64 77,.int .i64 65,.int .i64 54,.int .i64 46,.int .i64 38,.int .i64 32,.int .i64 27,.int .i64 23,.int .i64 19,.int .i64 16,.int .i64 14,.int .i64 11,.int .i64 10,.int .i64 8,.int .i64 7,.int .i64 6,.int .i64 0]
def zmP:Array Value:=#[.int .i64 16,.int .i64 32,.int .i64 64,.int .i64 64]
theorem Tryz.gLev:Tryz.prog.globalNamed "phosphor/volume.levels"=some 9:=by kernel_rfl
theorem Tryz.tLev:(Tryz.prog.globals[9]?).map (·.type)=some 44:=by kernel_rfl
theorem zwu:flat Tryz.prog 40 44 Rows.laid_phosphor_volume_levels=some zhH.toList:=by kernel_rfl
theorem Tryz.gHi:Tryz.prog.globalNamed "phosphor/sprites.heights"=some 6:=by kernel_rfl
theorem Tryz.tHi:(Tryz.prog.globals[6]?).map (·.type)=some 265:=by kernel_rfl
theorem zzN:flat Tryz.prog 40 265 Rows.laid_phosphor_sprites_heights=some zmP.toList:=by kernel_rfl
theorem zoi (h:laidMet Tryz.prog zbV W):∃t fr,W.heap[9]? = some (.cells zhH t fr):=by
 obtain ⟨ps,⟨g,t,cs,fuel,p,q,e1,e2,e3,e4,x,_⟩,_⟩:=h;obtain ⟨g,t,cs,fuel,p,q,e1,e2,e3,e4,x,_⟩:=x;obtain ⟨g,t,cs,fuel,p,q,e1,e2,e3,e4,x,_⟩:=x;obtain ⟨g,t,cs,fuel,p,q,e1,e2,e3,e4,x,_⟩:=x;obtain ⟨g,t,cs,fuel,p,q,e1,e2,e3,e4,x,_⟩:=x;clear x;obtain rfl:=Option.some.inj (Tryz.gLev.symm.trans e1);obtain rfl:=Option.some.inj (Tryz.tLev.symm.trans e2);have hc:=zeb 40 fuel 44 _ _ _ _ zwu e4;have hc2:cs=zhH:=Array.toList_inj.1 hc;subst hc2;simp only [World.var?,Tryz.gLev,Option.bind_some] at e3;split at e3
 ·rename_i cs' t' fr hh;obtain rfl:=Option.some.inj e3;exact ⟨t',fr,hh⟩
 ·cases e3
theorem zzO (h:laidMet Tryz.prog zbV W):∃t fr,W.heap[6]? = some (.cells zmP t fr):=by
 obtain ⟨ps,⟨g,t,cs,fuel,p,q,e1,e2,e3,e4,x,_⟩,_⟩:=h;obtain ⟨g,t,cs,fuel,p,q,e1,e2,e3,e4,x,_⟩:=x;obtain ⟨g,t,cs,fuel,p,q,e1,e2,e3,e4,x,_⟩:=x;obtain ⟨g,t,cs,fuel,p,q,e1,e2,e3,e4,x,_⟩:=x;obtain ⟨g,t,cs,fuel,p,q,e1,e2,e3,e4,x,_⟩:=x;obtain ⟨g,t,cs,fuel,p,q,e1,e2,e3,e4,x,_⟩:=x;obtain ⟨g,t,cs,fuel,p,q,e1,e2,e3,e4,x,_⟩:=x;obtain ⟨g,t,cs,fuel,p,q,e1,e2,e3,e4,x,_⟩:=x;obtain ⟨g,t,cs,fuel,p,q,e1,e2,e3,e4,x,_⟩:=x;clear x;obtain rfl:=Option.some.inj (Tryz.gHi.symm.trans e1);obtain rfl:=Option.some.inj (Tryz.tHi.symm.trans e2);have hc:=zeb 40 fuel 265 _ _ _ _ zzN e4;have hc2:cs=zmP:=Array.toList_inj.1 hc;subst hc2;simp only [World.var?,Tryz.gHi,Option.bind_some] at e3;split at e3
 ·rename_i cs' t' fr hh;obtain rfl:=Option.some.inj e3;exact ⟨t',fr,hh⟩
 ·cases e3
theorem zwv (h:laidMetH Tryz.prog zgY W):(Tabs W∧HasErr W∧CT W)∧10≤W.heap.size:=by
 have h':laidMet Tryz.prog zbV W∧handlesMet Tryz.prog [("errors.errorType",Rows.laid_errors_errorType)] W:=h;have q:=h'.1;have sz:10≤W.heap.size:=by
  obtain ⟨_,_,k0⟩:=zjx q;obtain ⟨_,_,k1⟩:=zjy q;obtain ⟨_,_,k2⟩:=zoe q;obtain ⟨_,_,k3⟩:=zlT q;obtain ⟨_,_,k4⟩:=zof q;obtain ⟨_,_,k5⟩:=zog q;obtain ⟨_,_,k6⟩:=zoh q;obtain ⟨_,_,k7⟩:=zoi q;obtain ⟨_,_,k8⟩:=zzO q;have:=lt_of_block k0;have:=lt_of_block k1;have:=lt_of_block k2;have:=lt_of_block k3;have:=lt_of_block k4;have:=lt_of_block k5;have:=lt_of_block k6;have:=lt_of_block k7;have:=lt_of_block k8;omega
 refine ⟨⟨⟨zof q,zoe q,zlT q⟩,?_,⟨zog q,zjy q,zjx q,zoh q⟩⟩,sz⟩;obtain ⟨name,u,ty,e1,e2,e3,e4,e5⟩:=h'.2 _ (List.mem_singleton.2 rfl);have en:name=[101,114,114,111,114]:=(Option.some.inj e1).symm;subst en;obtain rfl:=Option.some.inj (Tryz.rt.symm.trans e2);have hm:ty ∈ (List.range 349).filter fun t=>Tryz.prog.rowNamed t [101,114,114,111,114]:=List.mem_filter.2 ⟨List.mem_range.2 (by rw [←Tryz.size];exact e3),e4⟩
 rw [Tryz.oneRow] at hm;obtain rfl:=List.mem_singleton.1 hm;have hh:typeHandle Tryz.prog 92=.pointer (some ⟨10,92,none⟩):=by kernel_rfl
 rw [hh] at e5;unfold HasErr
 simpa using World.var?_cell Tryz.gErr e5 0
noncomputable def zlU (os:Os):World:=
 let w0:=World.holding Tryz.prog os ⟨#[],#[],[]⟩
 { w0 with heap:=(((((((((w0.heap.modify 0 fun
  |.cells _ t frozen=>.cells #[.iface 173 (.agg #[.pointer (some ⟨10,92,none⟩)])] t frozen
  |o=>o).modify 7 fun
  |.cells _ t frozen=>.cells zgd t frozen
  |o=>o).modify 8 fun
  |.cells _ t frozen=>.cells zgc t frozen
  |o=>o).modify 5 fun
  |.cells _ t frozen=>.cells zey t frozen
  |o=>o).modify 2 fun
  |.cells _ t frozen=>.cells zez t frozen
  |o=>o).modify 1 fun
  |.cells _ t frozen=>.cells zeS t frozen
  |o=>o).modify 3 fun
  |.cells _ t frozen=>.cells zeZ t frozen
  |o=>o).modify 4 fun
  |.cells _ t frozen=>.cells zhD t frozen
  |o=>o).modify 9 fun
  |.cells _ t frozen=>.cells zhH t frozen
  |o=>o).modify 6 fun
  |.cells _ t frozen=>.cells zmP t frozen
  |o=>o }
theorem zkK (os:Os) (args:Array Value):laidMetH Tryz.prog zgY ((zlU os).forCall (fun _ _=>0) ⟨#[],args,[]⟩).memory:=
 laidMetH_of_parts (laidMet_of_run' 8 (by kernel_rfl) (by kernel_rfl)) (by kernel_rfl)
end Go.Proofs.YtdiidjehdginnaaGreatDoor
