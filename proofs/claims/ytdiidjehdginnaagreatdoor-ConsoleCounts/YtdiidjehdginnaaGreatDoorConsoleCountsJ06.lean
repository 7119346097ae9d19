/- Texts put together. -/
import Derived.Test.YtdiidjehdginnaaGreatDoorConsoleCountsJ03
import Derived.Test.YtdiidjehdginnaaGreatDoorConsoleCountsJ02
import Derived.Test.YtdiidjehdginnaaGreatDoorConsoleCountsJ05
import Derived.Test.YtdiidjehdginnaaGreatDoorConsoleCountsJ01
import Derived.Handy
import Derived.Test.YtdiidjehdginnaaGreatDoorProg
import Derived.RegionTactic
import Derived.Deep.RegionLaw
import Derived.Stop.Asserts
import Derived.Laws.CopyOwn
import Derived.Test.YtdiidjehdginnaaGreatDoorRows
import Derived.Test.YtdiidjehdginnaaGreatDoorConsoleCountsJ04
import Derived.Laws.StructEq
import Derived.Laws.Rows
import Derived.Laws.Tables
import Derived.Laws.ResultCell
import Derived.WalkMore
import Derived.WalkKit
import Derived.Below
import Derived.OneCell
namespace Go.Proofs.YtdiidjehdginnaaGreatDoor.L24
set_option maxHeartbeats 4000000
set_option maxRecDepth 20000
open C3 G6 P22 R15 W13
open Go.RowKit
set_option linter.unusedVariables false
variable {L:List (Nat×(Nat→Value))}
def pl:List (Nat×(Nat→Value))→List Value
 |[]=>[]
 |(n,f)::r=>(List.range n).map f++pl r
theorem zwP:∀A B,pl (A++B)=pl A++pl B
 |[],B=>rfl
 |(n,f)::r,B=>by
  show (List.range n).map f++pl (r++B)=((List.range n).map f++pl r)++pl B;rw [zwP r B,List.append_assoc]
def psum:List (Nat×(Nat→Value))→Nat
 |[]=>0
 |(n,_)::r=>n+psum r
theorem zmm:∀L:List (Nat×(Nat→Value)),(List.range (psum L)).map (segs L)=pl L
 |[]=>rfl
 |(n,f)::r=>by
  show (List.range (n+psum r)).map (segs ((n,f)::r))=(List.range n).map f++pl r;rw [List.range_add,List.map_append,List.map_map,←zmm r]
  congr 1
  ·apply List.map_congr_left;intro j hj;rw [zcd,if_pos (List.mem_range.1 hj)]
  ·apply List.map_congr_left;intro j _;show segs ((n,f)::r) (n+j)=segs r j;rw [zcd,if_neg (by omega),show n+j-n=j by omega]
theorem zAC (L:List (Nat×(Nat→Value))) {N:Nat} (h:psum L=N):rowF (segs L) N=(pl L).toArray:=by
 subst h;apply Array.toList_inj.1;rw [zfJ,←zmm]
theorem znq:∀(L:List (Nat×(Nat→Value))) (k n:Nat) (s:Nat→Value),L[k]? = some (n,s)→∃A C,pl L=A++((List.range n).map s++C)∧A.length=soff L k∧∀s',pl (L.set k (n,s'))=A++((List.range n).map s'++C)
 |[],k,n,s,h=>by simp at h
 |(m,g)::r,0,n,s,h=>by
  obtain ⟨rfl,rfl⟩:m=n∧g=s:=by simpa using h
  exact ⟨[],pl r,rfl,rfl,fun s'=>rfl⟩
 |(m,g)::r,k+1,n,s,h=>by
  obtain ⟨A,C,e1,e2,e3⟩:=znq r k n s (by simpa using h);refine ⟨(List.range m).map g++A,C,?_,?_,fun s'=>?_⟩
  ·show (List.range m).map g++pl r=_;rw [e1,List.append_assoc]
  ·rw [List.length_append,List.length_map,List.length_range,e2,zfK]
  ·rw [List.set_cons_succ];show (List.range m).map g++pl (r.set k (n,s'))=_;rw [e3,List.append_assoc]
theorem fold_put (off:Nat):∀(cs B A C:List Value) (k:Nat),B.length=cs.length→A.length=off+k→(cs.zipIdx k).foldl (fun (acc:Array Value) (p:Value×Nat)=>acc.setIfInBounds (off+p.2) p.1) (A++(B++C)).toArray=(A++(cs++C)).toArray
 |[],B,A,C,k,h,_=>by
  cases B with
  |nil=>rfl
  |cons b B=>cases h
 |c::cs,B,A,C,k,h,hA=>by
  cases B with
  |nil=>cases h
  |cons b B=>
   rw [List.zipIdx_cons,List.foldl_cons];have e:(A++(b::B++C)).toArray.setIfInBounds (off+k) c=((A++[c])++(B++C)).toArray:=by
    rw [←hA,List.setIfInBounds_toArray,List.set_append_right _ _ (Nat.le_refl _),Nat.sub_self];simp
   show List.foldl _ ((A++(b::B++C)).toArray.setIfInBounds (off+k) c) _=_;rw [e,fold_put off cs B (A++[c]) C (k+1) (by simpa using h) (by simp;omega)];simp
theorem zfT {place:Nat→Option (Nat×Nat)} {i off size:Nat} {v:Value} {rest:List (Nat×Value)} (k:Nat) {s s':Nat→Value} (hk:L[k]? = some (size,s)) (ho:soff L k=off) (hp:place i=some (off,size)) (hv:v.cells=rowF s' size):
  Instr.fill place (pl L).toArray ((i,v)::rest)=Instr.fill place (pl (L.set k (size,s'))).toArray rest:=by
 obtain ⟨A,C,e1,e2,e3⟩:=znq L k size s hk;have hs:v.cells.size=size:=by rw [hv,zai]
 rw [Instr.fill,hp];simp only [hs];rw [e1,e3 s',if_neg (by simp [e2,ho])]
 congr 1
 rw [←Array.foldl_toList,Array.toList_zipIdx,hv,zfJ];exact fold_put off _ _ A C 0 (by simp) (by omega)
def zyd:Value→Value→Bool
 |.int .i64 a,.int .i64 b=>decide (a=b)
 |.int .u8 a,.int .u8 b=>decide (a=b)
 |.bool a,.bool b=>a==b
 |.pointer none,.pointer none=>true
 |_,_=>false
theorem zuO {a b:Value} (h:zyd a b=true):b=a:=by
 unfold zyd at h;split at h
 ·rw [of_decide_eq_true h]
 ·rw [of_decide_eq_true h]
 ·rw [eq_of_beq h]
 ·rfl
 ·cases h
def zoT:Nat→Nat→(Nat→Value)→List Value→Option (List Value)
 |0,_,_,xs=>some xs
 |n+1,i,f,x::xs=>match zyd (f i) x with|true=>zoT n (i+1) f xs|false=>none
 |_+1,_,_,[]=>none
theorem znr:∀(n i:Nat) (f:Nat→Value) (xs ys:List Value),zoT n i f xs=some ys→xs=(List.range' i n).map f++ys
 |0,i,f,xs,ys,h=>by
  obtain rfl:xs=ys:=by simpa [zoT] using h
  rfl
 |n+1,i,f,[],ys,h=>by simp [zoT] at h
 |n+1,i,f,x::xs,ys,h=>by
  unfold zoT at h;split at h
  ·rename_i e;rw [zuO e,znr n (i+1) f xs ys h,List.range'_succ];rfl
  ·cases h
def chkB:List (Nat×(Nat→Value))→List Value→Bool
 |[],[]=>true
 |[],_::_=>false
 |(n,f)::r,xs=>match zoT n 0 f xs with|some ys=>chkB r ys|none=>false
theorem zrv:∀(L:List (Nat×(Nat→Value))) (xs:List Value),chkB L xs=true→xs=pl L
 |[],[],_=>rfl
 |[],x::xs,h=>by simp [chkB] at h
 |(n,f)::r,xs,h=>by
  unfold chkB at h;split at h
  ·rename_i ys e;rw [znr n 0 f xs ys e,zrv r ys h,←List.range_eq_range'];rfl
  ·cases h
def zrw (L:List (Nat×(Nat→Value))):Option Value→Bool|some (.agg ⟨xs⟩)=>chkB L xs|_=>false
theorem zoU {v:Option Value} (h:zrw L v=true):v=some (.agg (pl L).toArray):=by
 unfold zrw at h;split at h
 ·rw [zrv _ _ h]
 ·cases h
def t0C:Nat→Value:=fun j=>if j=2 then .bool false else .int .i64 0
def p0C:Nat→Value:=fun j=>if j<3 then .bool false else .int .i64 0
def a0C:Nat→Value:=fun j=>if j%2=0 then .int .i64 0 else .bool false
def fl0:Nat→Int:=fun j=>if j=1 then 248 else 0
def LR (cp:Value) (fl ps:Nat→Int) (hd:Int):List (Nat×(Nat→Value)):=
 [(1,fun _=>cp),(1,fun _=>.int .i64 0),(8192,fun _=>.int .u8 0),(8,iv fl),(514,iv fun _=>0),(244,iv ps),(4,t0C),(2,iv fun _=>0),(4,p0C),(10,a0C),(1,fun _=>.int .i64 hd),(1,fun _=>.int .i64 0)]
def LVp (vp:Value):List (Nat×(Nat→Value)):=[(21,iv fun _=>0),(1,fun _=>vp),(256,iv fun _=>0),(1,fun _=>.int .i64 0),(1,fun _=>.bool false),(1,fun _=>.bool false)]
def LV (v:Nat):List (Nat×(Nat→Value)):=LVp (.pointer (some ⟨v,0,none⟩))
def LB (v c:Nat):List (Nat×(Nat→Value)):=LV v++LR (.pointer (some ⟨c,0,none⟩)) fl0 zcO 255
def L0:List (Nat×(Nat→Value)):=LVp (.pointer none)++LR (.pointer none) (fun _=>0) (fun _=>0) 0
theorem zuP:Tryz.t60.zero=some (.agg (pl L0).toArray):=zoU (by kernel_rfl)
theorem zns (vp:Value) (R:List (Nat×(Nat→Value))):pl (LVp vp++R)=pl ((281,segs (LVp vp))::R):=by
 rw [zwP,←zmm (LVp vp)];rfl
set_option maxRecDepth 100000 in
theorem zrx (parts:List (Nat×Value)):Tryz.prog.built 60 parts=Instr.fill (fun i=>#[(0,281),(281,1),(282,1),(283,8192),(8475,8),(8483,514),(8997,244),(9241,4),(9245,2),(9247,4),(9251,10),(9261,1),(9262,1)][i]?) (pl L0).toArray parts:=by
 have h1:Tryz.prog.info? 60=some Tryz.t60:=by kernel_rfl
 unfold Program.built;simp only [h1,Tryz.underlying60,zuP];rfl
theorem zye (v:Nat) (w:World):(Instr.build 36 #[(0,.agg (rowG 0 fun _=>0)),(1,.pointer (some ⟨v,0,none⟩))]).run Tryz.prog w=.ok (.agg (rowF (segs (LV v)) 281)) w:=run_build w _ _ _ (by kernel_rfl)
theorem zuQ (p:Nat→Option (Nat×Nat)) (c:Array Value):Instr.fill p c []=some c:=by rw [Instr.fill]
theorem zry (place:Nat→Option (Nat×Nat)) (p0:place 0=some (0,281)) (p1:place 1=some (281,1)) (p4:place 4=some (8475,8)) (p6:place 6=some (8997,244)) (p11:place 11=some (9261,1)) (s s':Nat→Value) (cp:Value) (hc:cp.cells=#[cp]):
  Instr.fill place (pl ((281,s)::LR (.pointer none) (fun _=>0) (fun _=>0) 0)).toArray [(0,.agg (rowF s' 281)),(1,cp),(4,.agg (rowF (iv fl0) 8)),(6,.agg (rowF (iv zcO) 244)),(11,.int .i64 255)]=some (pl ((281,s')::LR cp fl0 zcO 255)).toArray:=by
 rw [zfT 0 (size:=281) (off:=0) rfl (of_decide_eq_true (by kernel_rfl)) p0 (s':=s') rfl];rw [zfT 1 (size:=1) (off:=281) rfl (of_decide_eq_true (by kernel_rfl)) p1 (s':=fun _=>cp) hc];rw [zfT 4 (size:=8) (off:=8475) rfl (of_decide_eq_true (by kernel_rfl)) p4 (s':=iv fl0) rfl];rw [zfT 6 (size:=244) (off:=8997) rfl (of_decide_eq_true (by kernel_rfl)) p6 (s':=iv zcO) rfl];rw [zfT 11 (size:=1) (off:=9261) rfl (of_decide_eq_true (by kernel_rfl)) p11 (s':=fun _=>.int .i64 255) rfl];rw [zuQ];refine congrArg (fun L=>some (pl L).toArray) ?_;rfl
theorem zAD (v c:Nat):psum (LB v c)=9263:=of_decide_eq_true (by kernel_rfl)
theorem zuR (v c:Nat):pl (LB v c)=pl ((281,segs (LV v))::LR (.pointer (some ⟨c,0,none⟩)) fl0 zcO 255):=zns _ _
theorem zuS:pl L0=pl ((281,segs (LVp (.pointer none)))::LR (.pointer none) (fun _=>0) (fun _=>0) 0):=zns _ _
theorem zyf (v c:Nat) (w:World):(Instr.build 60 #[(0,.agg (rowF (segs (LV v)) 281)),(1,.pointer (some ⟨c,0,none⟩)),(4,.agg (rowF (iv fl0) 8)),(6,.agg (rowF (iv zcO) 244)),(11,.int .i64 255)]).run Tryz.prog w=.ok (.agg (rowF (segs (LB v c)) 9263)) w:=by
 have e1:rowF (segs (LB v c)) 9263=(pl (LB v c)).toArray:=zAC (LB v c) (zAD v c);have e2:=zrx [(0,.agg (rowF (segs (LV v)) 281)),(1,.pointer (some ⟨c,0,none⟩)),(4,.agg (rowF (iv fl0) 8)),(6,.agg (rowF (iv zcO) 244)),(11,.int .i64 255)];rw [zuS,zry _ rfl rfl rfl rfl rfl _ _ _ rfl,←zuR,←e1] at e2;exact run_build w _ _ _ e2
end Go.Proofs.YtdiidjehdginnaaGreatDoor.L24
namespace Go.Proofs.YtdiidjehdginnaaGreatDoor.M5
set_option maxHeartbeats 4000000
set_option maxRecDepth 20000
open Go.RowKit
set_option linter.unusedVariables false
def zll (f:Nat→Int) (a:Int):Int:=f (a%65536/8192).toNat%256*8192+a%8192
def zce (f:Nat→Int) (m b:Int) (k:Nat):Int:=if zaV m k=1 then b%256 else f k
def zcF (f:Nat→Int) (m b:Int) (k j:Nat):Int:=if j<k then zce f m b j else f j
def zes (f:Nat→Int) (k j:Nat):Int:=if j<k then f j%256 else f j
theorem nine {k:Nat} (h:k≤8):k=0∨k=1∨k=2∨k=3∨k=4∨k=5∨k=6∨k=7∨k=8:=by omega
theorem zuT (f:Nat→Int) (a:Int) (w:World):Calls Tryz.prog 229 #[.agg #[.int .i64 (f 0),.int .i64 (f 1),.int .i64 (f 2),.int .i64 (f 3),.int .i64 (f 4),.int .i64 (f 5),.int .i64 (f 6),.int .i64 (f 7)],.int .i64 a] w fun e w'=>e=.returned (.int .i64 (zll f a))∧Below w.heap.size w w':=by
 have e:zll f a=f (a%65536/8192).toNat%256*8192+a%8192:=rfl;have h:a%65536/8192=0∨a%65536/8192=1∨a%65536/8192=2∨a%65536/8192=3∨a%65536/8192=4∨a%65536/8192=5∨a%65536/8192=6∨a%65536/8192=7:=by omega
 rcases h with h|h|h|h|h|h|h|h
 all_goals
  have E:=hide e;rw [h] at E;clear e;go_enter Tryz.func229,Tryz.ntmps229
  go_wp2_with (first
   |(go_at_call 86;refine (zaU _ _).mono ?_;rintro e w' ⟨rfl,rfl⟩)
   |(go_at_call 69;refine (zam _ _).mono ?_;rintro e w' ⟨rfl,rfl⟩))
  go_ret;exact ⟨zat E.out.symm,(Below.refl _ w).alloc (Nat.le_refl _) _⟩
theorem fresh_any (w:World):Calls Tryz.prog 35 #[] w fun e w'=>e=.returned (.agg #[.int .i64 0,.int .i64 248,.int .i64 0,.int .i64 0,.int .i64 0,.int .i64 0,.int .i64 0,.int .i64 0])∧Below w.heap.size w w':=by
 go_enter Tryz.func35,Tryz.ntmps35;go_wp2;go_returns;exact ⟨rfl,(Below.refl _ w).alloc (Nat.le_refl _) _⟩
theorem tam_any (f:Nat→Int) (m b:Int) (w:World):Calls Tryz.prog 34 #[.agg #[.int .i64 (f 0),.int .i64 (f 1),.int .i64 (f 2),.int .i64 (f 3),.int .i64 (f 4),.int .i64 (f 5),.int .i64 (f 6),.int .i64 (f 7)],.int .i64 m,.int .i64 b] w fun e w'=>e=.returned (.agg #[.int .i64 (zce f m b 0),.int .i64 (zce f m b 1),.int .i64 (zce f m b 2),.int .i64 (zce f m b 3),.int .i64 (zce f m b 4),.int .i64 (zce f m b 5),.int .i64 (zce f m b 6),.int .i64 (zce f m b 7)])∧Below w.heap.size w w':=by
 go_enter Tryz.func34,Tryz.ntmps34;go_wp2;go_loopw [8] (fun i w'=>∃k:Nat,k≤8∧i=.int .i64 k∧w'=(w.alloc (.cells #[.int .i64 (zcF f m b k 0),.int .i64 (zcF f m b k 1),.int .i64 (zcF f m b k 2),.int .i64 (zcF f m b k 3),.int .i64 (zcF f m b k 4),.int .i64 (zcF f m b k 5),.int .i64 (zcF f m b k 6),.int .i64 (zcF f m b k 7)] 40)).alloc (.cells #[.int .i64 0,.int .i64 0,.int .i64 0,.int .i64 0,.int .i64 0,.int .i64 0,.int .i64 0,.int .i64 0] 40)) (fun i _=>8-(intOf i).toNat)
 case atStart=>exact ⟨0,Nat.zero_le _,rfl,by simp [zcF]⟩
 case round=>
  obtain ⟨k,hk,rfl,rfl⟩:=hrel;rcases nine hk with rfl|rfl|rfl|rfl|rfl|rfl|rfl|rfl|rfl
  ·by_cases hb:zaV m 0=1
   ·have HQ:Hid (zce f m b 0=b%256):=if_pos hb
    go_wp2_with (first
     |(go_at_call 68;refine (zaZ _ _ _).mono ?_;rintro e w' ⟨rfl,rfl⟩)
     |(go_at_call 69;refine (zam _ _).mono ?_;rintro e w' ⟨rfl,rfl⟩))
    exact ⟨⟨0+1,by decide,rfl,by simp [zcF,HQ.out]⟩,by simp [intOf]⟩
   ·have HQ:Hid (zce f m b 0=f 0):=if_neg hb
    go_wp2_with (first
     |(go_at_call 68;refine (zaZ _ _ _).mono ?_;rintro e w' ⟨rfl,rfl⟩)
     |(go_at_call 69;refine (zam _ _).mono ?_;rintro e w' ⟨rfl,rfl⟩))
    exact ⟨⟨0+1,by decide,rfl,by simp [zcF,HQ.out]⟩,by simp [intOf]⟩
  ·by_cases hb:zaV m 1=1
   ·have HQ:Hid (zce f m b 1=b%256):=if_pos hb
    go_wp2_with (first
     |(go_at_call 68;refine (zaZ _ _ _).mono ?_;rintro e w' ⟨rfl,rfl⟩)
     |(go_at_call 69;refine (zam _ _).mono ?_;rintro e w' ⟨rfl,rfl⟩))
    exact ⟨⟨1+1,by decide,rfl,by simp [zcF,HQ.out]⟩,by simp [intOf]⟩
   ·have HQ:Hid (zce f m b 1=f 1):=if_neg hb
    go_wp2_with (first
     |(go_at_call 68;refine (zaZ _ _ _).mono ?_;rintro e w' ⟨rfl,rfl⟩)
     |(go_at_call 69;refine (zam _ _).mono ?_;rintro e w' ⟨rfl,rfl⟩))
    exact ⟨⟨1+1,by decide,rfl,by simp [zcF,HQ.out]⟩,by simp [intOf]⟩
  ·by_cases hb:zaV m 2=1
   ·have HQ:Hid (zce f m b 2=b%256):=if_pos hb
    go_wp2_with (first
     |(go_at_call 68;refine (zaZ _ _ _).mono ?_;rintro e w' ⟨rfl,rfl⟩)
     |(go_at_call 69;refine (zam _ _).mono ?_;rintro e w' ⟨rfl,rfl⟩))
    exact ⟨⟨2+1,by decide,rfl,by simp [zcF,HQ.out]⟩,by simp [intOf]⟩
   ·have HQ:Hid (zce f m b 2=f 2):=if_neg hb
    go_wp2_with (first
     |(go_at_call 68;refine (zaZ _ _ _).mono ?_;rintro e w' ⟨rfl,rfl⟩)
     |(go_at_call 69;refine (zam _ _).mono ?_;rintro e w' ⟨rfl,rfl⟩))
    exact ⟨⟨2+1,by decide,rfl,by simp [zcF,HQ.out]⟩,by simp [intOf]⟩
  ·by_cases hb:zaV m 3=1
   ·have HQ:Hid (zce f m b 3=b%256):=if_pos hb
    go_wp2_with (first
     |(go_at_call 68;refine (zaZ _ _ _).mono ?_;rintro e w' ⟨rfl,rfl⟩)
     |(go_at_call 69;refine (zam _ _).mono ?_;rintro e w' ⟨rfl,rfl⟩))
    exact ⟨⟨3+1,by decide,rfl,by simp [zcF,HQ.out]⟩,by simp [intOf]⟩
   ·have HQ:Hid (zce f m b 3=f 3):=if_neg hb
    go_wp2_with (first
     |(go_at_call 68;refine (zaZ _ _ _).mono ?_;rintro e w' ⟨rfl,rfl⟩)
     |(go_at_call 69;refine (zam _ _).mono ?_;rintro e w' ⟨rfl,rfl⟩))
    exact ⟨⟨3+1,by decide,rfl,by simp [zcF,HQ.out]⟩,by simp [intOf]⟩
  ·by_cases hb:zaV m 4=1
   ·have HQ:Hid (zce f m b 4=b%256):=if_pos hb
    go_wp2_with (first
     |(go_at_call 68;refine (zaZ _ _ _).mono ?_;rintro e w' ⟨rfl,rfl⟩)
     |(go_at_call 69;refine (zam _ _).mono ?_;rintro e w' ⟨rfl,rfl⟩))
    exact ⟨⟨4+1,by decide,rfl,by simp [zcF,HQ.out]⟩,by simp [intOf]⟩
   ·have HQ:Hid (zce f m b 4=f 4):=if_neg hb
    go_wp2_with (first
     |(go_at_call 68;refine (zaZ _ _ _).mono ?_;rintro e w' ⟨rfl,rfl⟩)
     |(go_at_call 69;refine (zam _ _).mono ?_;rintro e w' ⟨rfl,rfl⟩))
    exact ⟨⟨4+1,by decide,rfl,by simp [zcF,HQ.out]⟩,by simp [intOf]⟩
  ·by_cases hb:zaV m 5=1
   ·have HQ:Hid (zce f m b 5=b%256):=if_pos hb
    go_wp2_with (first
     |(go_at_call 68;refine (zaZ _ _ _).mono ?_;rintro e w' ⟨rfl,rfl⟩)
     |(go_at_call 69;refine (zam _ _).mono ?_;rintro e w' ⟨rfl,rfl⟩))
    exact ⟨⟨5+1,by decide,rfl,by simp [zcF,HQ.out]⟩,by simp [intOf]⟩
   ·have HQ:Hid (zce f m b 5=f 5):=if_neg hb
    go_wp2_with (first
     |(go_at_call 68;refine (zaZ _ _ _).mono ?_;rintro e w' ⟨rfl,rfl⟩)
     |(go_at_call 69;refine (zam _ _).mono ?_;rintro e w' ⟨rfl,rfl⟩))
    exact ⟨⟨5+1,by decide,rfl,by simp [zcF,HQ.out]⟩,by simp [intOf]⟩
  ·by_cases hb:zaV m 6=1
   ·have HQ:Hid (zce f m b 6=b%256):=if_pos hb
    go_wp2_with (first
     |(go_at_call 68;refine (zaZ _ _ _).mono ?_;rintro e w' ⟨rfl,rfl⟩)
     |(go_at_call 69;refine (zam _ _).mono ?_;rintro e w' ⟨rfl,rfl⟩))
    exact ⟨⟨6+1,by decide,rfl,by simp [zcF,HQ.out]⟩,by simp [intOf]⟩
   ·have HQ:Hid (zce f m b 6=f 6):=if_neg hb
    go_wp2_with (first
     |(go_at_call 68;refine (zaZ _ _ _).mono ?_;rintro e w' ⟨rfl,rfl⟩)
     |(go_at_call 69;refine (zam _ _).mono ?_;rintro e w' ⟨rfl,rfl⟩))
    exact ⟨⟨6+1,by decide,rfl,by simp [zcF,HQ.out]⟩,by simp [intOf]⟩
  ·by_cases hb:zaV m 7=1
   ·have HQ:Hid (zce f m b 7=b%256):=if_pos hb
    go_wp2_with (first
     |(go_at_call 68;refine (zaZ _ _ _).mono ?_;rintro e w' ⟨rfl,rfl⟩)
     |(go_at_call 69;refine (zam _ _).mono ?_;rintro e w' ⟨rfl,rfl⟩))
    exact ⟨⟨7+1,by decide,rfl,by simp [zcF,HQ.out]⟩,by simp [intOf]⟩
   ·have HQ:Hid (zce f m b 7=f 7):=if_neg hb
    go_wp2_with (first
     |(go_at_call 68;refine (zaZ _ _ _).mono ?_;rintro e w' ⟨rfl,rfl⟩)
     |(go_at_call 69;refine (zam _ _).mono ?_;rintro e w' ⟨rfl,rfl⟩))
    exact ⟨⟨7+1,by decide,rfl,by simp [zcF,HQ.out]⟩,by simp [intOf]⟩
  ·go_wp2;go_returns;exact ⟨by simp [zcF],((Below.refl _ w).alloc (Nat.le_refl _) _).alloc (by simp) _⟩
end Go.Proofs.YtdiidjehdginnaaGreatDoor.M5
namespace Go.Proofs.YtdiidjehdginnaaGreatDoor.C3
set_option maxHeartbeats 4000000
set_option maxRecDepth 20000
open Go.RowKit
set_option linter.unusedVariables false
variable {m:Nat}
theorem Tryz.info5:(Tryz.prog.info? 5).map (fun i=>(i.zero,i.size,i.bytes))=some (some (.int .u8 0),1,1):=by kernel_rfl
theorem znt (n:Nat) (hn:n≤281474976710656) (w:World):
  (Instr.makeSlice 24 (.int .i64 (n:Int)) (.int .i64 (n:Int))).run Tryz.prog w=.ok (.slice (some ⟨w.heap.size,0,none⟩) n n) (w.alloc (.cells ((List.replicate n (0:Int)).map (Value.int .u8)).toArray 5)):=by
 obtain ⟨i,hi,hz⟩:=Option.map_eq_some_iff.1 Tryz.info5;simp only [Prod.mk.injEq] at hz;exact zow Tryz.underlying24 hi hz.1 hz.2.1 hz.2.2 n hn w
open Go.RowKit Go.Extern.Stop Go.Stop Go.Extern
theorem zAE (t:Value) (w:World):
  Calls Tryz.prog 23 #[.nilIface,t] w fun e w'=>e=.returned (.bool false)∧w'=w:=by
 go_enter Tryz.func23,Tryz.ntmps23;go_wp2;go_ret;exact ⟨rfl,rfl⟩
theorem zmn (t:Addr) (w:World):(ReflectliteValue.unpack (.iface 94 (.pointer (some t)))).run Tryz.prog w
 = .ok (.agg #[.pointer (some ⟨10,94,none⟩),.pointer (some ⟨w.heap.size,0,none⟩),.int .u64 150]) (w.alloc (.cells #[.pointer (some t)] 94)):=by kernel_rfl
theorem zuU (a:Addr) (w:World):(ReflectliteValue.methodAny (ReflectliteValue.valueError "reflectlite.Value.Type" 0) (fun t _ _ _=>ReflectliteType.toType t) #[.agg #[.pointer (some ⟨10,94,none⟩),.pointer (some a),.int .u64 150]]).run Tryz.prog w
 = .ok (.iface 173 (.agg #[.pointer (some ⟨10,94,none⟩)])) w:=by kernel_rfl
theorem zjZ (h:Value) (w:World):(Go.method 449 173 (.agg #[h]) "Kind").run Tryz.prog w=.ok (293,h) w:=by kernel_rfl
theorem zka (h:Value) (w:World):(Go.method 449 173 (.agg #[h]) "Elem").run Tryz.prog w=.ok (306,.agg #[h]) w:=by kernel_rfl
theorem zfB (h:Value) (w:World):(Go.method 449 173 (.agg #[h]) "Implements").run Tryz.prog w=.ok (307,.agg #[h]) w:=by kernel_rfl
theorem zeE (h:Value) (w:World):(Go.method 449 173 (.agg #[h]) "AssignableTo").run Tryz.prog w=.ok (304,.agg #[h]) w:=by kernel_rfl
theorem zic (p:Option Addr) (w:World):(Go.method 449 131 (.pointer p) "Unwrap").run Tryz.prog w=.ok (302,.pointer p) w:=by kernel_rfl
theorem zuV (w:World):((ReflectliteType.abiMethod fun t=>(fun a:Nat=>Value.int IntKind.u8 (a:Int)) <$> Rtype.kind t) #[.pointer (some ⟨10,94,none⟩)]).run Tryz.prog w=.ok (.int .u8 22) w:=by kernel_rfl
theorem zuW (w:World):((ReflectliteType.abiMethod fun t=>(fun a:Nat=>Value.int IntKind.u8 (a:Int)) <$> Rtype.kind t) #[.pointer (some ⟨10,72,none⟩)]).run Tryz.prog w=.ok (.int .u8 2) w:=by kernel_rfl
theorem zuX (w:World):(ReflectliteType.method ReflectliteType.elem #[.agg #[.pointer (some ⟨10,94,none⟩)]]).run Tryz.prog w=.ok (.iface 173 (.agg #[.pointer (some ⟨10,72,none⟩)])) w:=by kernel_rfl
theorem zkb (w:World):(ReflectliteType.relation "Implements" ReflectliteType.implements_ #[.agg #[.pointer (some ⟨10,72,none⟩)],.iface 173 (.agg #[.pointer (some ⟨10,92,none⟩)])]).run Tryz.prog w=.ok (.bool true) w:=by kernel_rfl
theorem zoV (v:Value) (w:World):(ReflectliteType.typeOf #[.iface 131 v]).run Tryz.prog w=.ok (.iface 173 (.agg #[.pointer (some ⟨10,131,none⟩)])) w:=by kernel_rfl
theorem zoW (v:Value) (w:World):(ReflectliteType.typeOf #[.iface 72 v]).run Tryz.prog w=.ok (.iface 173 (.agg #[.pointer (some ⟨10,72,none⟩)])) w:=by kernel_rfl
theorem zoX (w:World):(ReflectliteType.relation "AssignableTo" ReflectliteType.assignableTo #[.agg #[.pointer (some ⟨10,131,none⟩)],.iface 173 (.agg #[.pointer (some ⟨10,72,none⟩)])]).run Tryz.prog w=.ok (.bool false) w:=by kernel_rfl
theorem zoY (w:World):(ReflectliteType.relation "AssignableTo" ReflectliteType.assignableTo #[.agg #[.pointer (some ⟨10,72,none⟩)],.iface 173 (.agg #[.pointer (some ⟨10,72,none⟩)])]).run Tryz.prog w=.ok (.bool true) w:=by kernel_rfl
theorem zmo (c:Int) (w:World):(ReflectliteValue.unpack (.iface 72 (.int .i64 c))).run Tryz.prog w
 = .ok (.agg #[.pointer (some ⟨10,72,none⟩),.pointer (some ⟨w.heap.size,0,none⟩),.int .u64 130]) (w.alloc (.cells #[.int .i64 c] 72)):=by kernel_rfl
theorem zlm (z:Sem Value) (f:TypeId→Addr→Nat→Nat→Sem Value) (a:Addr) (W:World):
 (ReflectliteValue.method z f #[.agg #[.pointer (some ⟨10,94,none⟩),.pointer (some a),.int .u64 150]]).run Tryz.prog W=(f 94 a 150 22).run Tryz.prog W:=by kernel_rfl
theorem zuY (a p:Addr) (W:World) (ha:W.cell? a=some (.pointer (some p))):
  (ReflectliteValue.method (ReflectliteValue.valueError "reflectlite.Value.IsNil" 0) ReflectliteValue.isNil #[.agg #[.pointer (some ⟨10,94,none⟩),.pointer (some a),.int .u64 150]]).run Tryz.prog W=.ok (.bool false) W:=by
 rw [zlm];simp [ReflectliteValue.isNil,loadVar,isAgg,underlying,Tryz.underlying94,ha,Result.andThen]
theorem zrz (w:World):(Rtype.elem? 94).run Tryz.prog w=.ok (some 72) w:=by kernel_rfl
theorem rl_mk (p:Addr) (w:World):(ReflectliteValue.mk 72 p ReflectliteValue.flagAddr).run Tryz.prog w=.ok (.agg #[.pointer (some ⟨10,72,none⟩),.pointer (some p),.int .u64 386]) w:=by kernel_rfl
theorem zuZ (a p:Addr) (W:World) (ha:W.cell? a=some (.pointer (some p))):
  (ReflectliteValue.method (ReflectliteValue.valueError "reflectlite.Value.Elem" 0) ReflectliteValue.elem #[.agg #[.pointer (some ⟨10,94,none⟩),.pointer (some a),.int .u64 150]]).run Tryz.prog W
   = .ok (.agg #[.pointer (some ⟨10,72,none⟩),.pointer (some p),.int .u64 386]) W:=by
 rw [zlm];simp [ReflectliteValue.elem,loadVar,isAgg,underlying,Tryz.underlying94,ha,Result.andThen,zrz,rl_mk]
theorem zyg (ta b:Addr) (W:World):
 (ReflectliteValue.set #[.agg #[.pointer (some ⟨10,72,none⟩),.pointer (some ta),.int .u64 386],.agg #[.pointer (some ⟨10,72,none⟩),.pointer (some b),.int .u64 130]]).run Tryz.prog W
  = (do let v ←loadVar 72 b;storeVar 72 ta v;pure (.tuple #[]):Sem Value).run Tryz.prog W:=by kernel_rfl
theorem zAF (ta b:Addr) (c:Int) (old:Value) (W:World) (hb:W.cell? b=some (.int .i64 c)) (ht:W.cell? ta=some old) (hf:W.frozen? ta=false):
  (ReflectliteValue.set #[.agg #[.pointer (some ⟨10,72,none⟩),.pointer (some ta),.int .u64 386],.agg #[.pointer (some ⟨10,72,none⟩),.pointer (some b),.int .u64 130]]).run Tryz.prog W
   = .ok (.tuple #[]) (W.setCell ta (.int .i64 c)):=by
 rw [zyg];simp [loadVar,isAgg,underlying,Tryz.underlying72,hb,Result.andThen,storeVar,Value.cells,storeCells,Addr.add];rw [run_store Tryz.prog W ta _ _ (by rfl)];simp [ht,hf]
theorem zrA (b:Nat) (c:Int) (w:World) (he:w.cell? ⟨b,1,none⟩=some (.iface 72 (.int .i64 c))):
  Calls Tryz.prog 302 #[.pointer (some ⟨b,0,none⟩)] w fun ev w'=>ev=.returned (.iface 72 (.int .i64 c))∧w'=w:=by
 go_enter Tryz.func302,Tryz.ntmps302;go_wp2;go_ret;exact ⟨rfl,rfl⟩
theorem zva (b:Nat) (c:Int) (t:Addr) (old:Value) (w:World) (hg:w.cell? ⟨0,0,none⟩=some (.iface 173 (.agg #[.pointer (some ⟨10,92,none⟩)])))
  (he:w.cell? ⟨b,1,none⟩=some (.iface 72 (.int .i64 c))) (ht0:w.cell? t=some old) (hf0:w.frozen? t=false):
  Calls Tryz.prog 23 #[.iface 131 (.pointer (some ⟨b,0,none⟩)),.iface 94 (.pointer (some t))] w fun ev w'=>ev=.returned (.bool true)∧w'=((((w.alloc (.cells #[.pointer (some t)] 94)).alloc (.cells #[.pointer (some ⟨10,94,none⟩),.pointer (some ⟨w.heap.size,0,none⟩),.int .u64 150] 122)).alloc (.cells #[.pointer (some ⟨10,94,none⟩),.pointer (some ⟨w.heap.size,0,none⟩),.int .u64 150] 122)).alloc (.cells #[.int .i64 c] 72)).setCell t (.int .i64 c):=by
 have x1:=@run_callFunc_extern Tryz.prog 43 _ (fun args=>ReflectliteValue.unpack (args.getD 0 (.tuple #[]))) Tryz.func43 (by kernel_rfl) (by kernel_rfl) (by kernel_rfl) (by kernel_rfl);have x2:=@run_callFunc_extern Tryz.prog 44 _ (ReflectliteValue.methodAny (ReflectliteValue.valueError "reflectlite.Value.Type" 0) (fun t _ _ _=>ReflectliteType.toType t)) Tryz.func44 (by kernel_rfl) (by kernel_rfl) (by kernel_rfl) (by kernel_rfl);have x3:=@run_callFunc_extern Tryz.prog 45 _ (ReflectliteValue.method (ReflectliteValue.valueError "reflectlite.Value.IsNil" 0) ReflectliteValue.isNil) Tryz.func45 (by kernel_rfl) (by kernel_rfl) (by kernel_rfl) (by kernel_rfl);have x4:=@run_callFunc_extern Tryz.prog 293 _ (ReflectliteType.abiMethod fun t=>do pure (.int .u8 (←Rtype.kind t))) Tryz.func293 (by kernel_rfl) (by kernel_rfl) (by kernel_rfl) (by kernel_rfl);have x5:=@run_callFunc_extern Tryz.prog 306 _ (ReflectliteType.method ReflectliteType.elem) Tryz.func306 (by kernel_rfl) (by kernel_rfl) (by kernel_rfl) (by kernel_rfl);have x6:=@run_callFunc_extern Tryz.prog 307 _ (ReflectliteType.relation "Implements" ReflectliteType.implements_) Tryz.func307 (by kernel_rfl) (by kernel_rfl) (by kernel_rfl) (by kernel_rfl);have x7:=@run_callFunc_extern Tryz.prog 79 _ ReflectliteType.typeOf Tryz.func79 (by kernel_rfl) (by kernel_rfl) (by kernel_rfl) (by kernel_rfl);have x8:=@run_callFunc_extern Tryz.prog 304 _ (ReflectliteType.relation "AssignableTo" ReflectliteType.assignableTo) Tryz.func304 (by kernel_rfl) (by kernel_rfl) (by kernel_rfl) (by kernel_rfl);have x9:=@run_callFunc_extern Tryz.prog 80 _ (ReflectliteValue.method (ReflectliteValue.valueError "reflectlite.Value.Elem" 0) ReflectliteValue.elem) Tryz.func80 (by kernel_rfl) (by kernel_rfl) (by kernel_rfl) (by kernel_rfl);have x10:=@run_callFunc_extern Tryz.prog 81 _ ReflectliteValue.set Tryz.func81 (by kernel_rfl) (by kernel_rfl) (by kernel_rfl) (by kernel_rfl);have y1:=zoV;have y2:=zoW;have y3:=zeE;have y4:=zoX;have y5:=zoY;have y6:=zmn;have y7:=zuU;have y8:=zjZ;have y9:=zka;have y10:=zfB;have y11:=zuV;have y12:=zuW;have y13:=zuX;have y14:=zkb;have y15:=zmo;have y16:=zic;have z1:=@run_typeAssert_lacksB Tryz.prog 131 178 .nilIface _ Tryz.underlying178 (by kernel_rfl) (by kernel_rfl);have z2:=@run_typeAssert_hasB Tryz.prog 131 181 _ Tryz.underlying181 (by kernel_rfl);have hlt:0<w.heap.size:=by
  rcases Nat.lt_or_ge 0 w.heap.size with h|h
  ·exact h
  ·simp [World.cell?,Array.getElem?_eq_none h] at hg
 have htl:t.block<w.heap.size:=by
  rcases Nat.lt_or_ge t.block w.heap.size with h|h
  ·exact h
  ·simp [World.cell?,Array.getElem?_eq_none h] at ht0
 have hbl:b<w.heap.size:=by
  rcases Nat.lt_or_ge b w.heap.size with h|h
  ·exact h
  ·simp [World.cell?,Array.getElem?_eq_none h] at he
 have n8:=zuY ⟨w.heap.size,0,none⟩ t ((w.alloc (.cells #[.pointer (some t)] 94)).alloc (.cells #[.pointer (some ⟨10,94,none⟩),.pointer (some ⟨w.heap.size,0,none⟩),.int .u64 150] 122)) (by simp);have hg2:((w.alloc (.cells #[.pointer (some t)] 94)).alloc (.cells #[.pointer (some ⟨10,94,none⟩),.pointer (some ⟨w.heap.size,0,none⟩),.int .u64 150] 122)).cell? ⟨0,0,none⟩=some (.iface 173 (.agg #[.pointer (some ⟨10,92,none⟩)])):=by
  rw [World.cell?_alloc_lt _ _ ⟨0,0,none⟩ (by first|(simp;done)|(simp;omega)),World.cell?_alloc_lt _ _ ⟨0,0,none⟩ hlt];exact hg
 have he3:(((w.alloc (.cells #[.pointer (some t)] 94)).alloc (.cells #[.pointer (some ⟨10,94,none⟩),.pointer (some ⟨w.heap.size,0,none⟩),.int .u64 150] 122)).alloc (.cells #[.pointer (some ⟨10,94,none⟩),.pointer (some ⟨w.heap.size,0,none⟩),.int .u64 150] 122)).cell? ⟨b,1,none⟩=some (.iface 72 (.int .i64 c)):=by
  rw [World.cell?_alloc_lt _ _ ⟨b,1,none⟩ (by first|(simp;done)|(simp;omega)),World.cell?_alloc_lt _ _ ⟨b,1,none⟩ (by first|(simp;done)|(simp;omega)),World.cell?_alloc_lt _ _ ⟨b,1,none⟩ hbl];exact he
 have cu:=hide (zrA b c (((w.alloc (.cells #[.pointer (some t)] 94)).alloc (.cells #[.pointer (some ⟨10,94,none⟩),.pointer (some ⟨w.heap.size,0,none⟩),.int .u64 150] 122)).alloc (.cells #[.pointer (some ⟨10,94,none⟩),.pointer (some ⟨w.heap.size,0,none⟩),.int .u64 150] 122)) he3);have el:=zuZ ⟨w.heap.size,0,none⟩ t (((w.alloc (.cells #[.pointer (some t)] 94)).alloc (.cells #[.pointer (some ⟨10,94,none⟩),.pointer (some ⟨w.heap.size,0,none⟩),.int .u64 150] 122)).alloc (.cells #[.pointer (some ⟨10,94,none⟩),.pointer (some ⟨w.heap.size,0,none⟩),.int .u64 150] 122)) (by rw [World.cell?_alloc_lt _ _ ⟨w.heap.size,0,none⟩ (by first|(simp;done)|(simp;omega))];simp);have st:=zAF t ⟨w.heap.size+1+1+1,0,none⟩ c old ((((w.alloc (.cells #[.pointer (some t)] 94)).alloc (.cells #[.pointer (some ⟨10,94,none⟩),.pointer (some ⟨w.heap.size,0,none⟩),.int .u64 150] 122)).alloc (.cells #[.pointer (some ⟨10,94,none⟩),.pointer (some ⟨w.heap.size,0,none⟩),.int .u64 150] 122)).alloc (.cells #[.int .i64 c] 72))
  (by rw [World.cell?_alloc_at _ _ _ _ (by simp)];rfl)
  (by rw [World.cell?_alloc_lt _ _ t (by first|(simp;done)|(simp;omega)),World.cell?_alloc_lt _ _ t (by first|(simp;done)|(simp;omega)),World.cell?_alloc_lt _ _ t (by first|(simp;done)|(simp;omega)),World.cell?_alloc_lt _ _ t htl];exact ht0)
  (by rw [World.frozen?_alloc_old _ _ t (by first|(simp;done)|(simp;omega)),World.frozen?_alloc_old _ _ t (by first|(simp;done)|(simp;omega)),World.frozen?_alloc_old _ _ t (by first|(simp;done)|(simp;omega)),World.frozen?_alloc_old _ _ t (Nat.ne_of_lt htl)];exact hf0)
 go_enter Tryz.func23,Tryz.ntmps23;go_wp2;refine wp_loop_rounds 2 ?_;rw [rounds_succ];go_wp2_with (first|(go_at_call 302;refine cu.out.mono ?_;rintro e w' ⟨rfl,rfl⟩));rw [rounds_succ];go_wp2;go_ret;exact ⟨rfl,rfl⟩
def HasErr (w:World):Prop:=w.cell? ⟨0,0,none⟩=some (.iface 173 (.agg #[.pointer (some ⟨10,92,none⟩)]))
theorem HasErr.next {w w':World} (h:HasErr w) (b:Below w.heap.size w w'):HasErr w':=(b.cell (zfz h)).trans h
def zbw (n:Nat):Nat:=if n%8192=512 then 512 else 0
def zdp (m:Nat):Int:=if m=0 then 10 else if m%8192≠0 then 11 else if 320<m/8192 then 12 else if zdb ((m/8192:Nat):Int)=true then 0 else 13
theorem zAG (g off n cap:Nat) (w:World) (hn:n<4611686018427387904) (hc:n≤cap) (hm:cap≤9223372036854775807):
  Calls Tryz.prog 22 #[.slice (some ⟨g,off,none⟩) n cap] w fun e w'=>e=.returned (.slice (some ⟨g,if cap=512∧n=512 then off else off+zbw n,none⟩) (n-zbw n) (cap-zbw n))∧w'=w:=by
 by_cases h:n%8192=512
 ·have e:zbw n=512:=by unfold zbw;rw [if_pos h]
  rw [e];have h2:(n:Int)%8192=512:=by omega
  have h3:512≤n:=by omega
  clear h e
  by_cases hcc:cap=512
  ·have hn5:n=512:=by omega
   subst hcc;subst hn5;rw [if_pos ⟨rfl,rfl⟩];go_enter Tryz.func22,Tryz.ntmps22;go_wp2;go_ret;exact ⟨rfl,rfl⟩
  ·rw [if_neg (by omega)];go_enter Tryz.func22,Tryz.ntmps22;go_wp2;go_ret;exact ⟨rfl,rfl⟩
 ·have e:zbw n=0:=by unfold zbw;rw [if_neg h]
  rw [e,if_neg (by omega)];have h2:¬(n:Int)%8192=512:=by omega
  clear h e;go_enter Tryz.func22,Tryz.ntmps22;go_wp2;go_ret;exact ⟨rfl,rfl⟩
theorem zdQ (c m:Int) (p:Addr) (w:World) (hp:w.cell? p=some (.int .i64 m)):
  Calls Tryz.prog 47 #[.int .i64 c,.pointer (some p)] w fun e w'=>e=.returned (.iface 131 (.pointer (some ⟨w.heap.size,0,none⟩)))∧w'=w.alloc (.cells #[.int .i64 m,.iface 72 (.int .i64 c)] 133):=by
 go_enter Tryz.func47,Tryz.ntmps47;go_wp2;go_ret;exact ⟨rfl,rfl⟩
theorem err_1 (h:m=0):zdp m=10:=by unfold zdp;rw [if_pos h]
theorem err_2 (h:¬m=0) (h2:m%8192≠0):zdp m=11:=by unfold zdp;rw [if_neg h,if_pos h2]
theorem err_3 (h:¬m=0) (h2:¬m%8192≠0) (h3:320<m/8192):zdp m=12:=by unfold zdp;rw [if_neg h,if_neg h2,if_pos h3]
theorem err_4 (h:¬m=0) (h2:¬m%8192≠0) (h3:¬320<m/8192) (h4:zdb ((m/8192:Nat):Int)=true):zdp m=0:=by unfold zdp;rw [if_neg h,if_neg h2,if_neg h3,if_pos h4]
theorem err_5 (h:¬m=0) (h2:¬m%8192≠0) (h3:¬320<m/8192) (h4:¬zdb ((m/8192:Nat):Int)=true):zdp m=13:=by unfold zdp;rw [if_neg h,if_neg h2,if_neg h3,if_neg h4]
theorem zrB (m:Nat) (w:World) (hm:m<4611686018427387904) (hT:HasTab w):
  Calls Tryz.prog 24 #[.int .i64 (m:Int)] w fun e w'=>((zdp m=0∧e=.returned .nilIface)∨(zdp m≠0∧∃b,e=.returned (.iface 131 (.pointer (some ⟨b,0,none⟩)))∧w'.cell? ⟨b,1,none⟩=some (.iface 72 (.int .i64 (zdp m)))))∧Below w.heap.size w w':=by
 have b0:Below w.heap.size w (w.alloc (.cells #[.int .i64 (m:Int)] 3)):=(Below.refl _ w).alloc (Nat.le_refl _) _;have cc:=zhV (((m/8192:Nat):Int)) (w.alloc (.cells #[.int .i64 (m:Int)] 3)) (hT.next b0);obtain ⟨k,hk⟩:∃k:Int,k=((m/8192:Nat):Int):=⟨_,rfl⟩
 have hd:(m:Int)/8192=k:=by omega
 rw [←hk] at cc;obtain ⟨q,hq⟩:∃q,q=zdb k:=⟨_,rfl⟩
 rw [←hq] at cc;have CC:=hide cc;have B0:=hide b0;have HK:=hide hk;have HQ:=hide hq;have hc0:(w.alloc (.cells #[.int .i64 (m:Int)] 3)).cell? ⟨w.heap.size,0,none⟩=some (.int .i64 (m:Int)):=by simp
 have hz0:w.heap.size<(w.alloc (.cells #[.int .i64 (m:Int)] 3)).heap.size:=by simp
 clear b0 hT cc hk hq;go_enter Tryz.func24,Tryz.ntmps24;go_wp2_with fail;refine CC.out.mono ?_;rintro e w1 ⟨rfl,b1⟩;have hc:w1.cell? ⟨w.heap.size,0,none⟩=some (.int .i64 (m:Int)):=(b1.cell hz0).trans hc0;have BB:=hide (B0.out.trans (b1.mono (by simp)));have SZ:=hide (Nat.le_trans (Nat.le_of_lt hz0) b1.size);clear hc0 hz0 b1
 by_cases h1:m=0
 ·have e1:=hide (err_1 h1);have h1':(m:Int)=0:=by omega
  clear h1;go_wp2_with (first|(go_at_call 47;refine (zdQ _ _ _ _ hc).mono ?_;rintro e w' ⟨rfl,rfl⟩));go_ret;refine ⟨.inr ⟨by rw [e1.out];decide,_,rfl,by rw [e1.out];simp⟩,BB.out.alloc (by have:=SZ.out;omega) _⟩
 ·by_cases h2:m%8192≠0
  ·have e1:=hide (err_2 h1 h2);have h1':¬(m:Int)=0:=by omega
   have h2':¬(m:Int)%8192=0:=by omega
   clear h1 h2;go_wp2_with (first|(go_at_call 47;refine (zdQ _ _ _ _ hc).mono ?_;rintro e w' ⟨rfl,rfl⟩));go_ret;refine ⟨.inr ⟨by rw [e1.out];decide,_,rfl,by rw [e1.out];simp⟩,BB.out.alloc (by have:=SZ.out;omega) _⟩
  ·have h1':¬(m:Int)=0:=by omega
   have h2':(m:Int)%8192=0:=by omega
   by_cases h3:320<m/8192
   ·have e1:=hide (err_3 h1 h2 h3);have h3':320<k:=by rw [HK.out];omega
    clear h1 h2 h3;go_wp2_with (first|(go_at_call 47;refine (zdQ _ _ _ _ hc).mono ?_;rintro e w' ⟨rfl,rfl⟩));go_ret;refine ⟨.inr ⟨by rw [e1.out];decide,_,rfl,by rw [e1.out];simp⟩,BB.out.alloc (by have:=SZ.out;omega) _⟩
   ·have h3':¬320<k:=by rw [HK.out];omega
    by_cases h4:zdb ((m/8192:Nat):Int)=true
    ·have e1:=hide (err_4 h1 h2 h3 h4);have h4':q=true:=by rw [HQ.out,HK.out];exact h4
     subst h4';clear h1 h2 h3 h4;go_wp2_with (first|(go_at_call 47;refine (zdQ _ _ _ _ hc).mono ?_;rintro e w' ⟨rfl,rfl⟩));go_ret;exact ⟨.inl ⟨e1.out,rfl⟩,BB.out⟩
    ·have e1:=hide (err_5 h1 h2 h3 h4);have h4':q=false:=by rw [HQ.out,HK.out];simpa using h4
     subst h4';clear h1 h2 h3 h4;go_wp2_with (first|(go_at_call 47;refine (zdQ _ _ _ _ hc).mono ?_;rintro e w' ⟨rfl,rfl⟩));go_ret;refine ⟨.inr ⟨by rw [e1.out];decide,_,rfl,by rw [e1.out];simp⟩,BB.out.alloc (by have:=SZ.out;omega) _⟩
def zrC (B:Nat) (w:World) (c:Nat) (bs:List Int):Prop:=∃d,B≤c∧B≤d∧w.cell? ⟨c,0,none⟩=some (.slice (some ⟨d,0,none⟩) bs.length bs.length)∧Bytes 5 w d bs
theorem zoZ (m:Nat) (cs:List Value) (z:Value) (h:cs.length=m):splice (List.replicate m z) 0 cs=cs:=by
 subst h;simp [splice]
theorem zrD (g off n cap o:Nat) (cs:List Int) (w:World) (ho:0<n-zbw n→o=off+zbw n) (hl:cs.length=n-zbw n)
  (hR:∀i,i<cs.length→w.cell? ⟨g,o+i,none⟩=some (.int .u8 (cs.getD i 0))) (hB:∀z ∈ cs,0≤z∧z<256)
  (hn:n≤10000000) (hg:g<w.heap.size) (hT:HasTab w) (hE:HasErr w)
  (hw:Calls Tryz.prog 22 #[.slice (some ⟨g,off,none⟩) n cap] w fun e w'=>e=.returned (.slice (some ⟨g,o,none⟩) (n-zbw n) (cap-zbw n))∧w'=w):
  Calls Tryz.prog 8 #[.slice (some ⟨g,off,none⟩) n cap] w fun e w'=>((zdp (n-zbw n)≠0∧e=.returned (.tuple #[.pointer none,.int .i64 (zdp (n-zbw n))])) ∨
   (zdp (n-zbw n)=0∧∃c,e=.returned (.tuple #[.pointer (some ⟨c,0,none⟩),.int .i64 0])∧zrC w.heap.size w' c cs))∧Below w.heap.size w w':=by
 obtain ⟨m,hm⟩:∃m,m=n-zbw n:=⟨_,rfl⟩
 rw [←hm] at hw hl ⊢;have b0:Below w.heap.size w (w.alloc (.cells #[.int .i64 0] 72)):=(Below.refl _ w).alloc (Nat.le_refl _) _;have CW:=hide hw;have CK:=hide (zrB m (w.alloc (.cells #[.int .i64 0] 72)) (by omega) (hT.next b0));have hE1:=hide (hE.next b0);have hc0:=hide (show (w.alloc (.cells #[.int .i64 0] 72)).cell? ⟨w.heap.size,0,none⟩=some (.int .i64 0) by simp);have hf0:=hide (show (w.alloc (.cells #[.int .i64 0] 72)).frozen? ⟨w.heap.size,0,none⟩=false by simp);have hz0:=hide (show w.heap.size<(w.alloc (.cells #[.int .i64 0] 72)).heap.size by simp);have B0:=hide b0;have HR:=hide hR;have HB:=hide hB;have HM:=hide hm;have HG:=hide hg;clear hw b0 hT hE hR hB ho hm hg;go_enter Tryz.func8,Tryz.ntmps8;go_wp2_with fail;refine CW.out.mono ?_;rintro e w1 ⟨rfl,hw1⟩;subst w1;go_wp2_with fail;refine CK.out.mono ?_;rintro e w2 ⟨⟨he,rfl⟩|⟨he,b,rfl,hcell⟩,b2⟩
 ·have BB:=hide (B0.out.trans (b2.mono (Nat.le_of_lt hz0.out)));have hmk:=znt m (by have:=HM.out;omega) w2;obtain ⟨w4,hw4⟩:∃w4,w4=(w2.alloc (.cells ((List.replicate m (0:Int)).map (Value.int .u8)).toArray 5)):=⟨_,rfl⟩
  rw [←hw4] at hmk;have SZ:=hide (Nat.le_trans (Nat.le_of_lt hz0.out) b2.size);have B4:Hid (Below w.heap.size w w4):=by rw [hw4];exact BB.out.alloc SZ.out _
  have R4:Hid (w4.heap[w2.heap.size]? = some (.cells (List.replicate m (Value.int .u8 0)).toArray 5 (0,0))):=by
   refine hide ?_;rw [hw4,heap_alloc_new];simp
  have HR4:Hid (∀j v,(cs.map (Value.int .u8))[j]? = some v→w4.cell? ((⟨g,o,none⟩:Addr).add j)=some v):=by
   intro j v hj;have hj':j<cs.length:=by
    rcases Nat.lt_or_ge j cs.length with h|h
    ·exact h
    ·rw [List.getElem?_eq_none (by simpa using h)] at hj;cases hj
   have e1:(⟨g,o,none⟩:Addr).add j=⟨g,o+j,none⟩:=by unfold Addr.add;split<;>simp_all
   rw [e1,B4.out.cell (p:=⟨g,o+j,none⟩) HG.out,HR.out j hj']
   simpa [hj'] using hj
  have HE:=hide he;have HL:=hide hl;clear he b2 hw4 hl;have hmb:m≤10000000:=by have:=HM.out;omega
  go_wp2_with fail;refine (zAE _ _).mono ?_;rintro e w6 ⟨rfl,hw6⟩;subst w6;go_wp2_with (first|(refine wpList_copy_splice rfl (.tmp 18) (.tmp 19) 24 24 rfl 5 Tryz.underlying24 (by kernel_rfl) (some ⟨w2.heap.size,0,none⟩) (some ⟨g,o,none⟩) m m m _ rfl rfl w2.heap.size 0 (List.replicate m (Value.int .u8 0)) 5 R4.out (cs.map (Value.int .u8)) (by simp [HL.out]) (fun _=>⟨rfl,_,rfl,HR4.out⟩) (by simp [HL.out]) (by intro v hv;simp at hv;obtain ⟨z,_,rfl⟩:=hv;rfl) w.heap.size w B4.out SZ.out ?_;intro w5 h5 b5));go_ret2;have e5:splice (List.replicate m (Value.int .u8 0)) 0 (cs.map (Value.int .u8))=cs.map (Value.int .u8):=zoZ _ _ _ (by simpa using HL.out);have h6:=h5.out;rw [e5] at h6;have s5:=b5.size;have hd5:w2.heap.size<w5.heap.size:=by
   rcases Nat.lt_or_ge w2.heap.size w5.heap.size with h|h
   ·exact h
   ·rw [Array.getElem?_eq_none h] at h6;cases h6
  refine ⟨.inr ⟨HE.out,_,rfl,w2.heap.size,s5,SZ.out,?_,?_⟩,b5.alloc s5 _⟩
  ·rw [HL.out];simp
  ·exact ⟨(Below.heap_alloc w5 _ _ hd5).trans h6,HB.out⟩
 ·have HE:=hide he;have BB:=hide (B0.out.trans (b2.mono (Nat.le_of_lt hz0.out)));have hA:=hide (zva b (zdp m) ⟨w.heap.size,0,none⟩ (.int .i64 0) w2 (hE1.out.next b2) hcell ((b2.cell hz0.out).trans hc0.out) ((b2.frozen hz0.out).trans hf0.out));have hc2:=hide ((b2.cell (p:=⟨w.heap.size,0,none⟩) hz0.out).trans hc0.out);clear he b2 hcell;go_wp2_with fail;refine hA.out.mono ?_;rintro e w3 ⟨rfl,hw3⟩;have hc3:w3.cell? ⟨w.heap.size,0,none⟩=some (.int .i64 (zdp m)):=by
   rw [hw3];refine World.cell?_setCell_same _ _ _ (u:=.int .i64 0) ?_;have hlt:w.heap.size<w2.heap.size:=zfz hc2.out;rw [World.cell?_alloc_lt _ _ _ (by simp;omega),World.cell?_alloc_lt _ _ _ (by simp;omega),World.cell?_alloc_lt _ _ _ (by simp;omega),World.cell?_alloc_lt _ _ _ (by simpa using hlt)];exact hc2.out
  have B3:Hid (Below w.heap.size w w3):=by
   rw [hw3];have:=BB.out.size;exact ((((BB.out.alloc (by omega) _).alloc (by simp;omega) _).alloc (by simp;omega) _).alloc (by simp;omega) _).setCell (Nat.le_refl _) _
  clear hw3;go_wp2_with fail;go_region
  all_goals (try go_wp2)
  go_ret2;exact ⟨.inl ⟨HE.out,rfl⟩,B3.out.drew⟩
theorem zvb (g off cap:Nat) (bs:List Int) (w:World)
  (hR:∀i,i<bs.length→w.cell? ⟨g,off+i,none⟩=some (.int .u8 (bs.getD i 0))) (hB:∀z ∈ bs,0≤z∧z<256)
  (hn:bs.length≤10000000) (hc:bs.length≤cap) (hm:cap≤9223372036854775807) (hg:g<w.heap.size) (hT:HasTab w) (hE:HasErr w):
  Calls Tryz.prog 8 #[.slice (some ⟨g,off,none⟩) bs.length cap] w fun e w'=>((zdp (bs.length-zbw bs.length)≠0∧e=.returned (.tuple #[.pointer none,.int .i64 (zdp (bs.length-zbw bs.length))])) ∨
   (zdp (bs.length-zbw bs.length)=0∧∃c,e=.returned (.tuple #[.pointer (some ⟨c,0,none⟩),.int .i64 0])∧zrC w.heap.size w' c (bs.drop (zbw bs.length))))∧Below w.heap.size w w':=by
 have hw:=zAG g off bs.length cap w (by omega) hc hm;have hl:(bs.drop (zbw bs.length)).length=bs.length-zbw bs.length:=by simp
 have go:∀o,(0<bs.length-zbw bs.length→o=off+zbw bs.length)→(∀i,i<(bs.drop (zbw bs.length)).length→w.cell? ⟨g,o+i,none⟩=some (.int .u8 ((bs.drop (zbw bs.length)).getD i 0))):=by
  intro o ho i hi;rw [hl] at hi;rw [ho (by omega),show off+zbw bs.length+i=off+(zbw bs.length+i) by omega,hR _ (by omega)];simp [List.getD_eq_getElem?_getD]
 refine zrD g off bs.length cap _ _ w ?_ hl (go _ ?_) (fun z hz=>hB z (List.mem_of_mem_drop hz)) hn hg hT hE hw <;>
 ·intro k;rw [if_neg];rintro ⟨h1,h2⟩;have h3:zbw 512=512:=by decide
  rw [h2,h3] at k;omega
end Go.Proofs.YtdiidjehdginnaaGreatDoor.C3
namespace Go.Proofs.YtdiidjehdginnaaGreatDoor.L24
set_option maxHeartbeats 4000000
set_option maxRecDepth 20000
open C3 G6 M5 P22 R15 W13
open Go.RowKit
set_option linter.unusedVariables false
variable {bu lo rd st wr x:Int} {L:List (Nat×(Nat→Value))} {bs:List Int} {c d:Nat} {f:Nat→Int} {m:Nat→Value} {w:World}
theorem zAH (v c:Nat):IsB (LB v c):=rfl
theorem zvc:(#[.int .i64 0,.int .i64 248,.int .i64 0,.int .i64 0,.int .i64 0,.int .i64 0,.int .i64 0,.int .i64 0]:Array Value)=rowF (iv fl0) 8:=rfl
theorem zjk {o:Nat} {x:Value} (h:w.cell? ⟨c,o,none⟩=some x):c<w.heap.size:=zfz h
theorem zAI (hc:HasCard w c d bs) (h0:1≤bs.length/8192) (h1:bs.length≤10000000) (hT:Tabs w):
  Calls Tryz.prog 25 #[.pointer (some ⟨c,0,none⟩)] w fun e w'=>∃b v,e=Ending.returned (.pointer (some ⟨b,0,none⟩))∧HasX w' b v c d (LB v c) bs (fun _=>0) 0 0 1 0 0∧(w.heap.size≤b∧w.heap.size≤v)∧Below w.heap.size w w':=by
 have KP:=hide (zeT ⟨c,0,none⟩ (some ⟨d,0,none⟩) bs.length bs.length w (by omega) hc.1);have p2:(((bs.length/8192:Nat):Int)==0)=false:=by simp;omega
 have P0:=hide (show 1≤bs.length/8192∧bs.length≤10000000 from ⟨h0,h1⟩);have HC:=hide hc;have HT:=hide hT;have F8:=hide M5.fresh_any;rw [zvc] at F8;generalize ((bs.length/8192:Nat):Int)=n at *;clear hc h0 h1 hT;go_enter Tryz.func25,Tryz.ntmps25
 go_wp2_with (first
  |(go_at_call 49;refine KP.out.mono ?_;rintro e w' ⟨rfl,hw⟩;subst w')
  |(go_at_call 50;refine (R15.fresh_any _).mono ?_;rintro e w1 ⟨rfl,b1⟩;have B1:=hide b1;clear b1)
  |(go_at_call 51;refine (W13.new_any _).mono ?_;rintro e w2 ⟨rfl,h2,b2⟩;have V2:=hide h2;have B2:=hide (zaz B1.out b2);have N2:=hide B1.out.size;clear h2 b2 B1;generalize w1.heap.size=v at *)
  |(refine wpList_built rfl 36 _ rfl #[(0,.agg (rowG 0 fun _=>0)),(1,.pointer (some ⟨v,0,none⟩))] (by simp [Act.eval]) _ (zye v) ?_)
  |(go_at_call 35;refine (F8.out _).mono ?_;rintro e w3 ⟨rfl,b3⟩;have V3:=hide (V2.out.next b3);have B3:=hide (zaz B2.out b3);clear b3 V2 B2)
  |(go_at_call 52;refine (P22.fresh_any _).mono ?_;rintro e w4 ⟨rfl,b4⟩;have V4:=hide (V3.out.next b4);have B4:=hide (zaz B3.out b4);clear b4 V3 B3)
  |(refine wpList_built rfl 60 _ rfl #[(0,.agg (rowF (segs (LV v)) 281)),(1,.pointer (some ⟨c,0,none⟩)),(4,.agg (rowF (iv fl0) 8)),(6,.agg (rowF (iv zcO) 244)),(11,.int .i64 255)] (by simp [Act.eval]) _ (zyf v c) ?_
    obtain ⟨R,hR⟩:∃R,rowF (segs (LB v c)) 9263=R:=⟨_,rfl⟩
    rw [hR]
    replace hR:=hide hR))
 go_ret;have X:=zbo 60 w4 9263 (segs (LB v c));rw [hR.out] at X;have bb:=(Below.refl _ w4).alloc (Nat.le_refl _) (.cells R 60);have B5:=zaz B4.out bb;have T5:=HT.out.next B5;have C5:=HC.out.next B5;have V5:=V4.out.next bb;have lb:w.heap.size≤w4.heap.size:=B4.out.size;have lv:=V4.out.lt;refine ⟨_,v,rfl,⟨X,V5,C5,T5,zAH v c,rfl,rfl,⟨?_,?_,?_,?_,?_,HT.out.high lb,HT.out.high N2.out⟩,P0.out,by decide⟩,⟨lb,N2.out⟩,B5⟩
 ·omega
 ·exact Nat.ne_of_gt (Nat.lt_of_lt_of_le (zjk HC.out.1) lb)
 ·exact Nat.ne_of_gt (Nat.lt_of_lt_of_le HC.out.2.1.lt lb)
 ·exact Nat.ne_of_gt (Nat.lt_of_lt_of_le (zjk HC.out.1) N2.out)
 ·exact Nat.ne_of_gt (Nat.lt_of_lt_of_le HC.out.2.1.lt N2.out)
open B4 C3 G6 M5 P22 R15 W13
theorem zAJ {b v:Nat} (h:HasX w b v c d L bs f wr rd st lo bu) (p:Int) (p0:2031616≤p) (p1:p<2064384) (a:Int) (ha:p%8192=a)  (h8:L[8]? = some (8192,m))  (hm:m a.toNat=.int .u8 x) (x0:0≤x) (x1:x<256):Calls Tryz.prog 67 #[.pointer (some ⟨b,0,none⟩),.int .i64 p] w fun e w'=>e=Ending.returned (.int .i64 x)∧HasX w' b v c d L bs f wr rd st lo bu∧OnlyE (EX b v) w w':=by
 refine zuH h p 0 a (fun w _=>by have:=zhX p w p0 p1;rw [ha] at this;exact this) (R:=fun w'=>HasX w' b v c d L bs f wr rd st lo bu∧OnlyE (EX b v) w w') fun w1 b1=>?_
 exact (zoI (h.next b1) 1 0 a a.toNat (by omega) (by omega) h8 hm x0 x1).mono fun e w' ⟨e1,x2,o2⟩=>⟨e1,x2,(zay b1).trans o2⟩
theorem zAK {b v:Nat} (h:HasX w b v c d L bs f wr rd st lo bu) (p:Int) (p0:2031616≤p) (p1:p<2064384) (a:Int) (ha:p%8192=a)  (h8:L[8]? = some (8192,m)) (n y:Int) (hy:n%256=y):Calls Tryz.prog 160 #[.pointer (some ⟨b,0,none⟩),.int .i64 p,.int .i64 n] w fun e w'=>e=Ending.returned (.tuple #[])∧HasX w' b v c d (L.set 8 (8192,updC m a.toNat (.int .u8 y))) bs f wr rd st lo bu∧OnlyE (EX b v) w w':=
 zrk h p n 0 a (fun w _=>by have:=zhX p w p0 p1;rw [ha] at this;exact this) y hy (by omega) (by omega) h8
theorem zAL {b v:Nat} (h:HasX w b v c d L bs f wr rd st lo bu) (p:Int) (p0:0≤p) (p1:p<1048576) {lt:Int} (h7:L[7]? = some (1,fun _=>Value.int .i64 lt))  (KB:∀w,HasCard w c d bs→Calls Tryz.prog 172 #[.pointer (some ⟨c,0,none⟩),.int .i64 (zde ((bs.length/8192:Nat):Int) lt (p/8192)),.int .i64 (p%8192)] w fun e w'=>e=Ending.returned (.int .i64 x)∧w'=w):Calls Tryz.prog 67 #[.pointer (some ⟨b,0,none⟩),.int .i64 p] w fun e w'=>e=Ending.returned (.int .i64 x)∧HasX w' b v c d L bs f wr rd st lo bu∧OnlyE (EX b v) w w':=by
 refine zuG h p (p/8192) (p%8192) (fun w _=>zhW p w p0 p1) (R:=fun w'=>HasX w' b v c d L bs f wr rd st lo bu∧OnlyE (EX b v) w w') fun w1 b1=>?_
 exact (zoJ (h.next b1) 0 (p/8192) (p%8192) h7 rfl KB).mono fun e w' ⟨e1,x2,o2⟩=>⟨e1,x2,(zay b1).trans o2⟩
theorem zAM {b v:Nat} (h:HasX w b v c d L bs f wr rd st lo bu) (p:Int) (p0:0≤p) (p1:p<1048576) {lt:Int} (h7:L[7]? = some (1,fun _=>Value.int .i64 lt)) (hn:bs.length/8192≠320) (n:Int):Calls Tryz.prog 160 #[.pointer (some ⟨b,0,none⟩),.int .i64 p,.int .i64 n] w fun e w'=>e=Ending.returned (.tuple #[])∧HasX w' b v c d L bs f wr rd st lo bu∧OnlyE (EX b v) w w':=by
 have k:=zrl h p n (p/8192) (p%8192) (fun w _=>zhW p w p0 p1) _ rfl h7 rfl;have e:zgD ((bs.length/8192:Nat):Int) lt (p%8192)=lt:=by
  unfold zgD;rw [if_neg (by omega)]
 rw [e,zhU h7] at k;exact k
end Go.Proofs.YtdiidjehdginnaaGreatDoor.L24
namespace Go.Proofs.YtdiidjehdginnaaGreatDoor.T10
set_option maxHeartbeats 4000000
set_option maxRecDepth 20000
open Go.RowKit
set_option linter.unusedVariables false
def zvd (r c:Int) (o:Bool) (p:Int) (r' c':Int) (o':Bool) (p':Int):Bool:=(r==r')&&((c==c')&&((o==o')&&(p==p')))
theorem eqT (r c:Int) (o:Bool) (p:Int) (r' c':Int) (o':Bool) (p':Int) (w:World):
  (binOp .eql 51 (.agg #[.int .i64 r,.int .i64 c,.bool o,.int .i64 p]) (.agg #[.int .i64 r',.int .i64 c',.bool o',.int .i64 p'])).run Tryz.prog w=.ok (.bool (zvd r c o p r' c' o' p')) w:=by
 rw [run_eql_struct,run_equalIn_struct w 9999 51 _ _ (by kernel_rfl) (by kernel_rfl)];unfold zvd;simp [Program.fieldsOf,Tryz.underlying51,Op.eqFields,part,isAgg,run_underlying Tryz.underlying3,run_underlying Tryz.underlying4,run_equalIn_int _ _ _ _ _ _ _ Tryz.underlying3,run_equalIn_bool' _ _ _ _ _ Tryz.underlying4]
 by_cases h1:r=r'<;>by_cases h2:c=c'<;>by_cases h3:o=o'<;>by_cases h4:p=p'<;>simp [h1,h2,h3,h4]
def wiOf (n m:Int):Int:=if n<0 then 0 else if m<n then m else n
theorem zpa (n m:Int) (hm:0≤m) (w:World):Calls Tryz.prog 121 #[.int .i64 n,.int .i64 m] w fun e w'=>e=.returned (.int .i64 (wiOf n m))∧w'=w:=by
 unfold wiOf
 by_cases h1:n<0
 ·rw [if_pos h1];go_enter Tryz.func121,Tryz.ntmps121;go_wp2
  all_goals (go_ret;exact ⟨zat (by omega),rfl⟩)
 ·rw [if_neg h1]
  by_cases h2:m<n
  ·rw [if_pos h2];go_enter Tryz.func121,Tryz.ntmps121;go_wp2
   all_goals (go_ret;exact ⟨zat (by omega),rfl⟩)
  ·rw [if_neg h2];go_enter Tryz.func121,Tryz.ntmps121;go_wp2
   all_goals (go_ret;exact ⟨zat (by omega),rfl⟩)
def preOf (o:Bool):Int:=if o then 3071 else 0
theorem bounded_any (r c:Int) (o:Bool) (p:Int) (w:World):Calls Tryz.prog 73 #[.agg #[.int .i64 r,.int .i64 c,.bool o,.int .i64 p]] w fun e w'=>
  e=.returned (.agg #[.int .i64 (wiOf r 127),.int .i64 (wiOf c 127),.bool o,.int .i64 (wiOf p (preOf o))])∧Below w.heap.size w w':=by
 cases o
 all_goals
  go_enter Tryz.func73,Tryz.ntmps73;go_wp2_with (first|(go_at_call 121;refine (zpa _ _ (by decide) _).mono ?_;rintro e w' ⟨rfl,rfl⟩));go_returns;exact ⟨rfl,((Below.refl _ w).alloc (Nat.le_refl _) _).alloc (by simp) _⟩
def okT (r c:Int) (o:Bool) (p:Int):Bool:=decide (0≤r∧r≤127∧0≤c∧c≤127∧0≤p∧p≤preOf o)
theorem zve (r c:Int) (o:Bool) (p:Int):zvd r c o p (wiOf r 127) (wiOf c 127) o (wiOf p (preOf o))=okT r c o p:=by
 unfold zvd okT;have h:0≤preOf o:=by cases o<;>decide
 generalize preOf o=m at *;rw [Bool.eq_iff_iff];simp only [Bool.and_eq_true,beq_iff_eq,decide_eq_true_eq];have w1:∀n k:Int,0≤k→(n=wiOf n k↔0≤n∧n≤k):=by
  intro n k hk;unfold wiOf;split
  ·omega
  ·split<;>omega
 rw [w1 r 127 (by decide),w1 c 127 (by decide),w1 p m h];simp only [true_and,and_assoc]
theorem valid_any (r c:Int) (o:Bool) (p:Int) (w:World):Calls Tryz.prog 38 #[.agg #[.int .i64 r,.int .i64 c,.bool o,.int .i64 p]] w fun e w'=>e=.returned (.bool (okT r c o p))∧Below w.heap.size w w':=by
 go_enter Tryz.func38,Tryz.ntmps38;go_wp2;obtain ⟨wa,hwa⟩:∃wa,wa=w.alloc (.cells #[.int .i64 r,.int .i64 c,.bool o,.int .i64 p] 51):=⟨_,rfl⟩
 rw [←hwa];have hl:w.heap.size<wa.heap.size:=by rw [hwa];simp
 have ba:Below w.heap.size w wa:=by rw [hwa];exact (Below.refl _ w).alloc (Nat.le_refl _) _
 have c0:=zah (show wa.cell? ⟨w.heap.size,0,none⟩=some (.int .i64 r) by rw [hwa];simp) hl;have c1:=zah (show wa.cell? ⟨w.heap.size,1,none⟩=some (.int .i64 c) by rw [hwa];simp) hl;have c2:=zah (show wa.cell? ⟨w.heap.size,2,none⟩=some (.bool o) by rw [hwa];simp) hl;have c3:=zah (show wa.cell? ⟨w.heap.size,3,none⟩=some (.int .i64 p) by rw [hwa];simp) hl;clear hwa;have hs:=hide (zve r c o p);have hb:=hide (bounded_any r c o p);generalize wiOf r 127=r' at *;generalize wiOf c 127=c' at *;generalize wiOf p (preOf o)=p' at *;have hq:=fun w=>eqT r c o p r' c' o p' w
 haveI:=zax wa;refine zbn (by kernel_rfl) (by kernel_rfl) ?_
 repeat (go_big_quiet_step ((go_at_call 73;exact zaL (hb.out _))))
 refine wpQuiet_nil ?_;rintro _ ⟨wk,rfl⟩;go_wp2;go_ret;exact ⟨zbc hs.out,ba.trans (wk.below.mono (Nat.le_of_lt hl))⟩
theorem znu (r c:Int) (o:Bool) (p:Int) (w:World):Calls Tryz.prog 102 #[.agg #[.int .i64 r,.int .i64 c,.bool o,.int .i64 p]] w fun e w'=>e=.returned (.bool (o&&okT r c o p))∧Below w.heap.size w w':=by
 cases o
 ·go_enter Tryz.func102,Tryz.ntmps102;go_wp2;go_ret;exact ⟨rfl,(Below.refl _ w).alloc (Nat.le_refl _) _⟩
 ·go_enter Tryz.func102,Tryz.ntmps102;go_wp2_with fail;refine (valid_any _ _ _ _ _).mono ?_;rintro e w1 ⟨rfl,b1⟩;have b2:=hide (((Below.refl _ w).alloc (Nat.le_refl _) _).trans (b1.mono (by simp)));clear b1;go_wp2;go_ret;exact ⟨rfl,b2.out⟩
theorem read_any (r c:Int) (o:Bool) (p:Int) (w:World):Calls Tryz.prog 177 #[.agg #[.int .i64 r,.int .i64 c,.bool o,.int .i64 p]] w fun e w'=>e=.returned (.int .i64 c)∧Below w.heap.size w w':=by
 go_enter Tryz.func177,Tryz.ntmps177;go_wp2;go_ret;exact ⟨rfl,(Below.refl _ w).alloc (Nat.le_refl _) _⟩
def zgG (r c s:Int):Int:=max 0 (s-c+r)/(r+1)
def zpb (r c s:Int):Int:=c+(zgG r c s*(r+1)-s)
def Is (r c s n x:Int):Prop:=0≤n∧0≤x∧x=c+(n*(r+1)-s)∧(n=0∨x≤r)
theorem zyh {r c s:Int} (r0:0≤r) (h:s≤c):zgG r c s=0:=by
 unfold zgG;exact Int.ediv_eq_zero_of_lt (by omega) (by omega)
theorem zrE (r c s:Int) (r0:0≤r) (c0:0≤c):Is r c s (zgG r c s) (zpb r c s):=by
 unfold Is
 by_cases h:s≤c
 ·have e:=zyh r0 h;unfold zpb;rw [e,Int.zero_mul];exact ⟨by omega,by omega,rfl,.inl rfl⟩
 ·have e:zgG r c s=(s-c+r)/(r+1):=by unfold zgG;rw [show max 0 (s-c+r)=s-c+r by omega]
  have h1:=Int.emod_nonneg (s-c+r) (b:=r+1) (by omega);have h2:=Int.emod_lt_of_pos (s-c+r) (b:=r+1) (by omega);have h3:=Int.mul_ediv_add_emod (s-c+r) (r+1);have h4:0≤(s-c+r)/(r+1):=Int.ediv_nonneg (by omega) (by omega);unfold zpb;rw [e];rw [Int.mul_comm] at h3;exact ⟨h4,by omega,rfl,.inr (by omega)⟩
theorem zyi (r c s:Int) (r0:0≤r) (c0:0≤c) (s0:0≤s) (r1:r≤127):0≤zgG r c s*(r+1)∧zgG r c s*(r+1)≤s+127:=by
 have h:=zrE r c s r0 c0;obtain ⟨h1,h2,h3,h4⟩:=h;refine ⟨Int.mul_nonneg h1 (by omega),?_⟩;rcases h4 with h4|h4
 ·rw [h4,Int.zero_mul];omega
 ·omega
theorem is_le {r c s n x:Int} (r1:r≤127) (c1:c≤127) (s0:0≤s) (h:Is r c s n x):x≤127:=by
 obtain ⟨h1,h2,h3,h4⟩:=h;rcases h4 with h4|h4
 ·subst h4;rw [Int.zero_mul] at h3;omega
 ·omega
theorem zfV {r c:Int} {o:Bool} {p:Int} (h:okT r c o p=true):0≤r∧r≤127∧0≤c∧c≤127∧0≤p∧p≤preOf o:=of_decide_eq_true h
theorem zpc (s c r m q:Int) (b d:Nat) (w:World) (h0:w.cell? ⟨b,0,none⟩=some (.int .i64 r)) (h1:w.cell? ⟨b,1,none⟩=some (.int .i64 c)) (h2:w.cell? ⟨d,0,none⟩=some (.int .i64 m))
  (hm:1≤m) (r0:0≤r) (r1:r≤127) (c0:0≤c) (c1:c≤127) (s0:0≤s) (s1:s≤1000000000000) (hq:q=max 0 (s-c+r)/m):
  Calls Tryz.prog 103 #[.int .i64 s,.pointer (some ⟨b,0,none⟩),.pointer (some ⟨d,0,none⟩)] w fun e w'=>e=.returned (.int .i64 q)∧w'=w:=by
 obtain ⟨y,hy⟩:∃y,s-c+r=y:=⟨_,rfl⟩
 rw [hy] at hq;have y1:y≤2000000000000:=by omega
 have y2 : -200≤y:=by omega
 by_cases h:y≤0
 ·have e1:q=0:=by rw [hq,show max 0 y=0 by omega];simp
  have e2:Int.tdiv 0 m=0:=by simp
  subst e1;clear hq;go_enter Tryz.func103,Tryz.ntmps103;go_wp2;go_ret;exact ⟨rfl,rfl⟩
 ·have e1:q=y/m:=by rw [hq,show max 0 y=y by omega]
  have e2:Int.tdiv y m=q:=by rw [e1,Int.tdiv_eq_ediv_of_nonneg (by omega)]
  have q0:0≤q:=by rw [e1];exact Int.ediv_nonneg (by omega) (by omega)
  have q1:q≤y:=by rw [e1];exact Int.ediv_le_self _ (by omega)
  clear hq e1;go_enter Tryz.func103,Tryz.ntmps103;go_wp2;go_ret;exact ⟨rfl,rfl⟩
theorem zrF (r c:Int) (o:Bool) (p t:Int) (h:(o&&okT r c o p)=false∨t<1∨1099511627776<t) (w:World):Calls Tryz.prog 64 #[.agg #[.int .i64 r,.int .i64 c,.bool o,.int .i64 p],.int .i64 t] w fun e w'=>
  e=.returned (.tuple #[.agg #[.int .i64 r,.int .i64 c,.bool o,.int .i64 p],.int .i64 0])∧Below w.heap.size w w':=by
 have hr:=hide (znu r c o p);cases hv:(o&&okT r c o p)
 ·rw [hv] at hr;clear hv h;go_enter Tryz.func64,Tryz.ntmps64;go_wp2_with fail;refine (hr.out _).mono ?_;rintro e w1 ⟨rfl,b1⟩;have s1:=b1.size;have e1:=b1.block w.heap.size (by simp;omega);have e2:=b1.block (w.heap.size+1) (by simp);rw [heap_alloc2_old] at e1;rw [heap_alloc2_new] at e2;have b2:=hide ((((Below.refl _ w).alloc (Nat.le_refl _) _).alloc (by simp) _).trans (b1.mono (by simp;omega)));have R1:=hide e1;have R2:=hide e2;clear b1 s1;clear e1 e2
  go_wp2_with (first
   |(refine wpList_load_row rfl 51 (.tmp 2) rfl w.heap.size rfl 51 _ (0,0) _ R1.out Tryz.underlying51 rfl (by kernel_rfl) ?_)
   |(refine wpList_store_row rfl 51 (.tmp 4) (.tmp 21) rfl (w.heap.size+1) _ rfl rfl 51 _ R2.out (by kernel_rfl) rfl (by kernel_rfl) ?_))
  (try simp only [Exit.inBlock,Exit.then])
  refine bodyPost_ret (zaG rfl _ _ (w.heap.size+1) 51 _ (0,0) _ rfl (setRow_heap _ _ _ _ _ _ R2.out) Tryz.underlying51 rfl (by kernel_rfl)) rfl ?_;exact ⟨rfl,below_setRow b2.out (Nat.le_succ _) _⟩
 ·rw [hv] at hr h;clear hv
  by_cases h1:t<1
  ·clear h;go_enter Tryz.func64,Tryz.ntmps64;go_wp2_with fail;refine (hr.out _).mono ?_;rintro e w1 ⟨rfl,b1⟩;have s1:=b1.size;have e1:=b1.block w.heap.size (by simp;omega);have e2:=b1.block (w.heap.size+1) (by simp);rw [heap_alloc2_old] at e1;rw [heap_alloc2_new] at e2;have b2:=hide ((((Below.refl _ w).alloc (Nat.le_refl _) _).alloc (by simp) _).trans (b1.mono (by simp;omega)));have R1:=hide e1;have R2:=hide e2;clear b1 s1;clear e1 e2
   go_wp2_with (first
    |(refine wpList_load_row rfl 51 (.tmp 2) rfl w.heap.size rfl 51 _ (0,0) _ R1.out Tryz.underlying51 rfl (by kernel_rfl) ?_)
    |(refine wpList_store_row rfl 51 (.tmp 4) (.tmp 21) rfl (w.heap.size+1) _ rfl rfl 51 _ R2.out (by kernel_rfl) rfl (by kernel_rfl) ?_))
   (try simp only [Exit.inBlock,Exit.then])
   refine bodyPost_ret (zaG rfl _ _ (w.heap.size+1) 51 _ (0,0) _ rfl (setRow_heap _ _ _ _ _ _ R2.out) Tryz.underlying51 rfl (by kernel_rfl)) rfl ?_;exact ⟨rfl,below_setRow b2.out (Nat.le_succ _) _⟩
  ·have h2:1099511627776<t:=by rcases h with h|h|h
                               ·cases h
                               ·exact absurd h h1
                               ·exact h
   clear h;go_enter Tryz.func64,Tryz.ntmps64;go_wp2_with fail;refine (hr.out _).mono ?_;rintro e w1 ⟨rfl,b1⟩;have s1:=b1.size;have e1:=b1.block w.heap.size (by simp;omega);have e2:=b1.block (w.heap.size+1) (by simp);rw [heap_alloc2_old] at e1;rw [heap_alloc2_new] at e2;have b2:=hide ((((Below.refl _ w).alloc (Nat.le_refl _) _).alloc (by simp) _).trans (b1.mono (by simp;omega)));have R1:=hide e1;have R2:=hide e2;clear b1 s1;clear e1 e2
   go_wp2_with (first
    |(refine wpList_load_row rfl 51 (.tmp 2) rfl w.heap.size rfl 51 _ (0,0) _ R1.out Tryz.underlying51 rfl (by kernel_rfl) ?_)
    |(refine wpList_store_row rfl 51 (.tmp 4) (.tmp 21) rfl (w.heap.size+1) _ rfl rfl 51 _ R2.out (by kernel_rfl) rfl (by kernel_rfl) ?_))
   (try simp only [Exit.inBlock,Exit.then])
   refine bodyPost_ret (zaG rfl _ _ (w.heap.size+1) 51 _ (0,0) _ rfl (setRow_heap _ _ _ _ _ _ R2.out) Tryz.underlying51 rfl (by kernel_rfl)) rfl ?_;exact ⟨rfl,below_setRow b2.out (Nat.le_succ _) _⟩
theorem zAN (r c p t:Int) (h:okT r c true p=true) (t0:1≤t) (t1:t≤1099511627776) (w:World):Calls Tryz.prog 64 #[.agg #[.int .i64 r,.int .i64 c,.bool true,.int .i64 p],.int .i64 t] w fun e w'=>
  e=.returned (.tuple #[.agg #[.int .i64 r,.int .i64 (zpb r c ((t+p)/3072)),.bool true,.int .i64 ((t+p)%3072)],.int .i64 (zgG r c ((t+p)/3072))])∧Below w.heap.size w w':=by
 have hr:=hide (znu r c true p);rw [h] at hr;obtain ⟨r0,r1,c0,c1,p0,p1⟩:=zfV h;have p1:p≤3071:=p1;clear h;obtain ⟨T,hT⟩:∃T,t+p=T:=⟨_,rfl⟩
 obtain ⟨s,hs⟩:∃s,T/3072=s:=⟨_,rfl⟩
 obtain ⟨m,hm⟩:∃m,r+1=m:=⟨_,rfl⟩
 rw [hT,hs];have s0:0≤s:=by omega
 have s1:s≤357913943:=by omega
 have hM:=zyi r c s r0 c0 s0 r1;have hQ:0≤zgG r c s:=(zrE r c s r0 c0).1;unfold zpb;obtain ⟨q,hq⟩:∃q,q=zgG r c s:=⟨_,rfl⟩
 rw [←hq] at hM hQ ⊢;unfold zgG at hq;rw [hm] at hM hq ⊢;have CR:=hide (fun b d w h0 h1 h2=>zpc s c r m q b d w h0 h1 h2 (by omega) r0 r1 c0 c1 s0 (by omega) hq);clear hq;obtain ⟨M,em⟩:∃M,q*m=M:=⟨_,rfl⟩
 rw [em] at hM ⊢;obtain ⟨M0,M1⟩:=hM;obtain ⟨x,hx⟩:∃x,c+(M-s)=x:=⟨_,rfl⟩
 obtain ⟨u,hu⟩:∃u,T%3072=u:=⟨_,rfl⟩
 rw [hx,hu];go_enter Tryz.func64,Tryz.ntmps64;go_wp2_with fail;refine (hr.out _).mono ?_;rintro e w1 ⟨rfl,b1⟩;have s1:=b1.size;have e1:=b1.block w.heap.size (by simp;omega);have e2:=b1.block (w.heap.size+1) (by simp);rw [heap_alloc2_old] at e1;rw [heap_alloc2_new] at e2;have b2:=hide ((((Below.refl _ w).alloc (Nat.le_refl _) _).alloc (by simp) _).trans (b1.mono (by simp;omega)));have R1:=hide e1;have R2:=hide e2;clear b1 s1;have d0:=(cell_of_row w1 w.heap.size 0 _ _ _ e1).trans rfl;have d1:=(cell_of_row w1 w.heap.size 1 _ _ _ e1).trans rfl;have d2:=(cell_of_row w1 w.heap.size 2 _ _ _ e1).trans rfl;have d3:=(cell_of_row w1 w.heap.size 3 _ _ _ e1).trans rfl;have lt1:=lt_of_block e2;have lt0:=lt_of_block e1;have ne1:¬w.heap.size=w1.heap.size:=by omega
 have f1:=frozen_of_row w1 w.heap.size 1 _ _ e1;have f3:=frozen_of_row w1 w.heap.size 3 _ _ e1;clear e1 e2;go_wp2_with fail;refine (CR.out _ _ _ ?_ ?_ ?_).mono ?_
 ·rw [World.cell?_alloc_lt _ _ _ lt0];exact d0
 ·rw [World.cell?_alloc_lt _ _ _ lt0];exact d1
 ·simp
 rintro e w2 ⟨rfl,rfl⟩;have q2:(((w1.setCell ⟨w.heap.size,1,none⟩ (.int .i64 x)).setCell ⟨w.heap.size,3,none⟩ (.int .i64 u)).alloc (.cells #[.int .i64 m] 3)).heap[w.heap.size+1]? = some (.cells #[.int .i64 0,.int .i64 0,.bool false,.int .i64 0] 51 (0,0)):=by
  rw [heap_alloc_old _ _ (by simpa using lt1),heap_setCell_other _ _ _ _ (by simp),heap_setCell_other _ _ _ _ (by simp)];exact R2.out
 have b3:Below w.heap.size w (((w1.setCell ⟨w.heap.size,1,none⟩ (.int .i64 x)).setCell ⟨w.heap.size,3,none⟩ (.int .i64 u)).alloc (.cells #[.int .i64 m] 3)):=
  ((b2.out.setCell (p:=⟨w.heap.size,1,none⟩) (Nat.le_refl _) _).setCell (p:=⟨w.heap.size,3,none⟩) (Nat.le_refl _) _).alloc (by simp;omega) _
 have Q2:=hide q2;have B3:=hide b3;clear q2 b3
 go_wp2_with (first
  |(refine wpList_store_row rfl 51 (.tmp 4) (.tmp 47) rfl (w.heap.size+1) _ rfl rfl 51 _ Q2.out (by kernel_rfl) rfl (by kernel_rfl) ?_))
 (try simp only [Exit.inBlock,Exit.then])
 refine bodyPost_ret (zaG rfl _ _ (w.heap.size+1) 51 _ (0,0) _ rfl (setRow_heap _ _ _ _ _ _ Q2.out) Tryz.underlying51 rfl (by kernel_rfl)) rfl ?_;exact ⟨rfl,below_setRow B3.out (Nat.le_succ _) _⟩
theorem and_127 (n:Int):bits .and .i64 n 127=n%128:=zbt 7 (by decide) n
theorem low_7 (b:Int):bits .and .i64 (b%256) 127=b%128:=by rw [and_127];omega
theorem bit_0 (b:Int):zaV b 0=b%2:=by
 rw [zhu b 0 (by decide) (by decide)];show b%65536/1%2=b%2;omega
def ctlC (r c:Int) (o on:Bool):Int:=if on&&!o then r else c
def ctlP (p:Int) (o on:Bool):Int:=if on&&o then p else 0
theorem zmp (r c:Int) (o:Bool) (p:Int) (on:Bool) (w:World):Calls Tryz.prog 247 #[.agg #[.int .i64 r,.int .i64 c,.bool o,.int .i64 p],.bool on] w fun e w'=>
  e=.returned (.agg #[.int .i64 r,.int .i64 (ctlC r c o on),.bool on,.int .i64 (ctlP p o on)])∧Below w.heap.size w w':=by
 cases on<;>cases o
 all_goals
  go_enter Tryz.func247,Tryz.ntmps247;go_wp2;go_returns;exact ⟨rfl,((Below.refl _ w).alloc (Nat.le_refl _) _).alloc (by simp) _⟩
theorem write_0 (r c:Int) (o:Bool) (p b:Int) (w:World):Calls Tryz.prog 211 #[.agg #[.int .i64 r,.int .i64 c,.bool o,.int .i64 p],.int .i64 0,.int .i64 b] w fun e w'=>
  e=.returned (.agg #[.int .i64 (b%128),.int .i64 c,.bool o,.int .i64 p])∧Below w.heap.size w w':=by
 have e7:=low_7 b;go_enter Tryz.func211,Tryz.ntmps211;go_wp2_with (first|(go_at_call 69;refine (zam _ _).mono ?_;rintro e w' ⟨rfl,rfl⟩));go_returns;exact ⟨rfl,((Below.refl _ w).alloc (Nat.le_refl _) _).alloc (by simp) _⟩
theorem write_1 (r c:Int) (o:Bool) (p b:Int) (on:Bool) (hon:on=(b%2==1)) (w:World):Calls Tryz.prog 211 #[.agg #[.int .i64 r,.int .i64 c,.bool o,.int .i64 p],.int .i64 1,.int .i64 b] w fun e w'=>
  e=.returned (.agg #[.int .i64 r,.int .i64 (ctlC r c o on),.bool on,.int .i64 (ctlP p o on)])∧Below w.heap.size w w':=by
 have CB:=hide (zaZ b 0);rw [bit_0] at CB;obtain ⟨q,hq⟩:∃q,b%2=q:=⟨_,rfl⟩
 rw [hq] at CB hon;have CC:=hide (zmp r c o p on);replace hon:=hon.symm;clear hq;generalize ctlC r c o on=c' at *;generalize ctlP p o on=p' at *;go_enter Tryz.func211,Tryz.ntmps211;go_wp2_with fail;obtain ⟨wr,hwr⟩:∃wr,wr=(w.alloc (.cells #[.int .i64 r,.int .i64 c,.bool o,.int .i64 p] 51)).alloc (.cells #[.int .i64 0,.int .i64 0,.bool false,.int .i64 0] 51):=⟨_,rfl⟩
 have e1:wr.heap[w.heap.size]? = some (.cells #[.int .i64 r,.int .i64 c,.bool o,.int .i64 p] 51 (0,0)):=by rw [hwr];exact heap_alloc2_old _ _ _
 have R2:=hide (show wr.heap[w.heap.size+1]? = some (.cells #[.int .i64 0,.int .i64 0,.bool false,.int .i64 0] 51 (0,0)) by rw [hwr];exact heap_alloc2_new _ _ _);have BW:=hide (show Below w.heap.size w wr by rw [hwr];exact ((Below.refl _ w).alloc (Nat.le_refl _) _).alloc (by simp) _);have LT:=hide (lt_of_block e1);have k0:=zah ((cell_of_row wr w.heap.size 0 _ _ _ e1).trans rfl) LT.out;have k1:=zah ((cell_of_row wr w.heap.size 1 _ _ _ e1).trans rfl) LT.out;have k2:=zah ((cell_of_row wr w.heap.size 2 _ _ _ e1).trans rfl) LT.out;have k3:=zah ((cell_of_row wr w.heap.size 3 _ _ _ e1).trans rfl) LT.out;rw [←hwr];clear hwr e1;haveI:=zax wr;refine zaR _ _ (show _=[_,_,_,_,_]++[_] from rfl) (by kernel_rfl) (by kernel_rfl) (by kernel_rfl) ?_
 repeat (go_big_quiet_step ((first
  |(go_at_call 68;exact zaF (CB.out _))
  |(go_at_call 247;exact zaL (CC.out _)))))
 refine wpQuiet_nil ?_;rintro _ ⟨wk,rfl⟩;have R3:=hide ((wk.block (w.heap.size+1) (lt_of_block R2.out)).trans R2.out);have B3:=hide (zaz BW.out wk.below);clear CB CC k0 k1 k2 k3 R2 BW LT
 go_wp2_with (first
  |(refine wpList_store_row rfl 51 (.tmp 6) (.tmp 20) rfl (w.heap.size+1) _ rfl rfl 51 _ R3.out (by kernel_rfl) rfl (by kernel_rfl) ?_))
 (try simp only [Exit.inBlock,Exit.then])
 refine bodyPost_ret (results_cell_row rfl _ _ (w.heap.size+1) 51 _ (0,0) _ rfl (setRow_heap _ _ _ _ _ _ R3.out) Tryz.underlying51 rfl (by kernel_rfl)) rfl ?_;exact ⟨rfl,below_setRow B3.out (Nat.le_succ _) _⟩
end Go.Proofs.YtdiidjehdginnaaGreatDoor.T10
