/- Texts put together. -/
import Derived.Test.YtoijhhbiknhlnaaGreatDoorCpuSpeedsJ06
import Derived.Test.YtoijhhbiknhlnaaGreatDoorCpuSpeedsJ04
import Derived.Test.YtoijhhbiknhlnaaGreatDoorCpuSpeedsJ10
import Derived.Test.YtoijhhbiknhlnaaGreatDoorCpuSpeedsJ02
import Derived.Test.YtoijhhbiknhlnaaGreatDoorCpuSpeedsJ01
import Derived.Handy
namespace Go.Proofs.YtoijhhbiknhlnaaGreatDoor.L24
set_option maxRecDepth 20000
open C3 G6 P22 R15 W13
open Go.RowKit
set_option linter.unusedVariables false
def pl:List (Nat×(Nat→Value))→List Value
 |[]=>[]
 |(n,f)::r=>(List.range n).map f++pl r
theorem ztS:∀A B,pl (A++B)=pl A++pl B
 |[],B=>rfl
 |(n,f)::r,B=>by
  show (List.range n).map f++pl (r++B)=((List.range n).map f++pl r)++pl B;rw [ztS r B,List.append_assoc]
def psum:List (Nat×(Nat→Value))→Nat
 |[]=>0
 |(n,_)::r=>n+psum r
theorem zky:∀L:List (Nat×(Nat→Value)),(List.range (psum L)).map (segs L)=pl L
 |[]=>rfl
 |(n,f)::r=>by
  show (List.range (n+psum r)).map (segs ((n,f)::r))=(List.range n).map f++pl r;rw [List.range_add,List.map_append,List.map_map,←zky r]
  congr 1
  ·apply List.map_congr_left;intro j hj;rw [zcg,if_pos (List.mem_range.1 hj)]
  ·apply List.map_congr_left;intro j _;show segs ((n,f)::r) (n+j)=segs r j;rw [zcg,if_neg (by omega),show n+j-n=j by omega]
theorem zxX (L:List (Nat×(Nat→Value))) {N:Nat} (h:psum L=N):rowF (segs L) N=(pl L).toArray:=by
 subst h;apply Array.toList_inj.1;rw [zfe,←zky]
theorem zlw:∀(L:List (Nat×(Nat→Value))) (k n:Nat) (s:Nat→Value),L[k]? = some (n,s)→∃A C,pl L=A++((List.range n).map s++C)∧A.length=soff L k∧∀s',pl (L.set k (n,s'))=A++((List.range n).map s'++C)
 |[],k,n,s,h=>by simp at h
 |(m,g)::r,0,n,s,h=>by
  obtain ⟨rfl,rfl⟩:m=n∧g=s:=by simpa using h
  exact ⟨[],pl r,rfl,rfl,fun s'=>rfl⟩
 |(m,g)::r,k+1,n,s,h=>by
  obtain ⟨A,C,e1,e2,e3⟩:=zlw r k n s (by simpa using h);refine ⟨(List.range m).map g++A,C,?_,?_,fun s'=>?_⟩
  ·show (List.range m).map g++pl r=_;rw [e1,List.append_assoc]
  ·rw [List.length_append,List.length_map,List.length_range,e2,zfg]
  ·rw [List.set_cons_succ];show (List.range m).map g++pl (r.set k (n,s'))=_;rw [e3,List.append_assoc]
theorem zlx (off:Nat):∀(cs B A C:List Value) (k:Nat),B.length=cs.length→A.length=off+k→(cs.zipIdx k).foldl (fun (acc:Array Value) (p:Value×Nat)=>acc.setIfInBounds (off+p.2) p.1) (A++(B++C)).toArray=(A++(cs++C)).toArray
 |[],B,A,C,k,h,_=>by
  cases B with
  |nil=>rfl
  |cons b B=>cases h
 |c::cs,B,A,C,k,h,hA=>by
  cases B with
  |nil=>cases h
  |cons b B=>
   rw [List.zipIdx_cons,List.foldl_cons];have e:(A++(b::B++C)).toArray.setIfInBounds (off+k) c=((A++[c])++(B++C)).toArray:=by
    rw [←hA,List.setIfInBounds_toArray,List.set_append_right _ _ (Nat.le_refl _),Nat.sub_self];simp
   show List.foldl _ ((A++(b::B++C)).toArray.setIfInBounds (off+k) c) _=_;rw [e,zlx off cs B (A++[c]) C (k+1) (by simpa using h) (by simp;omega)];simp
theorem zfl {place:Nat→Option (Nat×Nat)} {i off size:Nat} {v:Value} {rest:List (Nat×Value)} {L:List (Nat×(Nat→Value))} (k:Nat) {s s':Nat→Value} (hk:L[k]? = some (size,s)) (ho:soff L k=off) (hp:place i=some (off,size)) (hv:v.cells=rowF s' size):
  Instr.fill place (pl L).toArray ((i,v)::rest)=Instr.fill place (pl (L.set k (size,s'))).toArray rest:=by
 obtain ⟨A,C,e1,e2,e3⟩:=zlw L k size s hk;have hs:v.cells.size=size:=by rw [hv,zaq]
 rw [Instr.fill,hp];simp only [hs];rw [e1,e3 s',if_neg (by simp [e2,ho])]
 congr 1
 rw [←Array.foldl_toList,Array.toList_zipIdx,hv,zfe];exact zlx off _ _ A C 0 (by simp) (by omega)
def zuN:Value→Value→Bool
 |.int .i64 a,.int .i64 b=>decide (a=b)
 |.int .u8 a,.int .u8 b=>decide (a=b)
 |.bool a,.bool b=>a==b
 |.pointer none,.pointer none=>true
 |_,_=>false
theorem zrG {a b:Value} (h:zuN a b=true):b=a:=by
 unfold zuN at h;split at h
 ·rw [of_decide_eq_true h]
 ·rw [of_decide_eq_true h]
 ·rw [eq_of_beq h]
 ·rfl
 ·cases h
def zmG:Nat→Nat→(Nat→Value)→List Value→Option (List Value)
 |0,_,_,xs=>some xs
 |n+1,i,f,x::xs=>match zuN (f i) x with|true=>zmG n (i+1) f xs|false=>none
 |_+1,_,_,[]=>none
theorem zly:∀(n i:Nat) (f:Nat→Value) (xs ys:List Value),zmG n i f xs=some ys→xs=(List.range' i n).map f++ys
 |0,i,f,xs,ys,h=>by
  obtain rfl:xs=ys:=by simpa [zmG] using h
  rfl
 |n+1,i,f,[],ys,h=>by simp [zmG] at h
 |n+1,i,f,x::xs,ys,h=>by
  unfold zmG at h;split at h
  ·rename_i e;rw [zrG e,zly n (i+1) f xs ys h,List.range'_succ];rfl
  ·cases h
def chkB:List (Nat×(Nat→Value))→List Value→Bool
 |[],[]=>true
 |[],_::_=>false
 |(n,f)::r,xs=>match zmG n 0 f xs with|some ys=>chkB r ys|none=>false
theorem zoF:∀(L:List (Nat×(Nat→Value))) (xs:List Value),chkB L xs=true→xs=pl L
 |[],[],_=>rfl
 |[],x::xs,h=>by simp [chkB] at h
 |(n,f)::r,xs,h=>by
  unfold chkB at h;split at h
  ·rename_i ys e;rw [zly n 0 f xs ys e,zoF r ys h,←List.range_eq_range'];rfl
  ·cases h
def zoG (L:List (Nat×(Nat→Value))):Option Value→Bool|some (.agg ⟨xs⟩)=>chkB L xs|_=>false
theorem zmH {L:List (Nat×(Nat→Value))} {v:Option Value} (h:zoG L v=true):v=some (.agg (pl L).toArray):=by
 unfold zoG at h;split at h
 ·rw [zoF _ _ h]
 ·cases h
def t0C:Nat→Value:=fun j=>if j=2 then .bool false else .int .i64 0
def p0C:Nat→Value:=fun j=>if j<3 then .bool false else .int .i64 0
def a0C:Nat→Value:=fun j=>if j%2=0 then .int .i64 0 else .bool false
def fl0:Nat→Int:=fun j=>if j=1 then 248 else 0
def LR (cp:Value) (fl ps:Nat→Int) (hd:Int):List (Nat×(Nat→Value)):=
 [(1,fun _=>cp),(1,fun _=>.int .i64 0),(8192,fun _=>.int .u8 0),(8,iv fl),(514,iv fun _=>0),(244,iv ps),(4,t0C),(2,iv fun _=>0),(4,p0C),(10,a0C),(1,fun _=>.int .i64 hd),(1,fun _=>.int .i64 0)]
def LVp (vp:Value):List (Nat×(Nat→Value)):=[(21,iv fun _=>0),(1,fun _=>vp),(256,iv fun _=>0),(1,fun _=>.int .i64 0),(1,fun _=>.bool false),(1,fun _=>.bool false)]
def LV (v:Nat):List (Nat×(Nat→Value)):=LVp (.pointer (some ⟨v,0,none⟩))
def LB (v c:Nat):List (Nat×(Nat→Value)):=LV v++LR (.pointer (some ⟨c,0,none⟩)) fl0 zcv 255
def L0:List (Nat×(Nat→Value)):=LVp (.pointer none)++LR (.pointer none) (fun _=>0) (fun _=>0) 0
theorem zrH:Tryz.t55.zero=some (.agg (pl L0).toArray):=zmH (by kernel_rfl)
theorem zlz (vp:Value) (R:List (Nat×(Nat→Value))):pl (LVp vp++R)=pl ((281,segs (LVp vp))::R):=by
 rw [ztS,←zky (LVp vp)];rfl
set_option maxRecDepth 100000 in
theorem zoH (parts:List (Nat×Value)):Tryz.prog.built 55 parts=Instr.fill (fun i=>#[(0,281),(281,1),(282,1),(283,8192),(8475,8),(8483,514),(8997,244),(9241,4),(9245,2),(9247,4),(9251,10),(9261,1),(9262,1)][i]?) (pl L0).toArray parts:=by
 have h1:Tryz.prog.info? 55=some Tryz.t55:=by kernel_rfl
 unfold Program.built;simp only [h1,Tryz.underlying55,zrH];rfl
theorem zuO (v:Nat) (w:World):(Instr.build 31 #[(0,.agg (rowG 0 fun _=>0)),(1,.pointer (some ⟨v,0,none⟩))]).run Tryz.prog w=.ok (.agg (rowF (segs (LV v)) 281)) w:=run_build w _ _ _ (by kernel_rfl)
theorem zrI (p:Nat→Option (Nat×Nat)) (c:Array Value):Instr.fill p c []=some c:=by rw [Instr.fill]
theorem zoI (place:Nat→Option (Nat×Nat)) (p0:place 0=some (0,281)) (p1:place 1=some (281,1)) (p4:place 4=some (8475,8)) (p6:place 6=some (8997,244)) (p11:place 11=some (9261,1)) (s s':Nat→Value) (cp:Value) (hc:cp.cells=#[cp]):
  Instr.fill place (pl ((281,s)::LR (.pointer none) (fun _=>0) (fun _=>0) 0)).toArray [(0,.agg (rowF s' 281)),(1,cp),(4,.agg (rowF (iv fl0) 8)),(6,.agg (rowF (iv zcv) 244)),(11,.int .i64 255)]=some (pl ((281,s')::LR cp fl0 zcv 255)).toArray:=by
 rw [zfl 0 (size:=281) (off:=0) rfl (of_decide_eq_true (by kernel_rfl)) p0 (s':=s') rfl];rw [zfl 1 (size:=1) (off:=281) rfl (of_decide_eq_true (by kernel_rfl)) p1 (s':=fun _=>cp) hc];rw [zfl 4 (size:=8) (off:=8475) rfl (of_decide_eq_true (by kernel_rfl)) p4 (s':=iv fl0) rfl];rw [zfl 6 (size:=244) (off:=8997) rfl (of_decide_eq_true (by kernel_rfl)) p6 (s':=iv zcv) rfl];rw [zfl 11 (size:=1) (off:=9261) rfl (of_decide_eq_true (by kernel_rfl)) p11 (s':=fun _=>.int .i64 255) rfl];rw [zrI];refine congrArg (fun L=>some (pl L).toArray) ?_;rfl
theorem zxY (v c:Nat):psum (LB v c)=9263:=of_decide_eq_true (by kernel_rfl)
theorem zrJ (v c:Nat):pl (LB v c)=pl ((281,segs (LV v))::LR (.pointer (some ⟨c,0,none⟩)) fl0 zcv 255):=zlz _ _
theorem zrK:pl L0=pl ((281,segs (LVp (.pointer none)))::LR (.pointer none) (fun _=>0) (fun _=>0) 0):=zlz _ _
theorem zuP (v c:Nat) (w:World):(Instr.build 55 #[(0,.agg (rowF (segs (LV v)) 281)),(1,.pointer (some ⟨c,0,none⟩)),(4,.agg (rowF (iv fl0) 8)),(6,.agg (rowF (iv zcv) 244)),(11,.int .i64 255)]).run Tryz.prog w=.ok (.agg (rowF (segs (LB v c)) 9263)) w:=by
 have e1:rowF (segs (LB v c)) 9263=(pl (LB v c)).toArray:=zxX (LB v c) (zxY v c);have e2:=zoH [(0,.agg (rowF (segs (LV v)) 281)),(1,.pointer (some ⟨c,0,none⟩)),(4,.agg (rowF (iv fl0) 8)),(6,.agg (rowF (iv zcv) 244)),(11,.int .i64 255)];rw [zrK,zoI _ rfl rfl rfl rfl rfl _ _ _ rfl,←zrJ,←e1] at e2;exact run_build w _ _ _ e2
end Go.Proofs.YtoijhhbiknhlnaaGreatDoor.L24
namespace Go.Proofs.YtoijhhbiknhlnaaGreatDoor.M5
set_option maxRecDepth 20000
open Go.RowKit
set_option linter.unusedVariables false
def zlA (f:Nat→Int) (a:Int):Int:=f (a%65536/8192).toNat%256*8192+a%8192
def zcz (f:Nat→Int) (m b:Int) (k:Nat):Int:=if zaP m k=1 then b%256 else f k
def zcM (f:Nat→Int) (m b:Int) (k j:Nat):Int:=if j<k then zcz f m b j else f j
def zcC (f:Nat→Int) (m l:Int) (k:Nat):Nat→Int
 |0=>l%256
 |i+1=>if zaP m k=1 then f k%256 else zcC f m l (k+1) i
def zdl (f:Nat→Int) (m l:Int):Int:=zcC f m l 0 8
theorem nine {k:Nat} (h:k≤8):k=0∨k=1∨k=2∨k=3∨k=4∨k=5∨k=6∨k=7∨k=8:=by omega
theorem zrL (f:Nat→Int) (a:Int) (w:World):Calls Tryz.prog 167 #[.agg #[.int .i64 (f 0),.int .i64 (f 1),.int .i64 (f 2),.int .i64 (f 3),.int .i64 (f 4),.int .i64 (f 5),.int .i64 (f 6),.int .i64 (f 7)],.int .i64 a] w fun e w'=>e=.returned (.int .i64 (zlA f a))∧Below w.heap.size w w':=by
 have e:zlA f a=f (a%65536/8192).toNat%256*8192+a%8192:=rfl;have h:a%65536/8192=0∨a%65536/8192=1∨a%65536/8192=2∨a%65536/8192=3∨a%65536/8192=4∨a%65536/8192=5∨a%65536/8192=6∨a%65536/8192=7:=by omega
 rcases h with h|h|h|h|h|h|h|h
 all_goals
  have E:=hide e;rw [h] at E;clear e;go_enter Tryz.func167,Tryz.ntmps167
  go_wp2_with (first
   |(go_at_call 33;refine (zbd _ _).mono ?_;rintro e w' ⟨rfl,rfl⟩)
   |(go_at_call 32;refine (zaj _ _).mono ?_;rintro e w' ⟨rfl,rfl⟩))
  go_ret;exact ⟨zay E.out.symm,(Below.refl _ w).alloc (Nat.le_refl _) _⟩
theorem fresh_any (w:World):Calls Tryz.prog 25 #[] w fun e w'=>e=.returned (.agg #[.int .i64 0,.int .i64 248,.int .i64 0,.int .i64 0,.int .i64 0,.int .i64 0,.int .i64 0,.int .i64 0])∧Below w.heap.size w w':=by
 go_enter Tryz.func25,Tryz.ntmps25;go_wp2;go_returns;exact ⟨rfl,(Below.refl _ w).alloc (Nat.le_refl _) _⟩
theorem zuQ (f:Nat→Int) (m l:Int) (w:World):Calls Tryz.prog 101 #[.agg #[.int .i64 (f 0),.int .i64 (f 1),.int .i64 (f 2),.int .i64 (f 3),.int .i64 (f 4),.int .i64 (f 5),.int .i64 (f 6),.int .i64 (f 7)],.int .i64 m,.int .i64 l] w fun e w'=>e=.returned (.int .i64 (zdl f m l))∧Below w.heap.size w w':=by
 go_enter Tryz.func101,Tryz.ntmps101;go_wp2;go_loopw [8] (fun i w'=>∃k:Nat,k≤8∧i=.int .i64 k∧zdl f m l=zcC f m l k (8-k)∧w'=w.alloc (.cells #[.int .i64 (f 0),.int .i64 (f 1),.int .i64 (f 2),.int .i64 (f 3),.int .i64 (f 4),.int .i64 (f 5),.int .i64 (f 6),.int .i64 (f 7)] 35)) (fun i _=>8-(intOf i).toNat)
 case atStart=>exact ⟨0,Nat.zero_le _,rfl,rfl,rfl⟩
 case round=>
  obtain ⟨k,hk,rfl,ht,rfl⟩:=hrel;have HT:=hide ht;clear ht;rcases nine hk with rfl|rfl|rfl|rfl|rfl|rfl|rfl|rfl|rfl
  ·by_cases hb:zaP m 0=1
   ·have HQ:Hid (zdl f m l=f 0%256):=HT.out.trans (if_pos hb)
    go_wp2_with (first
     |(go_at_call 56;refine (zaM _ _ _).mono ?_;rintro e w' ⟨rfl,rfl⟩)
     |(go_at_call 32;refine (zaj _ _).mono ?_;rintro e w' ⟨rfl,rfl⟩))
    go_ret;exact ⟨zay HQ.out.symm,(Below.refl _ w).alloc (Nat.le_refl _) _⟩
   ·have HQ:Hid (zdl f m l=zcC f m l (0+1) (8-(0+1))):=HT.out.trans (if_neg hb)
    go_wp2_with (first
     |(go_at_call 56;refine (zaM _ _ _).mono ?_;rintro e w' ⟨rfl,rfl⟩)
     |(go_at_call 32;refine (zaj _ _).mono ?_;rintro e w' ⟨rfl,rfl⟩))
    exact ⟨⟨0+1,by decide,rfl,HQ.out,by first|trivial|rfl⟩,by simp [intOf]⟩
  ·by_cases hb:zaP m 1=1
   ·have HQ:Hid (zdl f m l=f 1%256):=HT.out.trans (if_pos hb)
    go_wp2_with (first
     |(go_at_call 56;refine (zaM _ _ _).mono ?_;rintro e w' ⟨rfl,rfl⟩)
     |(go_at_call 32;refine (zaj _ _).mono ?_;rintro e w' ⟨rfl,rfl⟩))
    go_ret;exact ⟨zay HQ.out.symm,(Below.refl _ w).alloc (Nat.le_refl _) _⟩
   ·have HQ:Hid (zdl f m l=zcC f m l (1+1) (8-(1+1))):=HT.out.trans (if_neg hb)
    go_wp2_with (first
     |(go_at_call 56;refine (zaM _ _ _).mono ?_;rintro e w' ⟨rfl,rfl⟩)
     |(go_at_call 32;refine (zaj _ _).mono ?_;rintro e w' ⟨rfl,rfl⟩))
    exact ⟨⟨1+1,by decide,rfl,HQ.out,by first|trivial|rfl⟩,by simp [intOf]⟩
  ·by_cases hb:zaP m 2=1
   ·have HQ:Hid (zdl f m l=f 2%256):=HT.out.trans (if_pos hb)
    go_wp2_with (first
     |(go_at_call 56;refine (zaM _ _ _).mono ?_;rintro e w' ⟨rfl,rfl⟩)
     |(go_at_call 32;refine (zaj _ _).mono ?_;rintro e w' ⟨rfl,rfl⟩))
    go_ret;exact ⟨zay HQ.out.symm,(Below.refl _ w).alloc (Nat.le_refl _) _⟩
   ·have HQ:Hid (zdl f m l=zcC f m l (2+1) (8-(2+1))):=HT.out.trans (if_neg hb)
    go_wp2_with (first
     |(go_at_call 56;refine (zaM _ _ _).mono ?_;rintro e w' ⟨rfl,rfl⟩)
     |(go_at_call 32;refine (zaj _ _).mono ?_;rintro e w' ⟨rfl,rfl⟩))
    exact ⟨⟨2+1,by decide,rfl,HQ.out,by first|trivial|rfl⟩,by simp [intOf]⟩
  ·by_cases hb:zaP m 3=1
   ·have HQ:Hid (zdl f m l=f 3%256):=HT.out.trans (if_pos hb)
    go_wp2_with (first
     |(go_at_call 56;refine (zaM _ _ _).mono ?_;rintro e w' ⟨rfl,rfl⟩)
     |(go_at_call 32;refine (zaj _ _).mono ?_;rintro e w' ⟨rfl,rfl⟩))
    go_ret;exact ⟨zay HQ.out.symm,(Below.refl _ w).alloc (Nat.le_refl _) _⟩
   ·have HQ:Hid (zdl f m l=zcC f m l (3+1) (8-(3+1))):=HT.out.trans (if_neg hb)
    go_wp2_with (first
     |(go_at_call 56;refine (zaM _ _ _).mono ?_;rintro e w' ⟨rfl,rfl⟩)
     |(go_at_call 32;refine (zaj _ _).mono ?_;rintro e w' ⟨rfl,rfl⟩))
    exact ⟨⟨3+1,by decide,rfl,HQ.out,by first|trivial|rfl⟩,by simp [intOf]⟩
  ·by_cases hb:zaP m 4=1
   ·have HQ:Hid (zdl f m l=f 4%256):=HT.out.trans (if_pos hb)
    go_wp2_with (first
     |(go_at_call 56;refine (zaM _ _ _).mono ?_;rintro e w' ⟨rfl,rfl⟩)
     |(go_at_call 32;refine (zaj _ _).mono ?_;rintro e w' ⟨rfl,rfl⟩))
    go_ret;exact ⟨zay HQ.out.symm,(Below.refl _ w).alloc (Nat.le_refl _) _⟩
   ·have HQ:Hid (zdl f m l=zcC f m l (4+1) (8-(4+1))):=HT.out.trans (if_neg hb)
    go_wp2_with (first
     |(go_at_call 56;refine (zaM _ _ _).mono ?_;rintro e w' ⟨rfl,rfl⟩)
     |(go_at_call 32;refine (zaj _ _).mono ?_;rintro e w' ⟨rfl,rfl⟩))
    exact ⟨⟨4+1,by decide,rfl,HQ.out,by first|trivial|rfl⟩,by simp [intOf]⟩
  ·by_cases hb:zaP m 5=1
   ·have HQ:Hid (zdl f m l=f 5%256):=HT.out.trans (if_pos hb)
    go_wp2_with (first
     |(go_at_call 56;refine (zaM _ _ _).mono ?_;rintro e w' ⟨rfl,rfl⟩)
     |(go_at_call 32;refine (zaj _ _).mono ?_;rintro e w' ⟨rfl,rfl⟩))
    go_ret;exact ⟨zay HQ.out.symm,(Below.refl _ w).alloc (Nat.le_refl _) _⟩
   ·have HQ:Hid (zdl f m l=zcC f m l (5+1) (8-(5+1))):=HT.out.trans (if_neg hb)
    go_wp2_with (first
     |(go_at_call 56;refine (zaM _ _ _).mono ?_;rintro e w' ⟨rfl,rfl⟩)
     |(go_at_call 32;refine (zaj _ _).mono ?_;rintro e w' ⟨rfl,rfl⟩))
    exact ⟨⟨5+1,by decide,rfl,HQ.out,by first|trivial|rfl⟩,by simp [intOf]⟩
  ·by_cases hb:zaP m 6=1
   ·have HQ:Hid (zdl f m l=f 6%256):=HT.out.trans (if_pos hb)
    go_wp2_with (first
     |(go_at_call 56;refine (zaM _ _ _).mono ?_;rintro e w' ⟨rfl,rfl⟩)
     |(go_at_call 32;refine (zaj _ _).mono ?_;rintro e w' ⟨rfl,rfl⟩))
    go_ret;exact ⟨zay HQ.out.symm,(Below.refl _ w).alloc (Nat.le_refl _) _⟩
   ·have HQ:Hid (zdl f m l=zcC f m l (6+1) (8-(6+1))):=HT.out.trans (if_neg hb)
    go_wp2_with (first
     |(go_at_call 56;refine (zaM _ _ _).mono ?_;rintro e w' ⟨rfl,rfl⟩)
     |(go_at_call 32;refine (zaj _ _).mono ?_;rintro e w' ⟨rfl,rfl⟩))
    exact ⟨⟨6+1,by decide,rfl,HQ.out,by first|trivial|rfl⟩,by simp [intOf]⟩
  ·by_cases hb:zaP m 7=1
   ·have HQ:Hid (zdl f m l=f 7%256):=HT.out.trans (if_pos hb)
    go_wp2_with (first
     |(go_at_call 56;refine (zaM _ _ _).mono ?_;rintro e w' ⟨rfl,rfl⟩)
     |(go_at_call 32;refine (zaj _ _).mono ?_;rintro e w' ⟨rfl,rfl⟩))
    go_ret;exact ⟨zay HQ.out.symm,(Below.refl _ w).alloc (Nat.le_refl _) _⟩
   ·have HQ:Hid (zdl f m l=zcC f m l (7+1) (8-(7+1))):=HT.out.trans (if_neg hb)
    go_wp2_with (first
     |(go_at_call 56;refine (zaM _ _ _).mono ?_;rintro e w' ⟨rfl,rfl⟩)
     |(go_at_call 32;refine (zaj _ _).mono ?_;rintro e w' ⟨rfl,rfl⟩))
    exact ⟨⟨7+1,by decide,rfl,HQ.out,by first|trivial|rfl⟩,by simp [intOf]⟩
  ·go_wp2_with (go_at_call 32;refine (zaj _ _).mono ?_;rintro e w' ⟨rfl,rfl⟩);go_ret;exact ⟨zay HT.out.symm,(Below.refl _ w).alloc (Nat.le_refl _) _⟩
theorem zuR (f:Nat→Int) (m b:Int) (w:World):Calls Tryz.prog 24 #[.agg #[.int .i64 (f 0),.int .i64 (f 1),.int .i64 (f 2),.int .i64 (f 3),.int .i64 (f 4),.int .i64 (f 5),.int .i64 (f 6),.int .i64 (f 7)],.int .i64 m,.int .i64 b] w fun e w'=>e=.returned (.agg #[.int .i64 (zcz f m b 0),.int .i64 (zcz f m b 1),.int .i64 (zcz f m b 2),.int .i64 (zcz f m b 3),.int .i64 (zcz f m b 4),.int .i64 (zcz f m b 5),.int .i64 (zcz f m b 6),.int .i64 (zcz f m b 7)])∧Below w.heap.size w w':=by
 go_enter Tryz.func24,Tryz.ntmps24;go_wp2;go_loopw [8] (fun i w'=>∃k:Nat,k≤8∧i=.int .i64 k∧w'=(w.alloc (.cells #[.int .i64 (zcM f m b k 0),.int .i64 (zcM f m b k 1),.int .i64 (zcM f m b k 2),.int .i64 (zcM f m b k 3),.int .i64 (zcM f m b k 4),.int .i64 (zcM f m b k 5),.int .i64 (zcM f m b k 6),.int .i64 (zcM f m b k 7)] 35)).alloc (.cells #[.int .i64 0,.int .i64 0,.int .i64 0,.int .i64 0,.int .i64 0,.int .i64 0,.int .i64 0,.int .i64 0] 35)) (fun i _=>8-(intOf i).toNat)
 case atStart=>exact ⟨0,Nat.zero_le _,rfl,by simp [zcM]⟩
 case round=>
  obtain ⟨k,hk,rfl,rfl⟩:=hrel;rcases nine hk with rfl|rfl|rfl|rfl|rfl|rfl|rfl|rfl|rfl
  ·by_cases hb:zaP m 0=1
   ·have HQ:Hid (zcz f m b 0=b%256):=if_pos hb
    go_wp2_with (first
     |(go_at_call 56;refine (zaM _ _ _).mono ?_;rintro e w' ⟨rfl,rfl⟩)
     |(go_at_call 32;refine (zaj _ _).mono ?_;rintro e w' ⟨rfl,rfl⟩))
    exact ⟨⟨0+1,by decide,rfl,by simp [zcM,HQ.out]⟩,by simp [intOf]⟩
   ·have HQ:Hid (zcz f m b 0=f 0):=if_neg hb
    go_wp2_with (first
     |(go_at_call 56;refine (zaM _ _ _).mono ?_;rintro e w' ⟨rfl,rfl⟩)
     |(go_at_call 32;refine (zaj _ _).mono ?_;rintro e w' ⟨rfl,rfl⟩))
    exact ⟨⟨0+1,by decide,rfl,by simp [zcM,HQ.out]⟩,by simp [intOf]⟩
  ·by_cases hb:zaP m 1=1
   ·have HQ:Hid (zcz f m b 1=b%256):=if_pos hb
    go_wp2_with (first
     |(go_at_call 56;refine (zaM _ _ _).mono ?_;rintro e w' ⟨rfl,rfl⟩)
     |(go_at_call 32;refine (zaj _ _).mono ?_;rintro e w' ⟨rfl,rfl⟩))
    exact ⟨⟨1+1,by decide,rfl,by simp [zcM,HQ.out]⟩,by simp [intOf]⟩
   ·have HQ:Hid (zcz f m b 1=f 1):=if_neg hb
    go_wp2_with (first
     |(go_at_call 56;refine (zaM _ _ _).mono ?_;rintro e w' ⟨rfl,rfl⟩)
     |(go_at_call 32;refine (zaj _ _).mono ?_;rintro e w' ⟨rfl,rfl⟩))
    exact ⟨⟨1+1,by decide,rfl,by simp [zcM,HQ.out]⟩,by simp [intOf]⟩
  ·by_cases hb:zaP m 2=1
   ·have HQ:Hid (zcz f m b 2=b%256):=if_pos hb
    go_wp2_with (first
     |(go_at_call 56;refine (zaM _ _ _).mono ?_;rintro e w' ⟨rfl,rfl⟩)
     |(go_at_call 32;refine (zaj _ _).mono ?_;rintro e w' ⟨rfl,rfl⟩))
    exact ⟨⟨2+1,by decide,rfl,by simp [zcM,HQ.out]⟩,by simp [intOf]⟩
   ·have HQ:Hid (zcz f m b 2=f 2):=if_neg hb
    go_wp2_with (first
     |(go_at_call 56;refine (zaM _ _ _).mono ?_;rintro e w' ⟨rfl,rfl⟩)
     |(go_at_call 32;refine (zaj _ _).mono ?_;rintro e w' ⟨rfl,rfl⟩))
    exact ⟨⟨2+1,by decide,rfl,by simp [zcM,HQ.out]⟩,by simp [intOf]⟩
  ·by_cases hb:zaP m 3=1
   ·have HQ:Hid (zcz f m b 3=b%256):=if_pos hb
    go_wp2_with (first
     |(go_at_call 56;refine (zaM _ _ _).mono ?_;rintro e w' ⟨rfl,rfl⟩)
     |(go_at_call 32;refine (zaj _ _).mono ?_;rintro e w' ⟨rfl,rfl⟩))
    exact ⟨⟨3+1,by decide,rfl,by simp [zcM,HQ.out]⟩,by simp [intOf]⟩
   ·have HQ:Hid (zcz f m b 3=f 3):=if_neg hb
    go_wp2_with (first
     |(go_at_call 56;refine (zaM _ _ _).mono ?_;rintro e w' ⟨rfl,rfl⟩)
     |(go_at_call 32;refine (zaj _ _).mono ?_;rintro e w' ⟨rfl,rfl⟩))
    exact ⟨⟨3+1,by decide,rfl,by simp [zcM,HQ.out]⟩,by simp [intOf]⟩
  ·by_cases hb:zaP m 4=1
   ·have HQ:Hid (zcz f m b 4=b%256):=if_pos hb
    go_wp2_with (first
     |(go_at_call 56;refine (zaM _ _ _).mono ?_;rintro e w' ⟨rfl,rfl⟩)
     |(go_at_call 32;refine (zaj _ _).mono ?_;rintro e w' ⟨rfl,rfl⟩))
    exact ⟨⟨4+1,by decide,rfl,by simp [zcM,HQ.out]⟩,by simp [intOf]⟩
   ·have HQ:Hid (zcz f m b 4=f 4):=if_neg hb
    go_wp2_with (first
     |(go_at_call 56;refine (zaM _ _ _).mono ?_;rintro e w' ⟨rfl,rfl⟩)
     |(go_at_call 32;refine (zaj _ _).mono ?_;rintro e w' ⟨rfl,rfl⟩))
    exact ⟨⟨4+1,by decide,rfl,by simp [zcM,HQ.out]⟩,by simp [intOf]⟩
  ·by_cases hb:zaP m 5=1
   ·have HQ:Hid (zcz f m b 5=b%256):=if_pos hb
    go_wp2_with (first
     |(go_at_call 56;refine (zaM _ _ _).mono ?_;rintro e w' ⟨rfl,rfl⟩)
     |(go_at_call 32;refine (zaj _ _).mono ?_;rintro e w' ⟨rfl,rfl⟩))
    exact ⟨⟨5+1,by decide,rfl,by simp [zcM,HQ.out]⟩,by simp [intOf]⟩
   ·have HQ:Hid (zcz f m b 5=f 5):=if_neg hb
    go_wp2_with (first
     |(go_at_call 56;refine (zaM _ _ _).mono ?_;rintro e w' ⟨rfl,rfl⟩)
     |(go_at_call 32;refine (zaj _ _).mono ?_;rintro e w' ⟨rfl,rfl⟩))
    exact ⟨⟨5+1,by decide,rfl,by simp [zcM,HQ.out]⟩,by simp [intOf]⟩
  ·by_cases hb:zaP m 6=1
   ·have HQ:Hid (zcz f m b 6=b%256):=if_pos hb
    go_wp2_with (first
     |(go_at_call 56;refine (zaM _ _ _).mono ?_;rintro e w' ⟨rfl,rfl⟩)
     |(go_at_call 32;refine (zaj _ _).mono ?_;rintro e w' ⟨rfl,rfl⟩))
    exact ⟨⟨6+1,by decide,rfl,by simp [zcM,HQ.out]⟩,by simp [intOf]⟩
   ·have HQ:Hid (zcz f m b 6=f 6):=if_neg hb
    go_wp2_with (first
     |(go_at_call 56;refine (zaM _ _ _).mono ?_;rintro e w' ⟨rfl,rfl⟩)
     |(go_at_call 32;refine (zaj _ _).mono ?_;rintro e w' ⟨rfl,rfl⟩))
    exact ⟨⟨6+1,by decide,rfl,by simp [zcM,HQ.out]⟩,by simp [intOf]⟩
  ·by_cases hb:zaP m 7=1
   ·have HQ:Hid (zcz f m b 7=b%256):=if_pos hb
    go_wp2_with (first
     |(go_at_call 56;refine (zaM _ _ _).mono ?_;rintro e w' ⟨rfl,rfl⟩)
     |(go_at_call 32;refine (zaj _ _).mono ?_;rintro e w' ⟨rfl,rfl⟩))
    exact ⟨⟨7+1,by decide,rfl,by simp [zcM,HQ.out]⟩,by simp [intOf]⟩
   ·have HQ:Hid (zcz f m b 7=f 7):=if_neg hb
    go_wp2_with (first
     |(go_at_call 56;refine (zaM _ _ _).mono ?_;rintro e w' ⟨rfl,rfl⟩)
     |(go_at_call 32;refine (zaj _ _).mono ?_;rintro e w' ⟨rfl,rfl⟩))
    exact ⟨⟨7+1,by decide,rfl,by simp [zcM,HQ.out]⟩,by simp [intOf]⟩
  ·go_wp2;go_returns;exact ⟨by simp [zcM],((Below.refl _ w).alloc (Nat.le_refl _) _).alloc (by simp) _⟩
end Go.Proofs.YtoijhhbiknhlnaaGreatDoor.M5
