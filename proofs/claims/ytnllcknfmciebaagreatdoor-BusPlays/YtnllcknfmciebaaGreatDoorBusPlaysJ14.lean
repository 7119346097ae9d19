/- Texts put together. -/
import Derived.Test.YtnllcknfmciebaaGreatDoorBusPlaysJ07
import Derived.Test.YtnllcknfmciebaaGreatDoorBusPlaysJ05
import Derived.Test.YtnllcknfmciebaaGreatDoorBusPlaysJ13
import Derived.Test.YtnllcknfmciebaaGreatDoorBusPlaysJ03
import Derived.Test.YtnllcknfmciebaaGreatDoorBusPlaysJ01
import Derived.Handy
import Derived.Test.YtnllcknfmciebaaGreatDoorProg
import Derived.RegionTactic
import Derived.Deep.RegionLaw
import Derived.Test.YtnllcknfmciebaaGreatDoorRows
import Derived.Laws.CopyOwn
namespace Go.Proofs.YtnllcknfmciebaaGreatDoor.L24
set_option maxRecDepth 20000
open C3 G6 P22 R15 W13
open Go.RowKit
set_option linter.unusedVariables false
def pl:List (Nat×(Nat→Value))→List Value
 |[]=>[]
 |(n,f)::r=>(List.range n).map f++pl r
theorem pl_app:∀A B,pl (A++B)=pl A++pl B
 |[],B=>rfl
 |(n,f)::r,B=>by
  show (List.range n).map f++pl (r++B)=((List.range n).map f++pl r)++pl B
  rw [pl_app r B,List.append_assoc]
def psum:List (Nat×(Nat→Value))→Nat
 |[]=>0
 |(n,_)::r=>n+psum r
theorem pl_segs:∀L:List (Nat×(Nat→Value)),(List.range (psum L)).map (segs L)=pl L
 |[]=>rfl
 |(n,f)::r=>by
  show (List.range (n+psum r)).map (segs ((n,f)::r))=(List.range n).map f++pl r
  rw [List.range_add,List.map_append,List.map_map,←pl_segs r]
  congr 1
  ·apply List.map_congr_left
   intro j hj
   rw [segs_cons,if_pos (List.mem_range.1 hj)]
  ·apply List.map_congr_left
   intro j _
   show segs ((n,f)::r) (n+j)=segs r j
   rw [segs_cons,if_neg (by omega),show n+j-n=j by omega]
theorem pl_row (L:List (Nat×(Nat→Value))) {N:Nat} (h:psum L=N):rowF (segs L) N=(pl L).toArray:=by
 subst h
 apply Array.toList_inj.1
 rw [rowF_list,←pl_segs]
theorem pl_split:∀(L:List (Nat×(Nat→Value))) (k n:Nat) (s:Nat→Value),L[k]? = some (n,s)→∃A C,pl L=A++((List.range n).map s++C)∧A.length=soff L k∧∀s',pl (L.set k (n,s'))=A++((List.range n).map s'++C)
 |[],k,n,s,h=>by simp at h
 |(m,g)::r,0,n,s,h=>by
  obtain ⟨rfl,rfl⟩:m=n∧g=s:=by simpa using h
  exact ⟨[],pl r,rfl,rfl,fun s'=>rfl⟩
 |(m,g)::r,k+1,n,s,h=>by
  obtain ⟨A,C,e1,e2,e3⟩:=pl_split r k n s (by simpa using h)
  refine ⟨(List.range m).map g++A,C,?_,?_,fun s'=>?_⟩
  ·show (List.range m).map g++pl r=_
   rw [e1,List.append_assoc]
  ·rw [List.length_append,List.length_map,List.length_range,e2,soff_cons]
  ·rw [List.set_cons_succ]
   show (List.range m).map g++pl (r.set k (n,s'))=_
   rw [e3,List.append_assoc]
theorem fold_put (off:Nat):∀(cs B A C:List Value) (k:Nat),B.length=cs.length→A.length=off+k→(cs.zipIdx k).foldl (fun (acc:Array Value) (p:Value×Nat)=>acc.setIfInBounds (off+p.2) p.1) (A++(B++C)).toArray=(A++(cs++C)).toArray
 |[],B,A,C,k,h,_=>by
  cases B with
  |nil=>rfl
  |cons b B=>cases h
 |c::cs,B,A,C,k,h,hA=>by
  cases B with
  |nil=>cases h
  |cons b B=>
   rw [List.zipIdx_cons,List.foldl_cons]
   have e:(A++(b::B++C)).toArray.setIfInBounds (off+k) c=((A++[c])++(B++C)).toArray:=by
    rw [←hA,List.setIfInBounds_toArray,List.set_append_right _ _ (Nat.le_refl _),Nat.sub_self]
    simp
   show List.foldl _ ((A++(b::B++C)).toArray.setIfInBounds (off+k) c) _=_
   rw [e,fold_put off cs B (A++[c]) C (k+1) (by simpa using h) (by simp;omega)]
   simp
theorem fill_seg {place:Nat→Option (Nat×Nat)} {i off size:Nat} {v:Value} {rest:List (Nat×Value)} {L:List (Nat×(Nat→Value))} (k:Nat) {s s':Nat→Value} (hk:L[k]? = some (size,s)) (ho:soff L k=off) (hp:place i=some (off,size)) (hv:v.cells=rowF s' size):
  Instr.fill place (pl L).toArray ((i,v)::rest)=Instr.fill place (pl (L.set k (size,s'))).toArray rest:=by
 obtain ⟨A,C,e1,e2,e3⟩:=pl_split L k size s hk
 have hs:v.cells.size=size:=by rw [hv,rowF_size]
 rw [Instr.fill,hp]
 simp only [hs]
 rw [e1,e3 s',if_neg (by simp [e2,ho])]
 congr 1
 rw [←Array.foldl_toList,Array.toList_zipIdx,hv,rowF_list]
 exact fold_put off _ _ A C 0 (by simp) (by omega)
def sameV:Value→Value→Bool
 |.int .i64 a,.int .i64 b=>decide (a=b)
 |.int .u8 a,.int .u8 b=>decide (a=b)
 |.bool a,.bool b=>a==b
 |.pointer none,.pointer none=>true
 |_,_=>false
theorem sameV_eq {a b:Value} (h:sameV a b=true):b=a:=by
 unfold sameV at h
 split at h
 ·rw [of_decide_eq_true h]
 ·rw [of_decide_eq_true h]
 ·rw [eq_of_beq h]
 ·rfl
 ·cases h
def partB:Nat→Nat→(Nat→Value)→List Value→Option (List Value)
 |0,_,_,xs=>some xs
 |n+1,i,f,x::xs=>match sameV (f i) x with|true=>partB n (i+1) f xs|false=>none
 |_+1,_,_,[]=>none
theorem partB_eq:∀(n i:Nat) (f:Nat→Value) (xs ys:List Value),partB n i f xs=some ys→xs=(List.range' i n).map f++ys
 |0,i,f,xs,ys,h=>by
  obtain rfl:xs=ys:=by simpa [partB] using h
  rfl
 |n+1,i,f,[],ys,h=>by simp [partB] at h
 |n+1,i,f,x::xs,ys,h=>by
  unfold partB at h
  split at h
  ·rename_i e
   rw [sameV_eq e,partB_eq n (i+1) f xs ys h,List.range'_succ]
   rfl
  ·cases h
def chkB:List (Nat×(Nat→Value))→List Value→Bool
 |[],[]=>true
 |[],_::_=>false
 |(n,f)::r,xs=>match partB n 0 f xs with|some ys=>chkB r ys|none=>false
theorem chkB_eq:∀(L:List (Nat×(Nat→Value))) (xs:List Value),chkB L xs=true→xs=pl L
 |[],[],_=>rfl
 |[],x::xs,h=>by simp [chkB] at h
 |(n,f)::r,xs,h=>by
  unfold chkB at h
  split at h
  ·rename_i ys e
   rw [partB_eq n 0 f xs ys e,chkB_eq r ys h,←List.range_eq_range']
   rfl
  ·cases h
def isZeroB (L:List (Nat×(Nat→Value))):Option Value→Bool|some (.agg ⟨xs⟩)=>chkB L xs|_=>false
theorem isZeroB_eq {L:List (Nat×(Nat→Value))} {v:Option Value} (h:isZeroB L v=true):v=some (.agg (pl L).toArray):=by
 unfold isZeroB at h
 split at h
 ·rw [chkB_eq _ _ h]
 ·cases h
def t0C:Nat→Value:=fun j=>if j=2 then .bool false else .int .i64 0
def p0C:Nat→Value:=fun j=>if j<3 then .bool false else .int .i64 0
def a0C:Nat→Value:=fun j=>if j%2=0 then .int .i64 0 else .bool false
def fl0:Nat→Int:=fun j=>if j=1 then 248 else 0
def LR (cp:Value) (fl ps:Nat→Int) (hd:Int):List (Nat×(Nat→Value)):=
 [(1,fun _=>cp),(1,fun _=>.int .i64 0),(8192,fun _=>.int .u8 0),(8,iv fl),(514,iv fun _=>0),(244,iv ps),(4,t0C),(2,iv fun _=>0),(4,p0C),(10,a0C),(1,fun _=>.int .i64 hd),(1,fun _=>.int .i64 0)]
def LVp (vp:Value):List (Nat×(Nat→Value)):=[(21,iv fun _=>0),(1,fun _=>vp),(256,iv fun _=>0),(1,fun _=>.int .i64 0),(1,fun _=>.bool false),(1,fun _=>.bool false)]
def LV (v:Nat):List (Nat×(Nat→Value)):=LVp (.pointer (some ⟨v,0,none⟩))
def LB (v c:Nat):List (Nat×(Nat→Value)):=LV v++LR (.pointer (some ⟨c,0,none⟩)) fl0 freshF 255
def L0:List (Nat×(Nat→Value)):=LVp (.pointer none)++LR (.pointer none) (fun _=>0) (fun _=>0) 0
theorem zeroB_is:Tryz.t64.zero=some (.agg (pl L0).toArray):=isZeroB_eq (by kernel_rfl)
theorem pl_video (vp:Value) (R:List (Nat×(Nat→Value))):pl (LVp vp++R)=pl ((281,segs (LVp vp))::R):=by
 rw [pl_app,←pl_segs (LVp vp)]
 rfl
set_option maxRecDepth 100000 in
theorem builtB_of (parts:List (Nat×Value)):Tryz.prog.built 64 parts=Instr.fill (fun i=>#[(0,281),(281,1),(282,1),(283,8192),(8475,8),(8483,514),(8997,244),(9241,4),(9245,2),(9247,4),(9251,10),(9261,1),(9262,1)][i]?) (pl L0).toArray parts:=by
 have h1:Tryz.prog.info? 64=some Tryz.t64:=by kernel_rfl
 unfold Program.built
 simp only [h1,Tryz.underlying64,zeroB_is]
 rfl
theorem built_V (v:Nat) (w:World):(Instr.build 40 #[(0,.agg (rowG 0 fun _=>0)),(1,.pointer (some ⟨v,0,none⟩))]).run Tryz.prog w=.ok (.agg (rowF (segs (LV v)) 281)) w:=run_build w _ _ _ (by kernel_rfl)
theorem fill_nil (p:Nat→Option (Nat×Nat)) (c:Array Value):Instr.fill p c []=some c:=by rw [Instr.fill]
theorem fill_five (place:Nat→Option (Nat×Nat)) (p0:place 0=some (0,281)) (p1:place 1=some (281,1)) (p4:place 4=some (8475,8)) (p6:place 6=some (8997,244)) (p11:place 11=some (9261,1)) (s s':Nat→Value) (cp:Value) (hc:cp.cells=#[cp]):
  Instr.fill place (pl ((281,s)::LR (.pointer none) (fun _=>0) (fun _=>0) 0)).toArray [(0,.agg (rowF s' 281)),(1,cp),(4,.agg (rowF (iv fl0) 8)),(6,.agg (rowF (iv freshF) 244)),(11,.int .i64 255)]=some (pl ((281,s')::LR cp fl0 freshF 255)).toArray:=by
 rw [fill_seg 0 (size:=281) (off:=0) rfl (of_decide_eq_true (by kernel_rfl)) p0 (s':=s') rfl]
 rw [fill_seg 1 (size:=1) (off:=281) rfl (of_decide_eq_true (by kernel_rfl)) p1 (s':=fun _=>cp) hc]
 rw [fill_seg 4 (size:=8) (off:=8475) rfl (of_decide_eq_true (by kernel_rfl)) p4 (s':=iv fl0) rfl]
 rw [fill_seg 6 (size:=244) (off:=8997) rfl (of_decide_eq_true (by kernel_rfl)) p6 (s':=iv freshF) rfl]
 rw [fill_seg 11 (size:=1) (off:=9261) rfl (of_decide_eq_true (by kernel_rfl)) p11 (s':=fun _=>.int .i64 255) rfl]
 rw [fill_nil]
 refine congrArg (fun L=>some (pl L).toArray) ?_
 rfl
theorem lb_sum (v c:Nat):psum (LB v c)=9263:=of_decide_eq_true (by kernel_rfl)
theorem lb_video (v c:Nat):pl (LB v c)=pl ((281,segs (LV v))::LR (.pointer (some ⟨c,0,none⟩)) fl0 freshF 255):=pl_video _ _
theorem l0_video:pl L0=pl ((281,segs (LVp (.pointer none)))::LR (.pointer none) (fun _=>0) (fun _=>0) 0):=pl_video _ _
theorem built_B (v c:Nat) (w:World):(Instr.build 64 #[(0,.agg (rowF (segs (LV v)) 281)),(1,.pointer (some ⟨c,0,none⟩)),(4,.agg (rowF (iv fl0) 8)),(6,.agg (rowF (iv freshF) 244)),(11,.int .i64 255)]).run Tryz.prog w=.ok (.agg (rowF (segs (LB v c)) 9263)) w:=by
 have e1:rowF (segs (LB v c)) 9263=(pl (LB v c)).toArray:=pl_row (LB v c) (lb_sum v c)
 have e2:=builtB_of [(0,.agg (rowF (segs (LV v)) 281)),(1,.pointer (some ⟨c,0,none⟩)),(4,.agg (rowF (iv fl0) 8)),(6,.agg (rowF (iv freshF) 244)),(11,.int .i64 255)]
 rw [l0_video,fill_five _ rfl rfl rfl rfl rfl _ _ _ rfl,←lb_video,←e1] at e2
 exact run_build w _ _ _ e2
end Go.Proofs.YtnllcknfmciebaaGreatDoor.L24
namespace Go.Proofs.YtnllcknfmciebaaGreatDoor.M5
set_option maxRecDepth 20000
open Go.RowKit
set_option linter.unusedVariables false
theorem fresh_any (w:World):Calls Tryz.prog 68 #[] w fun e w'=>e=.returned (.agg #[.int .i64 0,.int .i64 248,.int .i64 0,.int .i64 0,.int .i64 0,.int .i64 0,.int .i64 0,.int .i64 0])∧Below w.heap.size w w':=by
 go_enter Tryz.func68,Tryz.ntmps68
 go_wp2
 go_returns
 exact ⟨rfl,(Below.refl _ w).alloc (Nat.le_refl _) _⟩
end Go.Proofs.YtnllcknfmciebaaGreatDoor.M5
namespace Go.Proofs.YtnllcknfmciebaaGreatDoor.C3
set_option maxRecDepth 20000
open Go.RowKit
set_option linter.unusedVariables false
theorem Tryz.info5:(Tryz.prog.info? 5).map (fun i=>(i.zero,i.size,i.bytes))=some (some (.int .u8 0),1,1):=by kernel_rfl
theorem mk_bytes (n:Nat) (hn:n≤281474976710656) (w:World):
  (Instr.makeSlice 22 (.int .i64 (n:Int)) (.int .i64 (n:Int))).run Tryz.prog w=.ok (.slice (some ⟨w.heap.size,0,none⟩) n n) (w.alloc (.cells ((List.replicate n (0:Int)).map (Value.int .u8)).toArray 5)):=by
 obtain ⟨i,hi,hz⟩:=Option.map_eq_some_iff.1 Tryz.info5
 simp only [Prod.mk.injEq] at hz
 exact make_bytes Tryz.underlying22 hi hz.1 hz.2.1 hz.2.2 n hn w
theorem u8_wrap (x:Int):0≤IntKind.u8.wrap x∧IntKind.u8.wrap x<256:=by
 have e:IntKind.u8.wrap x=x%256:=by rfl
 rw [e];omega
end Go.Proofs.YtnllcknfmciebaaGreatDoor.C3
namespace Go.Proofs.YtnllcknfmciebaaGreatDoor.L24
set_option maxRecDepth 20000
open C3
open Go.RowKit
set_option linter.unusedVariables false
set_option maxHeartbeats 1000000 in
theorem rom_row (p:Nat) (hp:p≤1000) (hp1:1≤p) (q off len cap:Nat) (zs:List Int) (w:World) (hl1:0<len) (hlen:len≤8192) (hq:q<w.heap.size) (hz:∀i,i<len→w.cell? ⟨q,off+i,none⟩=some (.int .u8 (zs.getD i 0))∧(Lit.int .u8 (zs.getD i 0)).wf=true):
  Calls Tryz.prog 15 #[.int .i64 (p:Int),.slice (some ⟨q,off,none⟩) len cap] w fun e w'=>∃bs:List Int,bs.length=p*8192∧e=Ending.returned (.slice (some ⟨w.heap.size,0,none⟩) (p*8192) (p*8192))∧Bytes 5 w' w.heap.size bs∧Below w.heap.size w w':=by
 obtain ⟨n,hn⟩:∃n,p*8192=n:=⟨_,rfl⟩
 have en:(p:Int)*8192=(n:Int):=by omega
 have hm:=mk_bytes n (by omega) w
 obtain ⟨w1,hw1⟩:∃w1,w1=(w.alloc (.cells ((List.replicate n (0:Int)).map (Value.int .u8)).toArray 5)):=⟨_,rfl⟩
 have B1:Hid (Bytes 5 w1 w.heap.size (List.replicate n 0)):=by subst hw1;exact hide Bytes.made
 have L1:Hid (Below w.heap.size w w1):=by subst hw1;exact hide ((Below.refl _ w).alloc (Nat.le_refl _) _)
 have n1:n≤8192000:=by omega
 have n2:len≤n:=by omega
 have HZ:=hide hz
 have HQ:=hide hq
 rw [hn]
 rw [←hw1] at hm
 clear hw1 hn hz hq
 go_enter Tryz.func15,Tryz.ntmps15
 go_wp2_with fail
 go_loopw [6] (fun si wr=>∃(j:Nat) (bs:List Int),j≤n∧si=.int .i64 (j:Int)∧bs.length=n∧Bytes 5 wr w.heap.size bs∧Below w.heap.size w wr) (fun si _=>n-(intOf si).toNat)
 case atStart=>exact ⟨0,_,by omega,rfl,by simp,B1.out,L1.out⟩
 case round=>
  obtain ⟨j,bs,hj,rfl,hl,hb,bel⟩:=hrel
  by_cases h:j<n
  ·obtain ⟨hc,c0,c1⟩:=hb.cell j (by omega)
   have hf:=hb.free j
   have HB:=hide hb
   have BL:=hide bel
   clear hb bel
   go_wp2_with fail
   go_roundw
   case rel=>exact ⟨j+1,_,by omega,by go_num,by simpa using hl,HB.out.put j _ (by first|exact u8_wrap _|skip),BL.out.setCell (Nat.le_refl _) _⟩
   case measure=>simp [intOf];omega
  ·obtain rfl:j=n:=by omega
   have HB:=hide hb
   have BL:=hide bel
   have HC:Hid (∀i v,(((List.range len).map fun i=>Value.int .u8 (zs.getD i 0)))[i]? = some v→wr.cell? ((⟨q,off,none⟩:Addr).add i)=some v):=hide (by
    intro i v hv
    obtain ⟨hi,e⟩:=List.getElem?_eq_some_iff.1 hv
    have hi2:i<len:=by simpa using hi
    have e1:(⟨q,off,none⟩:Addr).add i=⟨q,off+i,none⟩:=by unfold Addr.add;split<;>simp_all
    rw [e1,bel.cell (p:=⟨q,off+i,none⟩) HQ.out,(HZ.out i hi2).1,←e]
    simp)
   clear hb bel
   go_wp2_with (first|(refine wpList_copy_splice rfl (.tmp 25) (.tmp 26) 22 22 rfl 5 Tryz.underlying22 (by kernel_rfl) (some ⟨w.heap.size,0,none⟩) (some ⟨q,off,none⟩) j j len cap rfl rfl w.heap.size 0 (bs.map (Value.int .u8)) 5 HB.out.1 ((List.range len).map fun i=>Value.int .u8 (zs.getD i 0)) (by rw [List.length_map,List.length_range];exact (Nat.min_eq_left n2).symm) (fun _=>⟨rfl,_,rfl,HC.out⟩) (by rw [List.length_map,List.length_range,List.length_map];omega) (by intro v hv;obtain ⟨i,_,rfl⟩:=List.mem_map.1 hv;rfl) w.heap.size w BL.out (Nat.le_refl _) ?_;intro w5 h5 b5))
   go_ret
   have h6:=h5.out
   refine ⟨(List.range len).map (fun i=>zs.getD i 0)++bs.drop len,?_,rfl,⟨?_,?_⟩,b5⟩
   ·simp;omega
   ·rw [h6]
    congr 2
    simp [splice,List.map_drop,List.map_append]
   ·intro z hz
    rcases List.mem_append.1 hz with hz|hz
    ·obtain ⟨i,hi,rfl⟩:=List.mem_map.1 hz
     exact u8_range (HZ.out i (List.mem_range.1 hi)).2
    ·exact HB.out.2 z (List.mem_of_mem_drop hz)
end Go.Proofs.YtnllcknfmciebaaGreatDoor.L24
