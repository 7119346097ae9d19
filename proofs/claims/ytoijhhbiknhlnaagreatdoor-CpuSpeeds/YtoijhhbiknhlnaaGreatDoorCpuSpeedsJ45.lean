/- The program's processor: a whole step. -/
import Derived.Test.YtoijhhbiknhlnaaGreatDoorCpuSpeedsJ44
namespace Go.Proofs.YtoijhhbiknhlnaaGreatDoor.L25
set_option maxHeartbeats 4000000
set_option maxRecDepth 20000
open A2 B4 C3 G6 I11 J23 K9 L24 M5 N8 O7 P22 R15 T10 V12 W13
open Go.RowKit
set_option linter.unusedVariables false
def HasM (w:World) (b v c d:Nat) (bs:List Int) (Z:Nat→Nat→Int):Prop:=HasP w b v c d bs Z∧CT w∧(∀k,GZ k (Z k))∧(8≤b∧8≤v)∧zdh ((bs.length/8192:Nat):Int)=true∧bs.length/8192≠320
theorem HasM.next {w w':World} {b v c d:Nat} {bs:List Int} {Z:Nat→Nat→Int} (h:HasM w b v c d bs Z) (k:Below w.heap.size w w'):HasM w' b v c d bs Z:=⟨h.1.next k,h.2.1.next k,h.2.2⟩
theorem HasM.bus {w w':World} {b v c d:Nat} {bs:List Int} {Z Z':Nat→Nat→Int} (h:HasM w b v c d bs Z) (p:HasP w' b v c d bs Z') (k:OnlyE (EX b v) w w') (g:∀k,GZ k (Z' k)):HasM w' b v c d bs Z':=
 ⟨p,h.2.1.only k (fun i e=>by rcases e with rfl|rfl;exact h.2.2.2.1.1;exact h.2.2.2.1.2),g,h.2.2.2⟩
theorem HasQ.mach {w:World} {s b v c d:Nat} {bs:List Int} {nm:ByteArray} {I B:Nat→Int} {t:Bool} {Z:Nat→Nat→Int} (h:HasQ w s b v c d bs nm I B t Z):HasM w b v c d bs Z:=⟨h.2.1,h.2.2.1,h.2.2.2.1,⟨h.2.2.2.2.1.2.2.2.2.2.1,h.2.2.2.2.1.2.2.2.2.2.2⟩,h.2.2.2.2.2⟩
theorem HasM.lts {w:World} {b v c d:Nat} {bs:List Int} {Z:Nat→Nat→Int} (h:HasM w b v c d bs Z):b<w.heap.size∧v<w.heap.size∧c<w.heap.size∧d<w.heap.size:=⟨h.1.1.lt,lt_of_block h.1.2.1,h.1.2.2.1.2.2,lt_of_block h.1.2.2.1.2.1.1⟩
theorem HasM.but {w w':World} {b v c d g:Nat} {bs:List Int} {Z:Nat→Nat→Int} (h:HasM w b v c d bs Z) (k:OnlyE (fun i=>i=g) w w') (hn:g≠b∧g≠v∧g≠c∧g≠d∧8≤g):HasM w' b v c d bs Z:=by
 obtain ⟨n1,n2,n3,n4,n5⟩:=hn;refine ⟨HasP.only h.1 k (fun e=>n1 e.symm) (fun e=>n2 e.symm) (fun e=>n3 e.symm) (fun e=>n4 e.symm) (fun i e=>?_),h.2.1.only k (fun i e=>e▸n5),h.2.2⟩;subst e;exact ⟨Nat.lt_of_lt_of_le (by decide) n5,Nat.lt_of_lt_of_le (by decide) n5,Nat.lt_of_lt_of_le (by decide) n5⟩
theorem zqx {s b v:Nat} {w a x:World} (h:OnlyE (EX b v) w a) (k:OnlyE (EQ s b v) a x) (hs:w.heap.size≤s):OnlyE (EX b v) w x:=
 ⟨k.1.trans h.1,k.2.1.trans h.2.1,k.2.2.1.trans h.2.2.1,Nat.le_trans h.size k.size,fun i hi hE=>(k.block i (Nat.lt_of_lt_of_le hi h.size) (fun e=>by rcases e with e|e;omega;exact hE e)).trans (h.block i hi hE)⟩
theorem zuh {b v g:Nat} {w a x:World} (h:OnlyE (EX b v) w a) (k:OnlyE (fun i=>i=g) a x) (hg:w.heap.size≤g):OnlyE (EX b v) w x:=
 ⟨k.1.trans h.1,k.2.1.trans h.2.1,k.2.2.1.trans h.2.2.1,Nat.le_trans h.size k.size,fun i hi hE=>(k.block i (Nat.lt_of_lt_of_le hi h.size) (fun e=>by omega)).trans (h.block i hi hE)⟩
theorem HasM.size {w:World} {b v c d:Nat} {bs:List Int} {Z:Nat→Nat→Int} (h:HasM w b v c d bs Z):8≤w.heap.size:=Nat.le_of_lt (Nat.lt_of_le_of_lt h.2.2.2.1.1 h.lts.1)
theorem zka {w:World} (h:Tabs w∧HasErr w∧CT w):8≤w.heap.size:=by
 have q1:=h.2.2.1.pos;have q2:=h.2.2.2.1.pos;have p1:=h.1.1.pos;have p2:=h.1.2.1.pos;have p3:=h.1.2.2.pos;obtain ⟨t3,f3,e3⟩:=h.2.2.2.2.1;obtain ⟨t4,f4,e4⟩:=h.2.2.2.2.2;have q3:=lt_of_block e3;have q4:=lt_of_block e4;omega
def inZ (Z:Nat→Nat→Int) (R:Nat→Int) (f:Bool) (l:Int):Nat→Nat→Int:=upZ (upZ (upZ (upZ (setZ Z) 20 (cutR R)) 21 (oneV (b2i f))) 22 (oneV l)) 23 (oneV 0)
theorem ztk {Z:Nat→Nat→Int} (h:∀k,GZ k (Z k)) (R:Nat→Int) (f:Bool) (l:Int):∀k,GZ k (inZ Z R f l k):=zaR (zaR (zaR (zaR (zfq h) 20 _ (zjZ R)) 21 _ trivial) 22 _ trivial) 23 _ trivial
def zgm (Z:Nat→Nat→Int):Array Value:=#[.int .i64 (Z 20 0),.int .i64 (Z 20 1),.int .i64 (Z 20 2),.int .i64 (Z 20 3),.int .i64 (Z 20 4),.int .i64 (Z 20 5),.bool (isB (Z 21 0)),.int .i64 (Z 22 0)]
def cl8 (R:Nat→Int) (f:Bool) (l:Int):List (Nat×(Nat→Value)):=[(6,iv R),(1,fun _=>.bool f),(1,fun _=>Value.int .i64 l)]
theorem zAY (Z:Nat→Nat→Int) (R:Nat→Int) (f:Bool) (l:Int):inZ Z R f l 20=cutR R:=by
 unfold inZ;rw [zbc _ _ _ _ (by decide),zbc _ _ _ _ (by decide),zbc _ _ _ _ (by decide),zdd]
theorem zAZ (Z:Nat→Nat→Int) (R:Nat→Int) (f:Bool) (l:Int):inZ Z R f l 21=oneV (b2i f):=by
 unfold inZ;rw [zbc _ _ _ _ (by decide),zbc _ _ _ _ (by decide),zdd]
theorem zBa (Z:Nat→Nat→Int) (R:Nat→Int) (f:Bool) (l:Int):inZ Z R f l 22=oneV l:=by
 unfold inZ;rw [zbc _ _ _ _ (by decide),zdd]
theorem zBb (Z:Nat→Nat→Int) (R:Nat→Int) (f:Bool) (l:Int):inZ Z R f l 23=oneV 0:=zdd _ _ _
theorem zqy (Z:Nat→Nat→Int) (R:Nat→Int) (f:Bool) (l:Int) (k:Nat) (hk:k<20):inZ Z R f l k=setZ Z k:=by
 unfold inZ;rw [zbc _ _ _ _ (by omega),zbc _ _ _ _ (by omega),zbc _ _ _ _ (by omega),zbc _ _ _ _ (by omega)]
theorem zlV {w:World} {b v c d:Nat} {bs:List Int} {Z Z':Nat→Nat→Int} (h:HasP w b v c d bs Z) (e:∀k,k<20→Z' k=Z k):HasP w b v c d bs Z':=by
 have ez:XP v c Z'=XP v c Z:=by
  unfold XP;rw [e 0 (by decide),e 2 (by decide),e 3 (by decide),e 4 (by decide),e 5 (by decide),e 7 (by decide),e 8 (by decide),e 9 (by decide),e 10 (by decide),e 11 (by decide),e 12 (by decide),e 13 (by decide),e 14 (by decide),e 15 (by decide),e 16 (by decide),e 17 (by decide)]
 unfold L24.HasP at h ⊢;rw [ez,e 18 (by decide),e 19 (by decide)];exact h
theorem ztl {w:World} {s b:Nat} {Z:Nat→Nat→Int} {R:Nat→Int} {f:Bool} {l:Int} (h:w.heap[s]? = some (.cells #[.int .i64 (R 0%256),.int .i64 (R 1%256),.int .i64 (R 2%256),.int .i64 (R 3%256),.int .i64 (R 4%256),.int .i64 (R 5%65536),.bool f,.int .i64 l,.pointer (some ⟨b,0,none⟩),.int .i64 0,.string ⟨#[]⟩,.int .i64 0,.int .i64 0,.int .i64 0,.int .i64 0,.int .i64 0,.int .i64 0,.int .i64 0,.int .i64 0,.int .i64 0,.int .i64 0,.int .i64 0,.int .i64 0,.int .i64 0,.bool false] 85 (0,0))):HasF 85 w s 25 (segs (SP b ⟨#[]⟩ (fun _=>0) (fun _=>0) false (inZ Z R f l))):=by
 have e:SP b ⟨#[]⟩ (fun _=>0) (fun _=>0) false (inZ Z R f l)=[(6,iv (cutR R)),(1,fun _=>.bool f),(1,fun _=>Value.int .i64 l),(1,fun _=>.pointer (some ⟨b,0,none⟩)),(1,fun _=>Value.int .i64 0),(4,infV ⟨#[]⟩ 0 0 0),(6,iv fun _=>0),(4,iv fun _=>0),(1,fun _=>.bool false)]:=by
  unfold SP;rw [zAY,zAZ,zBa,zBb];show [(6,iv (cutR R)),(1,fun _=>.bool (isB (b2i f))),(1,fun _=>Value.int .i64 l),(1,fun _=>.pointer (some ⟨b,0,none⟩)),(1,fun _=>Value.int .i64 0),(4,infV ⟨#[]⟩ 0 0 0),(6,iv fun _=>0),(4,iv fun _=>0),(1,fun _=>.bool false)]=_;rw [zgW]
 rw [e];exact h
theorem zwK (x0 x1 x2 x3 x4 x5 l:Int) (f:Bool) (b:Nat) (w:World):(Instr.build 85 #[(0,.agg #[.int .i64 x0,.int .i64 x1,.int .i64 x2,.int .i64 x3,.int .i64 x4,.int .i64 x5,.bool f,.int .i64 l]),(1,.pointer (some ⟨b,0,none⟩))]).run Tryz.prog w=.ok (.agg #[.int .i64 x0,.int .i64 x1,.int .i64 x2,.int .i64 x3,.int .i64 x4,.int .i64 x5,.bool f,.int .i64 l,.pointer (some ⟨b,0,none⟩),.int .i64 0,.string ⟨#[]⟩,.int .i64 0,.int .i64 0,.int .i64 0,.int .i64 0,.int .i64 0,.int .i64 0,.int .i64 0,.int .i64 0,.int .i64 0,.int .i64 0,.int .i64 0,.int .i64 0,.int .i64 0,.bool false]) w:=by kernel_rfl
theorem zBc (w:World):(zeroValue 85).run Tryz.prog w=.ok (.agg #[.int .i64 0,.int .i64 0,.int .i64 0,.int .i64 0,.int .i64 0,.int .i64 0,.bool false,.int .i64 0,.pointer none,.int .i64 0,.string ⟨#[]⟩,.int .i64 0,.int .i64 0,.int .i64 0,.int .i64 0,.int .i64 0,.int .i64 0,.int .i64 0,.int .i64 0,.int .i64 0,.int .i64 0,.int .i64 0,.int .i64 0,.int .i64 0,.bool false]) w:=by kernel_rfl
theorem zwL (v c:Nat) (Z:Nat→Nat→Int):∀j,j<2→segs (XP v c Z) (9245+j)=sv (Z 13 0) (Z 13 1) j:=fun j hj=>by
 have q:=zcF (XP v c Z) 13 2 (sv (Z 13 0) (Z 13 1)) j rfl hj;rw [IsB.off (show IsB (XP v c Z) from rfl) 13 (a:=9245) rfl] at q;exact q
theorem ztm (b:Nat) (nm:ByteArray) (I B:Nat→Int) (t:Bool) (Z:Nat→Nat→Int):∀j,j<8→segs (SP b nm I B t Z) (0+j)=segs [(6,iv (Z 20)),(1,fun _=>.bool (isB (Z 21 0))),(1,fun _=>Value.int .i64 (Z 22 0))] j:=fun j hj=>by
 rw [Nat.zero_add];unfold SP;simp only [zcg]
 by_cases h0:j<6
 ·rw [if_pos h0,if_pos h0]
 rw [if_neg h0,if_neg h0]
 by_cases h1:j-6<1
 ·rw [if_pos h1,if_pos h1]
 rw [if_neg h1,if_neg h1,if_pos (by omega),if_pos (by omega)]
theorem zlW (x:World) (g:Nat) (cs:Array Value):OnlyE (fun i=>i=g) x (x.setRow g cs):=⟨rfl,rfl,rfl,by simp [World.setRow],fun i hi hE=>setRow_other x g i cs hE⟩
theorem zlX {w:World} {b v c d:Nat} {bs:List Int} {Z:Nat→Nat→Int} (h:HasM w b v c d bs Z) (R:Nat→Int) (f:Bool) (l:Int) (px:Int) (KP:∀w,HasVec w→Calls Tryz.prog 20 #[.agg (rowF (sv (setZ Z 13 0) (setZ Z 13 1)) 2),.int .i64 (R 4%256)] w fun e w'=>e=Ending.returned (.tuple #[.int .i64 px,.bool false])∧Below w.heap.size w w')
  {ZZ:Nat→Nat→Int} (hdo:DoZ bs (zcW (fN bs (inZ Z R f l))) (fI bs (inZ Z R f l)) (fB bs (inZ Z R f l)) (fT (inZ Z R f l)) (f4 bs (inZ Z R f l)) ZZ):Calls Tryz.prog 13 #[.agg #[.int .i64 (R 0),.int .i64 (R 1),.int .i64 (R 2),.int .i64 (R 3),.int .i64 (R 4),.int .i64 (R 5),.bool f,.int .i64 l],.pointer (some ⟨b,0,none⟩)] w fun e w'=>e=Ending.returned (.tuple #[.agg (zgm ZZ),.int .i64 (ZZ 23 0)])∧HasM w' b v c d bs ZZ∧OnlyE (EX b v) w w':=by
 replace hdo:=hide hdo;have HE:=hide h;have HS:=hide h.size;have LT:=hide h.lts;have GD:=hide h.2.2.1;replace KP:=hide KP;clear h;go_enter Tryz.func13,Tryz.ntmps13;go_upto_region 1 with fail;refine under_name fun wa hwa=>?_
 obtain ⟨q1,q2,q3,bw⟩:=two_named hwa;have G0:Hid (HasF 58 wa w.heap.size 8 (segs (cl8 R f l))):=hide q1;have G4:=hide q2;have HA:=hide (HE.out.next bw);have BA:=hide bw;obtain ⟨g0,hg0⟩:∃g,w.heap.size=g:=⟨_,rfl⟩
 obtain ⟨g4,hg4⟩:∃g,w.heap.size+1=g:=⟨_,rfl⟩
 rw [hg4] at G4;rw [hg4,hg0];rw [hg0] at G0
 have NE:Hid (g0≠g4∧¬EX b v g0∧¬EX b v g4∧w.heap.size≤g0∧w.heap.size≤g4∧(g0≠b∧g0≠v∧g0≠c∧g0≠d∧8≤g0)∧(g4≠b∧g4≠v∧g4≠c∧g4≠d∧8≤g4)):=hide (by
  have:=LT.out;have:=HS.out
  exact ⟨by omega,fun e=>by rcases e with e|e<;>omega,fun e=>by rcases e with e|e<;>omega,by omega,by omega,by omega,by omega⟩)
 clear hwa q1 q2 q3 bw hg0 hg4 HE;go_wp2_with fail;refine (missing_is HA.out.1 HA.out.2.2.1).mono ?_;rintro e w1 ⟨rfl,p1,o1⟩;have H1:=hide (HA.out.bus p1 o1 HA.out.2.2.1);have F1:Hid (HasF 58 w1 g0 8 (segs (cl8 R f l))):=hide (o1.obj G0.out NE.out.2.1);have Z1:=hide (o1.obj G4.out NE.out.2.2.1);have O1:Hid (OnlyE (EX b v) w w1):=hide ((zaB BA.out).trans o1);clear p1 o1 HA G0 G4 BA;go_wp2_with fail;refine (zsu H1.out.1).mono ?_;rintro e w2 ⟨rfl,p2,o2⟩;have H2:=hide (H1.out.bus p2 o2 (zfq H1.out.2.2.1));have F2:Hid (HasF 58 w2 g0 8 (segs (cl8 R f l))):=hide (o2.obj F1.out NE.out.2.1);have Z2:=hide (o2.obj Z1.out NE.out.2.2.1);have O2:=hide (O1.out.trans o2);clear p2 o2 H1 F1 Z1 O1
 go_upto_region 5 with (first
  |(refine zaC rfl 23 (.tmp 14) rfl g0 0 rfl F2.out 6 (by decide) (iv R) (fun j hj=>by rw [Nat.zero_add];exact if_pos hj) _ Tryz.underlying23 rfl (by kernel_rfl) ?_)
  |(go_at_call 19;refine (zAX R _).mono ?_;rintro e w3 ⟨rfl,b3⟩;have H3:=hide (H2.out.next b3);have F3:=hide (F2.out.next b3);have Z3:=hide (zcH Z2.out b3);have O3:=hide (O2.out.trans (zaB b3));clear b3 H2 F2 Z2 O2)
  |(refine zaD rfl 23 (.tmp 17) (.tmp 16) rfl g0 0 6 (iv (cutR R)) rfl rfl F3.out (by decide) (by kernel_rfl) (fun _ _=>rfl) ?_
    refine zam fun w4 hw4=>?_
    have b4:But g0 w3 w4:=by rw [hw4];exact But.cells _ _ _ (But.refl g0 w3)
    have k4:OnlyE (fun i=>i=g0) w3 w4:=⟨b4.1,b4.2.1,b4.2.2.1,b4.size,fun i hi hE=>b4.block i hi hE⟩
    have F4:Hid (HasF 58 w4 g0 8 (segs (cl8 (cutR R) f l))):=hide (by rw [hw4];exact F3.out.lay 0 rfl (iv (cutR R)) (a:=0) rfl);have H4:=hide (H3.out.but k4 NE.out.2.2.2.2.2.1);have Z4:=hide (k4.obj Z3.out (fun e=>NE.out.1 e.symm));have O4:=hide (zuh O3.out k4 NE.out.2.2.2.1)
    clear hw4 b4 k4 H3 F3 Z3 O3))
 go_upto_region 6 with (first
  |(refine zaC rfl 58 (.tmp 2) rfl g0 0 rfl F4.out 8 (by decide) (segs (cl8 (cutR R) f l)) (fun j _=>by rw [Nat.zero_add]) _ Tryz.underlying58 rfl (by kernel_rfl) ?_;rw [show rowF (segs (cl8 (cutR R) f l)) 8=#[.int .i64 (R 0%256),.int .i64 (R 1%256),.int .i64 (R 2%256),.int .i64 (R 3%256),.int .i64 (R 4%256),.int .i64 (R 5%65536),.bool f,.int .i64 l] from rfl])
  |(refine wpList_built rfl 85 _ rfl #[(0,.agg #[.int .i64 (R 0%256),.int .i64 (R 1%256),.int .i64 (R 2%256),.int .i64 (R 3%256),.int .i64 (R 4%256),.int .i64 (R 5%65536),.bool f,.int .i64 l]),(1,.pointer (some ⟨b,0,none⟩))] (by simp [Act.eval]) _ (zwK _ _ _ _ _ _ _ _ _) ?_)
  |(refine zaF rfl 85 rfl #[.int .i64 0,.int .i64 0,.int .i64 0,.int .i64 0,.int .i64 0,.int .i64 0,.bool false,.int .i64 0,.pointer none,.int .i64 0,.string ⟨#[]⟩,.int .i64 0,.int .i64 0,.int .i64 0,.int .i64 0,.int .i64 0,.int .i64 0,.int .i64 0,.int .i64 0,.int .i64 0,.int .i64 0,.int .i64 0,.int .i64 0,.int .i64 0,.bool false] zBc ?_)
  |(refine wpList_store_row rfl 85 (.tmp 6) (.tmp 20) rfl w4.heap.size _ rfl rfl 85 _ (heap_alloc_new _ _) (by kernel_rfl) rfl (by kernel_rfl) ?_))
 refine under_name fun w5 hw5=>?_
 have G5:Hid (w5.heap[w4.heap.size]? = some (.cells #[.int .i64 (R 0%256),.int .i64 (R 1%256),.int .i64 (R 2%256),.int .i64 (R 3%256),.int .i64 (R 4%256),.int .i64 (R 5%65536),.bool f,.int .i64 l,.pointer (some ⟨b,0,none⟩),.int .i64 0,.string ⟨#[]⟩,.int .i64 0,.int .i64 0,.int .i64 0,.int .i64 0,.int .i64 0,.int .i64 0,.int .i64 0,.int .i64 0,.int .i64 0,.int .i64 0,.int .i64 0,.int .i64 0,.int .i64 0,.bool false] 85 (0,0))):=hide (by rw [hw5];exact setRow_heap _ _ _ _ _ _ (heap_alloc_new _ _));have B5:Hid (Below w4.heap.size w4 w5):=hide (by rw [hw5];exact below_setRow ((Below.refl _ w4).alloc (Nat.le_refl _) _) (Nat.le_refl _) _);obtain ⟨s,hs0⟩:∃s,w4.heap.size=s:=⟨_,rfl⟩
 have SL:Hid (w.heap.size≤s∧s≠g0∧s≠g4):=hide (by
  have l0:=F4.out.lt;have l4:=lt_of_block Z4.out
  exact ⟨by rw [←hs0];exact O4.out.size,by omega,by omega⟩)
 have Q5:Hid (HasQ w5 s b v c d bs ⟨#[]⟩ (fun _=>0) (fun _=>0) false (inZ Z R f l)):=hide (by
  have m5:=H4.out.next B5.out;have lt4:=H4.out.lts;have sz:=H4.out.size
  refine ⟨ztl (hs0▸G5.out),zlV m5.1 (zqy Z R f l),m5.2.1,ztk GD.out R f l,⟨by omega,by omega,by omega,by omega,by omega,m5.2.2.2.1.1,m5.2.2.2.1.2⟩,m5.2.2.2.2⟩)
 have F5:=hide (F4.out.next B5.out);have Z5:=hide (zcH Z4.out B5.out);have O5:=hide (O4.out.trans (zaB B5.out));rw [hs0];clear hw5 hs0 G5 B5 H4 F4 Z4 O4;have CP:Hid (∀x,Below w5.heap.size w5 x→x.cell? ⟨g0,4,none⟩=some (.int .i64 (R 4%256))):=hide (fun x k=>((F5.out.next k).get 0 rfl 4 (by decide) (a:=4) rfl (by decide)));have SI:=hide (zwL v c (inZ Z R f l));rw [zqy Z R f l 13 (by decide)] at SI;refine zai (zbl [.pointer (some ⟨b,0,none⟩),.pointer (some ⟨b,0,none⟩),.pointer (some ⟨b,9245,none⟩),.agg (rowF (sv (setZ Z 13 0) (setZ Z 13 1)) 2),.pointer (some ⟨g0,0,none⟩),.pointer (some ⟨g0,4,none⟩),.int .i64 (R 4%256),.tuple #[.int .i64 px,.bool false],.tuple #[.int .i64 px,.bool false],.int .i64 px,.bool false,.int .i64 px,.bool false]) (fun dd ww=>(stgs [fun x=>Below w5.heap.size w5 x]) (cntD [] dd) ww) _ (fun u=>by simp only [zat,Act.put,List.setIfInBounds_toArray,List.set_cons_succ,List.set_cons_zero,Nat.reduceAdd];rfl) (by kernel_rfl) (by kernel_rfl) (by kernel_rfl) (fun dn hd=>zaz hd ((Below.refl _ w5).drew)) ?_ ?_
 ·repeat' first|refine zas (fun u dn x hi hc hk hs=>?_) ?_|exact zax
  ·go_wp2_with fail;exact zab _ rfl rfl (zaa rfl hs)
  ·obtain ⟨⟨(h0:u 0=.pointer (some ⟨b,0,none⟩)),t0⟩,_⟩:=hk;simp only [h0];clear h0;go_wp2_with fail;exact zab _ rfl rfl (zaa rfl hs)
  ·obtain ⟨⟨(h1:u 1=.pointer (some ⟨b,0,none⟩)),t1⟩,_⟩:=hk;simp only [h1];clear h1;go_wp2_with fail;exact zab _ rfl rfl (zaa rfl hs)
  ·obtain ⟨⟨(h2:u 2=.pointer (some ⟨b,9245,none⟩)),t2⟩,_⟩:=hk;simp only [h2];clear h2;have hs1:=hs;refine zaC rfl 48 (.tmp 24) rfl b 9245 rfl (Q5.out.next hs1).2.1.1 2 (by decide) (sv (setZ Z 13 0) (setZ Z 13 1)) SI.out _ Tryz.underlying48 rfl (by kernel_rfl) ?_;exact zab _ rfl rfl (zaa rfl hs)
  ·go_wp2_with fail;exact zab _ rfl rfl (zaa rfl hs)
  ·obtain ⟨⟨(h4:u 4=.pointer (some ⟨g0,0,none⟩)),t4⟩,_⟩:=hk;simp only [h4];clear h4;go_wp2_with fail;exact zab _ rfl rfl (zaa rfl hs)
  ·obtain ⟨⟨(h5:u 5=.pointer (some ⟨g0,4,none⟩)),t5⟩,_⟩:=hk;simp only [h5];clear h5;have hs1:=hs;have q:=CP.out x hs1;go_wp2_with fail;exact zab _ rfl rfl (zaa rfl hs)
  ·obtain ⟨⟨(h3:u 3=.agg (rowF (sv (setZ Z 13 0) (setZ Z 13 1)) 2)),t3⟩,⟨(h6:u 6=.int .i64 (R 4%256)),t6⟩,_⟩:=hk;simp only [h3,h6];clear h3 h6;have hs1:=hs;have HS:=hide hs;have HS1:=hide hs1;clear hs hs1;go_wp2_with fail;refine (KP.out _ (Q5.out.next HS1.out).2.2.1.1).mono ?_;rintro e x2 ⟨rfl,b2⟩;have H2:=hide (zcb (zpA (fun x y h k=>zar h k)) HS.out b2);clear b2 HS HS1;go_wp2_with fail;exact zab _ rfl rfl (zaa rfl H2.out)
  ·obtain ⟨⟨(h7:u 7=.tuple #[.int .i64 px,.bool false]),t7⟩,_⟩:=hk;simp only [h7];clear h7;go_wp2_with fail;exact zab _ rfl rfl (zaa rfl hs)
  ·obtain ⟨⟨(h8:u 8=.tuple #[.int .i64 px,.bool false]),t8⟩,_⟩:=hk;simp only [h8];clear h8;go_wp2_with fail;exact zab _ rfl rfl (zaa rfl hs)
  ·obtain ⟨⟨(h8:u 8=.tuple #[.int .i64 px,.bool false]),t8⟩,_,_⟩:=hk;simp only [h8];clear h8;go_wp2_with fail;exact zab _ rfl rfl (zaa rfl hs)
  ·obtain ⟨⟨(h9:u 9=.int .i64 px),t9⟩,⟨(h7:u 7=.tuple #[.int .i64 px,.bool false]),t7⟩,⟨(h0:u 0=.pointer (some ⟨b,0,none⟩)),t0⟩,⟨(h1:u 1=.pointer (some ⟨b,0,none⟩)),t1⟩,⟨(h2:u 2=.pointer (some ⟨b,9245,none⟩)),t2⟩,⟨(h3:u 3=.agg (rowF (sv (setZ Z 13 0) (setZ Z 13 1)) 2)),t3⟩,⟨(h4:u 4=.pointer (some ⟨g0,0,none⟩)),t4⟩,⟨(h5:u 5=.pointer (some ⟨g0,4,none⟩)),t5⟩,⟨(h6:u 6=.int .i64 (R 4%256)),t6⟩,_,⟨(h8:u 8=.tuple #[.int .i64 px,.bool false]),t8⟩,_,_,_⟩:=hk;simp only [h9];clear h9 h7 h0 h1 h2 h3 h4 h5 h6 h8;go_wp2_with fail;exact zab _ rfl rfl (zaa rfl hs)
  ·obtain ⟨⟨(h10:u 10=.bool false),t10⟩,⟨(h11:u 11=.int .i64 px),t11⟩,⟨(h0:u 0=.pointer (some ⟨b,0,none⟩)),t0⟩,⟨(h1:u 1=.pointer (some ⟨b,0,none⟩)),t1⟩,⟨(h2:u 2=.pointer (some ⟨b,9245,none⟩)),t2⟩,⟨(h3:u 3=.agg (rowF (sv (setZ Z 13 0) (setZ Z 13 1)) 2)),t3⟩,⟨(h4:u 4=.pointer (some ⟨g0,0,none⟩)),t4⟩,⟨(h5:u 5=.pointer (some ⟨g0,4,none⟩)),t5⟩,⟨(h6:u 6=.int .i64 (R 4%256)),t6⟩,⟨(h7:u 7=.tuple #[.int .i64 px,.bool false]),t7⟩,⟨(h8:u 8=.tuple #[.int .i64 px,.bool false]),t8⟩,⟨(h9:u 9=.int .i64 px),t9⟩,_,_,_⟩:=hk;simp only [h10];clear h10 h11 h0 h1 h2 h3 h4 h5 h6 h7 h8 h9;go_wp2_with fail;exact zab _ rfl rfl (zaa rfl hs)
 rintro u dn x hall hs hv;obtain ⟨_,_,_,_,_,_,_,_,_,_,_,(h11:u 11=.int .i64 px),(h12:u 12=.bool false),_⟩:=hv;simp only [h11,h12];clear h11 h12;have b6:Below w5.heap.size w5 x:=hs;have Q6:=hide (Q5.out.next b6);have Z6:=hide (zcH Z5.out b6);have F6:=hide (F5.out.next b6);have O6:=hide (O5.out.trans (zaB b6));clear b6 hs hall Q5 Z5 F5 O5 CP SI KP;go_wp2_with fail;refine (ztb Q6.out).mono ?_;rintro e w7 ⟨rfl,h7,o7⟩;have Q7:=hide h7;have Z7:=hide (o7.obj Z6.out (fun e=>by rcases e with e|e;exact SL.out.2.2 e.symm;exact NE.out.2.2.1 e));have O7:=hide (zqx O6.out o7 SL.out.1);clear h7 o7 Q6 Z6 F6 O6;go_wp2_with fail;refine (hdo.out _ _ _ _ _ _ Q7.out).mono ?_;rintro e w8 ⟨rfl,h8,o8⟩;have Q8:=hide h8;have Z8:=hide (o8.obj Z7.out (fun e=>by rcases e with e|e;exact SL.out.2.2 e.symm;exact NE.out.2.2.1 e));have O8:=hide (zqx O7.out o8 SL.out.1);clear h8 o8 Q7 Z7 O7 hdo;obtain ⟨nn,hnn⟩:∃nn,zcW (fN bs (inZ Z R f l))=nn:=⟨_,rfl⟩
 obtain ⟨I9,hI⟩:∃I9,fI bs (inZ Z R f l)=I9:=⟨_,rfl⟩
 obtain ⟨B9,hB⟩:∃B9,fB bs (inZ Z R f l)=B9:=⟨_,rfl⟩
 obtain ⟨t9,ht⟩:∃t9,fT (inZ Z R f l)=t9:=⟨_,rfl⟩
 rw [hnn,hI,hB,ht] at Q8;clear hnn hI hB ht;go_wp2_with fail;have SC:=hide (ztm b nn I9 B9 t9 ZZ);have ZF:Hid (∀x,Below w8.heap.size w8 x→x.heap[g4]? = some (.cells #[.int .i64 0,.int .i64 0,.int .i64 0,.int .i64 0,.int .i64 0,.int .i64 0,.bool false,.int .i64 0] 58 (0,0))):=hide (fun x k=>zcH Z8.out k);refine zai (zbl [.pointer (some ⟨s,0,none⟩),.agg (zgm ZZ),.pointer (some ⟨s,9,none⟩),.int .i64 (ZZ 23 0),undef,.int .i64 (ZZ 23 0)]) (fun dd ww=>(stgs [(fun x=>Below w8.heap.size w8 x),(fun x=>x.heap[g4]? = some (.cells (zgm ZZ) 58 (0,0))∧HasM x b v c d bs ZZ∧OnlyE (EX b v) w x∧x.cell? ⟨s,9,none⟩=some (.int .i64 (ZZ 23 0)))]) (cntD [4] dd) ww) _ (fun u=>by simp only [zat,Act.put,List.setIfInBounds_toArray,List.set_cons_succ,List.set_cons_zero,Nat.reduceAdd];rfl) (by kernel_rfl) (by kernel_rfl) (by kernel_rfl) (fun dn hd=>zaz hd ((Below.refl _ w8).drew)) ?_ ?_
 ·repeat' first|refine zas (fun u dn x hi hc hk hs=>?_) ?_|exact zax
  ·go_wp2_with fail;exact zab _ rfl rfl (zaa rfl hs)
  ·obtain ⟨⟨(h0:u 0=.pointer (some ⟨s,0,none⟩)),t0⟩,_⟩:=hk;simp only [h0];clear h0;have d4:=zag hc hi 4 60 (by kernel_rfl);have hn:cntD [4] dn=0:=by simp only [cntD,d4];rfl
   have hs1:=zae hn hs;refine zaC rfl 58 (.tmp 45) rfl s 0 rfl (Q8.out.next hs1).1 8 (by decide) (segs [(6,iv (ZZ 20)),(1,fun _=>.bool (isB (ZZ 21 0))),(1,fun _=>Value.int .i64 (ZZ 22 0))]) SC.out _ Tryz.underlying58 rfl (by kernel_rfl) ?_;exact zab _ rfl rfl (zaa rfl hs)
  ·obtain ⟨_,_⟩:=hk;go_wp2_with fail;exact zab _ rfl rfl (zaa rfl hs)
  ·obtain ⟨⟨(h2:u 2=.pointer (some ⟨s,9,none⟩)),t2⟩,_,_⟩:=hk;simp only [h2];clear h2;have hs1:=hs;have q:=zhS hs1 (zaX [4] dn) (fun q=>(Q8.out.next q).cycs) (fun q=>q.2.2.2);go_wp2_with fail;exact zab _ rfl rfl (zaa rfl hs)
  ·obtain ⟨⟨(h1:u 1=.agg (zgm ZZ)),t1⟩,⟨(h0:u 0=.pointer (some ⟨s,0,none⟩)),t0⟩,_,_,_,_⟩:=hk;simp only [h1];clear h1 h0;have d4:=hi;have hn:cntD [4] dn=0:=by simp only [cntD,d4];rfl
   have hs1:=zae hn hs;have hn2:cntD [4] (updD dn 4)=1:=by show (if updD dn 4 4=true then 1 else 0)+0=1;rw [zav];rfl
   have HN2:=hide hn2;clear hn hn2;have H2:=hide ((fun h:Below w8.heap.size w8 x=>show (fun x=>x.heap[g4]? = some (.cells (zgm ZZ) 58 (0,0))∧HasM x b v c d bs ZZ∧OnlyE (EX b v) w x∧x.cell? ⟨s,9,none⟩=some (.int .i64 (ZZ 23 0))) (x.setRow g4 (zgm ZZ)) from ⟨setRow_heap _ _ _ _ _ _ (ZF.out x h),(Q8.out.next h).mach.but (zlW x g4 _) NE.out.2.2.2.2.2.2,zuh (O8.out.trans (zaB h)) (zlW x g4 _) NE.out.2.2.2.2.1,(zdG (setRow_other x g4 s _ SL.out.2.2) 9).trans (Q8.out.next h).cycs⟩) hs1);refine wpList_store_row rfl 58 (.tmp 4) (.tmp 46) rfl g4 _ rfl rfl 58 _ (ZF.out x hs1) (by kernel_rfl) rfl (by kernel_rfl) ?_;exact zab _ rfl rfl (zaE HN2.out H2.out)
  ·obtain ⟨⟨(h3:u 3=.int .i64 (ZZ 23 0)),t3⟩,⟨(h4:u 4=undef),t4⟩,⟨(h0:u 0=.pointer (some ⟨s,0,none⟩)),t0⟩,⟨(h1:u 1=.agg (zgm ZZ)),t1⟩,⟨(h2:u 2=.pointer (some ⟨s,9,none⟩)),t2⟩,_,_,_⟩:=hk;simp only [h3];clear h3 h4 h0 h1 h2;go_wp2_with fail;exact zab _ rfl rfl (zaa rfl hs)
 rintro u dn x hall hs hv;obtain ⟨_,_,_,_,_,(h5:u 5=.int .i64 (ZZ 23 0)),_⟩:=hv;simp only [h5];clear h5;have hn:cntD [4] dn=1:=by show (if dn 4=true then 1 else 0)+0=1;rw [hall 4 (by decide)];rfl
 have hs:=zae hn hs;clear hn hall;obtain ⟨r1,r2,r3,_⟩:x.heap[g4]? = some (.cells (zgm ZZ) 58 (0,0))∧HasM x b v c d bs ZZ∧OnlyE (EX b v) w x∧x.cell? ⟨s,9,none⟩=some (.int .i64 (ZZ 23 0)):=hs;have R1:=hide r1;have R2:=hide r2;have R3:=hide r3;clear r1 r2 r3;go_wp2;exact bodyPost_ret (zaH rfl _ _ g4 _ _ _ _ rfl R1.out Tryz.underlying58 rfl (by kernel_rfl)) rfl ⟨rfl,R2.out,R3.out⟩
end Go.Proofs.YtoijhhbiknhlnaaGreatDoor.L25
