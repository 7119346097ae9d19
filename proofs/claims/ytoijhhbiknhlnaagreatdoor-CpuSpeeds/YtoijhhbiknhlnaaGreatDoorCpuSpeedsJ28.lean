/- The program's processor: how it reaches a place, reads and writes there, pushes and pulls. -/
import Derived.Test.YtoijhhbiknhlnaaGreatDoorCpuSpeedsJ26
import Derived.Test.YtoijhhbiknhlnaaGreatDoorCpuSpeedsJ27
namespace Go.Proofs.YtoijhhbiknhlnaaGreatDoor.L25
set_option maxRecDepth 20000
open B4 C3 G6 I11 J23 K9 L24 M5 N8 O7 P22 R15 T10 V12 W13
open Go.RowKit
set_option linter.unusedVariables false
def QA (W:World) (s b v c d:Nat) (bs:List Int) (nm:ByteArray) (I B:Nat→Int) (t:Bool) (Z:Nat→Nat→Int) (x:World):Prop:=HasQ x s b v c d bs nm I B t Z∧OnlyE (EQ s b v) W x
theorem QA.stab {W:World} {s b v c d:Nat} {bs:List Int} {nm:ByteArray} {I B:Nat→Int} {t:Bool} {Z:Nat→Nat→Int}:Stab (QA W s b v c d bs nm I B t Z):=fun x y h k=>⟨h.1.next k,h.2.trans (zcd k)⟩
theorem QA.mk {w:World} {s b v c d:Nat} {bs:List Int} {nm:ByteArray} {I B:Nat→Int} {t:Bool} {Z:Nat→Nat→Int} (h:HasQ w s b v c d bs nm I B t Z):QA w s b v c d bs nm I B t Z w.drew:=⟨h.next (Below.refl _ w).drew,zcd (Below.refl _ w).drew⟩
theorem ziC (v c:Nat) (Z:Nat→Nat→Int):∀j,j<8→segs (XP v c Z) (8475+j)=iv (Z 9) j:=fun j hj=>by
 have q:=zcF (XP v c Z) 9 8 (iv (Z 9)) j rfl hj;rw [IsB.off (show IsB (XP v c Z) from rfl) 9 (a:=8475) rfl] at q;exact q
theorem zlO {w:World} {s b v c d:Nat} {bs:List Int} {nm:ByteArray} {I B:Nat→Int} {t:Bool} {Z:Nat→Nat→Int} (h:HasQ w s b v c d bs nm I B t Z) (a:Int):Calls Tryz.prog 135 #[.pointer (some ⟨s,0,none⟩),.int .i64 a] w fun e w'=>e=Ending.returned (.int .i64 (phZ Z a))∧HasQ w' s b v c d bs nm I B t (cyc Z (slZ Z a))∧OnlyE (EQ s b v) w w':=by
 have HE:=hide h;have c8:=h.buss;have HB:=hide h.2.1.1;have SEG:=hide (ziC v c Z);obtain ⟨P,hP⟩:∃P,phZ Z a=P:=⟨_,rfl⟩
 have KP:Hid (∀w,Calls Tryz.prog 167 #[.agg (rowF (iv (Z 9)) 8),.int .i64 a] w fun e w'=>e=Ending.returned (.int .i64 P)∧Below w.heap.size w w'):=hide (fun w=>by rw [←hP];exact zrL (Z 9) a w);have KW:Hid (∀w,HasPorts w→Calls Tryz.prog 70 #[.int .i64 P] w fun e w'=>e=Ending.returned (.agg #[.int .i64 (zaI P),.int .i64 (zcJ P),.int .i64 (atW P)])∧Below w.heap.size w w'):=hide (fun w hT=>zjq P w hT);obtain ⟨y,hy⟩:∃y,zrf (zaI P)=y:=⟨_,rfl⟩
 have KS:Hid (∀w,Calls Tryz.prog 168 #[.int .i64 (zaI P)] w fun e w'=>e=Ending.returned (.int .i64 y)∧w'=w):=hide (fun w=>by rw [←hy];exact zrg _ w);have pk:=zmm (.int .i64 (zaI P)) (.int .i64 (zcJ P)) (.int .i64 (atW P));have HZ:Hid (slZ Z a=y):=hide (by unfold slZ;rw [hP,hy]);rw [hP];clear h hP hy;go_enter Tryz.func135,Tryz.ntmps135
 go_wp2_with (first
  |(refine zaC rfl 35 (.tmp 11) rfl b 8475 rfl HB.out 8 (by decide) (iv (Z 9)) SEG.out _ Tryz.underlying35 rfl (by kernel_rfl) ?_)
  |(go_at_call 167;refine (KP.out _).mono ?_;rintro e w1 ⟨rfl,b1⟩;have H1:=hide (HE.out.next b1);have O1:=hide (zcd (s:=s) (b:=b) (v:=v) b1);clear b1 HE HB SEG KP c8))
 refine zai (zbl [.pointer (some ⟨s,0,none⟩),.pointer (some ⟨s,0,none⟩),.pointer (some ⟨s,9,none⟩),.int .i64 (Z 23 0),.int .i64 P,.agg #[.int .i64 (zaI P),.int .i64 (zcJ P),.int .i64 (atW P)],.int .i64 (zaI P),.int .i64 y,.int .i64 (wrap64 (Z 23 0+y)),.pointer (some ⟨s,0,none⟩),.pointer (some ⟨s,9,none⟩),undef]) (fun dd ww=>(stgs [QA w1 s b v c d bs nm I B t Z,QA w1 s b v c d bs nm I B t (upZ Z 23 (oneV (wrap64 (Z 23 0+y))))]) (cntD [11] dd) ww) _ (fun u=>by simp only [zat,Act.put,List.setIfInBounds_toArray,List.set_cons_succ,List.set_cons_zero,Nat.reduceAdd];rfl) (by kernel_rfl) (by kernel_rfl) (by kernel_rfl) (fun dn hd=>zaz hd (QA.mk H1.out)) ?_ ?_
 ·repeat' first|refine zas (fun u dn x hi hc hk hs=>?_) ?_|exact zax
  ·go_wp2_with fail;exact zab _ rfl rfl (zaa rfl hs)
  ·obtain ⟨⟨(h0:u 0=.pointer (some ⟨s,0,none⟩)),t0⟩,_⟩:=hk;simp only [h0];clear h0;go_wp2_with fail;exact zab _ rfl rfl (zaa rfl hs)
  ·obtain ⟨⟨(h1:u 1=.pointer (some ⟨s,0,none⟩)),t1⟩,_⟩:=hk;simp only [h1];clear h1;go_wp2_with fail;exact zab _ rfl rfl (zaa rfl hs)
  ·obtain ⟨⟨(h2:u 2=.pointer (some ⟨s,9,none⟩)),t2⟩,_⟩:=hk;simp only [h2];clear h2;have d11:=zag hc hi 11 60 (by kernel_rfl);have hn:cntD [11] dn=0:=by simp only [cntD,d11];rfl
   have hs1:=zae hn hs;have q:=(fun h:QA w1 s b v c d bs nm I B t Z _=>h.1.cycs) hs1;go_wp2_with fail;exact zab _ rfl rfl (zaa rfl hs)
  ·go_wp2_with fail;exact zab _ rfl rfl (zaa rfl hs)
  ·obtain ⟨⟨(h4:u 4=.int .i64 P),t4⟩,_⟩:=hk;simp only [h4];clear h4;have d11:=zag hc hi 11 60 (by kernel_rfl);have hn:cntD [11] dn=0:=by simp only [cntD,d11];rfl
   have hs1:=zae hn hs;have HS:=hide hs;have HS1:=hide hs1;clear hs hs1;go_wp2_with fail;refine (KW.out _ (show QA w1 s b v c d bs nm I B t Z _ from HS1.out).1.2.1.tabs.2.1).mono ?_;rintro e x2 ⟨rfl,b2⟩;have H2:=hide (zcb (zpB QA.stab QA.stab) HS.out b2);clear b2 HS HS1;go_wp2_with fail;exact zab _ rfl rfl (zaa rfl H2.out)
  ·obtain ⟨⟨(h5:u 5=.agg #[.int .i64 (zaI P),.int .i64 (zcJ P),.int .i64 (atW P)]),t5⟩,_⟩:=hk;simp only [h5];clear h5;go_wp2_with fail;exact zab _ rfl rfl (zaa rfl hs)
  ·obtain ⟨⟨(h6:u 6=.int .i64 (zaI P)),t6⟩,⟨(h5:u 5=.agg #[.int .i64 (zaI P),.int .i64 (zcJ P),.int .i64 (atW P)]),t5⟩,_⟩:=hk;simp only [h6];clear h6 h5;have d11:=zag hc hi 11 60 (by kernel_rfl);have hn:cntD [11] dn=0:=by simp only [cntD,d11];rfl
   have hs1:=zae hn hs;have HS:=hide hs;clear hs hs1;go_wp2_with fail;refine (KS.out _).mono ?_;rintro e x2 ⟨rfl,hw⟩;subst x2;go_wp2_with fail;exact zab _ rfl rfl (zaa rfl HS.out)
  ·obtain ⟨⟨(h3:u 3=.int .i64 (Z 23 0)),t3⟩,⟨(h7:u 7=.int .i64 y),t7⟩,_⟩:=hk;simp only [h3,h7];clear h3 h7;go_wp2_with fail;exact zab _ rfl rfl (zaa rfl hs)
  ·obtain ⟨⟨(h0:u 0=.pointer (some ⟨s,0,none⟩)),t0⟩,_,⟨(h1:u 1=.pointer (some ⟨s,0,none⟩)),t1⟩,⟨(h2:u 2=.pointer (some ⟨s,9,none⟩)),t2⟩,⟨(h3:u 3=.int .i64 (Z 23 0)),t3⟩,⟨(h4:u 4=.int .i64 P),t4⟩,⟨(h5:u 5=.agg #[.int .i64 (zaI P),.int .i64 (zcJ P),.int .i64 (atW P)]),t5⟩,⟨(h6:u 6=.int .i64 (zaI P)),t6⟩,⟨(h7:u 7=.int .i64 y),t7⟩,⟨(h8:u 8=.int .i64 (wrap64 (Z 23 0+y))),t8⟩,_⟩:=hk;simp only [h0];clear h0 h1 h2 h3 h4 h5 h6 h7 h8;go_wp2_with fail;exact zab _ rfl rfl (zaa rfl hs)
  ·obtain ⟨⟨(h9:u 9=.pointer (some ⟨s,0,none⟩)),t9⟩,⟨(h0:u 0=.pointer (some ⟨s,0,none⟩)),t0⟩,⟨(h1:u 1=.pointer (some ⟨s,0,none⟩)),t1⟩,⟨(h2:u 2=.pointer (some ⟨s,9,none⟩)),t2⟩,⟨(h3:u 3=.int .i64 (Z 23 0)),t3⟩,⟨(h4:u 4=.int .i64 P),t4⟩,⟨(h5:u 5=.agg #[.int .i64 (zaI P),.int .i64 (zcJ P),.int .i64 (atW P)]),t5⟩,⟨(h6:u 6=.int .i64 (zaI P)),t6⟩,⟨(h7:u 7=.int .i64 y),t7⟩,⟨(h8:u 8=.int .i64 (wrap64 (Z 23 0+y))),t8⟩,_⟩:=hk;simp only [h9];clear h9 h0 h1 h2 h3 h4 h5 h6 h7 h8;go_wp2_with fail;exact zab _ rfl rfl (zaa rfl hs)
  ·obtain ⟨⟨(h10:u 10=.pointer (some ⟨s,9,none⟩)),t10⟩,⟨(h8:u 8=.int .i64 (wrap64 (Z 23 0+y))),t8⟩,⟨(h7:u 7=.int .i64 y),t7⟩,⟨(h0:u 0=.pointer (some ⟨s,0,none⟩)),t0⟩,⟨(h1:u 1=.pointer (some ⟨s,0,none⟩)),t1⟩,⟨(h2:u 2=.pointer (some ⟨s,9,none⟩)),t2⟩,⟨(h3:u 3=.int .i64 (Z 23 0)),t3⟩,⟨(h4:u 4=.int .i64 P),t4⟩,⟨(h5:u 5=.agg #[.int .i64 (zaI P),.int .i64 (zcJ P),.int .i64 (atW P)]),t5⟩,⟨(h6:u 6=.int .i64 (zaI P)),t6⟩,_,_,_⟩:=hk;simp only [h10,h8];clear h10 h8 h7 h0 h1 h2 h3 h4 h5 h6;have d11:=hi;have hn:cntD [11] dn=0:=by simp only [cntD,d11];rfl
   have hs1:=zae hn hs;have hn2:cntD [11] (updD dn 11)=1:=by show (if updD dn 11 11=true then 1 else 0)+0=1;rw [zav];rfl
   have HN2:=hide hn2;clear hn hn2;have q:=(fun h:QA w1 s b v c d bs nm I B t Z _=>h.1.cycs) hs1;have z:=(fun h:QA w1 s b v c d bs nm I B t Z _=>h.1.frz 9) hs1;have H2:=hide ((fun h:QA w1 s b v c d bs nm I B t Z _=>show QA w1 s b v c d bs nm I B t (upZ Z 23 (oneV (wrap64 (Z 23 0+y)))) _ from ⟨h.1.putC (wrap64 (Z 23 0+y)),zbi h.2 9 _⟩) hs1);clear hs hs1;go_wp2_with fail;exact zab _ rfl rfl (zaE HN2.out H2.out)
 rintro u dn x hall hs hv;clear hv;have hn:cntD [11] dn=1:=by show (if dn 11=true then 1 else 0)+0=1;rw [hall 11 (by decide)];rfl
 have hs:=zae hn hs;clear hn hall;obtain ⟨h2,o2⟩:QA w1 s b v c d bs nm I B t (upZ Z 23 (oneV (wrap64 (Z 23 0+y)))) x:=hs;have H2:=hide h2;have O2:=hide (O1.out.trans o2);clear h2 o2 hs H1 O1;go_wp2;go_ret;refine ⟨rfl,?_,O2.out⟩;unfold cyc;rw [HZ.out];exact H2.out
theorem HasQ.bytes {w:World} {s b v c d:Nat} {bs:List Int} {nm:ByteArray} {I B:Nat→Int} {t:Bool} {Z:Nat→Nat→Int} (h:HasQ w s b v c d bs nm I B t Z):∀z,z ∈ bs→0≤z∧z<256:=h.2.1.2.2.1.2.1.2
theorem zvy {w:World} {s b v c d:Nat} {bs:List Int} {nm:ByteArray} {I B:Nat→Int} {t:Bool} {Z:Nat→Nat→Int} (h:HasQ w s b v c d bs nm I B t Z) (a:Int):0≤rV bs Z a∧rV bs Z a<256:=zub h.good h.bytes _
theorem zeW {w:World} {s b v c d:Nat} {bs:List Int} {nm:ByteArray} {I B:Nat→Int} {t:Bool} {Z:Nat→Nat→Int} (h:HasQ w s b v c d bs nm I B t Z) (a:Int):Calls Tryz.prog 89 #[.pointer (some ⟨s,0,none⟩),.int .i64 a] w fun e w'=>e=Ending.returned (.int .i64 (rV bs Z a))∧HasQ w' s b v c d bs nm I B t (rS Z a)∧OnlyE (EQ s b v) w w':=by
 have HE:=hide h;have x0:=zvy h a;obtain ⟨u,hx⟩:∃u,rV bs Z a=u:=⟨_,rfl⟩
 obtain ⟨P,hP⟩:∃P,phZ Z a=P:=⟨_,rfl⟩
 rw [hx] at x0;have KR:Hid (∀y,QA w s b v c d bs nm I B t Z y→Calls Tryz.prog 135 #[.pointer (some ⟨s,0,none⟩),.int .i64 a] y fun e y'=>e=Ending.returned (.int .i64 P)∧QA w s b v c d bs nm I B t (cyc Z (slZ Z a)) y'):=hide (fun y q=>by rw [←hP];exact (zlO q.1 a).mono fun e y' ⟨e1,q1,o1⟩=>⟨e1,q1,q.2.trans o1⟩)
 have KB:Hid (∀y,QA w s b v c d bs nm I B t (cyc Z (slZ Z a)) y→Calls Tryz.prog 28 #[.pointer (some ⟨b,0,none⟩),.int .i64 P] y fun e y'=>e=Ending.returned (.int .i64 u)∧QA w s b v c d bs nm I B t (rS Z a) y'):=hide (fun y q=>by
  have k:=zyV q.1.good b v c d bs q.1.2.2.2.2.2.1 P (x:=u) (Z':=rS Z a) (by rw [←hx,←hP];exact zvq (by decide) bs Z _ _) (by rw [←hP];rfl)
  exact (k.2.2 y q.1.2.1).mono fun e y' ⟨e1,p1,o1⟩=>⟨e1,q.1.bus p1 o1 k.1 (zfs (by decide) _ _) (zfs (by decide) _ _) (zfs (by decide) _ _) (zfs (by decide) _ _),q.2.trans (znr o1)⟩)
 have KY:Hid (∀w,Calls Tryz.prog 32 #[.int .i64 u] w fun e w'=>e=Ending.returned (.int .i64 u)∧w'=w):=hide (fun w=>by
  have k:=zaj u w;rw [show u%256=u by omega] at k
  exact k)
 rw [hx];clear h hx hP x0;go_enter Tryz.func89,Tryz.ntmps89;go_wp2_with fail;refine zai (zbl [.pointer (some ⟨s,0,none⟩),.pointer (some ⟨s,0,none⟩),.pointer (some ⟨s,8,none⟩),.pointer (some ⟨b,0,none⟩),.pointer (some ⟨s,0,none⟩),.int .i64 a,.int .i64 P,.int .i64 u,.int .i64 u,.int .i64 u]) (fun dd ww=>(stgs [QA w s b v c d bs nm I B t Z,QA w s b v c d bs nm I B t (cyc Z (slZ Z a)),QA w s b v c d bs nm I B t (rS Z a)]) (cntD [6,7] dd) ww) _ (fun vals=>by simp only [zat,Act.put,List.setIfInBounds_toArray,List.set_cons_succ,List.set_cons_zero,Nat.reduceAdd];rfl) (by kernel_rfl) (by kernel_rfl) (by kernel_rfl) (fun dn hd=>zaz hd (QA.mk HE.out)) ?_ ?_
 ·repeat' first|refine zas (fun vals dn x hi hc hk hs=>?_) ?_|exact zax
  ·go_wp2_with fail;exact zab _ rfl rfl (zaa rfl hs)
  ·obtain ⟨⟨(h0:vals 0=.pointer (some ⟨s,0,none⟩)),t0⟩,_⟩:=hk;simp only [h0];clear h0;go_wp2_with fail;exact zab _ rfl rfl (zaa rfl hs)
  ·obtain ⟨⟨(h1:vals 1=.pointer (some ⟨s,0,none⟩)),t1⟩,_⟩:=hk;simp only [h1];clear h1;go_wp2_with fail;exact zab _ rfl rfl (zaa rfl hs)
  ·obtain ⟨⟨(h2:vals 2=.pointer (some ⟨s,8,none⟩)),t2⟩,_⟩:=hk;simp only [h2];clear h2;have hs1:=hs;have q:=zeH hs1 (zaX [6,7] dn) (fun q=>q.1.buss) (fun q=>q.1.buss) (fun q=>q.1.buss);go_wp2_with fail;exact zab _ rfl rfl (zaa rfl hs)
  ·go_wp2_with fail;exact zab _ rfl rfl (zaa rfl hs)
  ·go_wp2_with fail;exact zab _ rfl rfl (zaa rfl hs)
  ·obtain ⟨⟨(h4:vals 4=.pointer (some ⟨s,0,none⟩)),t4⟩,⟨(h5:vals 5=.int .i64 a),t5⟩,_⟩:=hk;simp only [h4,h5];clear h4 h5;have d6:=hi;have d7:=zag hc hi 7 60 (by kernel_rfl);have hn:cntD [6,7] dn=0:=by simp only [cntD,d6,d7];rfl
   have hs1:=zae hn hs;have hn2:cntD [6,7] (updD dn 6)=1:=by show (if updD dn 6 6=true then 1 else 0)+((if updD dn 6 7=true then 1 else 0)+0)=1;rw [zav,zaw dn (show ¬7=6 by decide),d7];rfl
   have HN2:=hide hn2;clear hn hn2 d7;have HS:=hide hs1;clear hs hs1;go_wp2_with fail;refine (KR.out _ HS.out).mono ?_;rintro e x2 ⟨rfl,h2⟩;have H2:=hide h2;clear h2 HS;go_wp2_with fail;exact zab _ rfl rfl (zaE HN2.out H2.out)
  ·obtain ⟨⟨(h3:vals 3=.pointer (some ⟨b,0,none⟩)),t3⟩,⟨(h6:vals 6=.int .i64 P),t6⟩,_,_⟩:=hk;simp only [h3,h6];clear h3 h6;have d6:=t6;have d7:=hi;have hn:cntD [6,7] dn=1:=by simp only [cntD,d6,d7];rfl
   have hs1:=zae hn hs;have hn2:cntD [6,7] (updD dn 7)=2:=by show (if updD dn 7 6=true then 1 else 0)+((if updD dn 7 7=true then 1 else 0)+0)=2;rw [zaw dn (show ¬6=7 by decide),zav,d6];rfl
   have HN2:=hide hn2;clear hn hn2 d6;have HS:=hide hs1;clear hs hs1;go_wp2_with fail;refine (KB.out _ HS.out).mono ?_;rintro e x2 ⟨rfl,h2⟩;have H2:=hide h2;clear h2 HS;go_wp2_with fail;exact zab _ rfl rfl (zaE HN2.out H2.out)
  ·obtain ⟨⟨(h7:vals 7=.int .i64 u),t7⟩,_,_⟩:=hk;simp only [h7];clear h7;have d6:=zdK hc 60 6 7 t7 (by kernel_rfl);have d7:=t7;have hn:cntD [6,7] dn=2:=by simp only [cntD,d6,d7];rfl
   have hs1:=zae hn hs;have HS:=hide hs;clear hs hs1;go_wp2_with fail;refine (KY.out _).mono ?_;rintro e x2 ⟨rfl,hw⟩;subst x2;go_wp2_with fail;exact zab _ rfl rfl (zaa rfl HS.out)
  ·obtain ⟨⟨(h8:vals 8=.int .i64 u),t8⟩,_,⟨(h0:vals 0=.pointer (some ⟨s,0,none⟩)),t0⟩,⟨(h1:vals 1=.pointer (some ⟨s,0,none⟩)),t1⟩,⟨(h2:vals 2=.pointer (some ⟨s,8,none⟩)),t2⟩,⟨(h3:vals 3=.pointer (some ⟨b,0,none⟩)),t3⟩,⟨(h4:vals 4=.pointer (some ⟨s,0,none⟩)),t4⟩,⟨(h5:vals 5=.int .i64 a),t5⟩,⟨(h6:vals 6=.int .i64 P),t6⟩,⟨(h7:vals 7=.int .i64 u),t7⟩,_,_⟩:=hk;simp only [h8];clear h8 h0 h1 h2 h3 h4 h5 h6 h7;go_wp2_with fail;exact zab _ rfl rfl (zaa rfl hs)
 rintro vals dn x hall hs hv;obtain ⟨_,_,_,_,_,_,_,_,_,(h9:vals 9=.int .i64 u),_⟩:=hv;simp only [h9];clear h9;have hn:cntD [6,7] dn=2:=by show (if dn 6=true then 1 else 0)+((if dn 7=true then 1 else 0)+0)=2;rw [hall 6 (by decide),hall 7 (by decide)];rfl
 have hs:=zae hn hs;clear hn hall;obtain ⟨h2,o2⟩:QA w s b v c d bs nm I B t (rS Z a) x:=hs;have H2:=hide h2;have O2:=hide o2;clear h2 o2 hs;go_wp2;go_ret;exact ⟨rfl,H2.out,O2.out⟩
theorem zdU {w:World} {s b v c d:Nat} {bs:List Int} {nm:ByteArray} {I B:Nat→Int} {t:Bool} {Z:Nat→Nat→Int} (h:HasQ w s b v c d bs nm I B t Z) (a y:Int):Calls Tryz.prog 86 #[.pointer (some ⟨s,0,none⟩),.int .i64 a,.int .i64 y] w fun e w'=>e=Ending.returned (.tuple #[])∧HasQ w' s b v c d bs nm I B t (wS Z a y)∧OnlyE (EQ s b v) w w':=by
 have HE:=hide h;obtain ⟨P,hP⟩:∃P,phZ Z a=P:=⟨_,rfl⟩
 have KR:Hid (∀y,QA w s b v c d bs nm I B t Z y→Calls Tryz.prog 135 #[.pointer (some ⟨s,0,none⟩),.int .i64 a] y fun e y'=>e=Ending.returned (.int .i64 P)∧QA w s b v c d bs nm I B t (cyc Z (slZ Z a)) y'):=hide (fun y q=>by rw [←hP];exact (zlO q.1 a).mono fun e y' ⟨e1,q1,o1⟩=>⟨e1,q1,q.2.trans o1⟩)
 have KB:Hid (∀x,QA w s b v c d bs nm I B t (cyc Z (slZ Z a)) x→Calls Tryz.prog 62 #[.pointer (some ⟨b,0,none⟩),.int .i64 P,.int .i64 y] x fun e y'=>e=Ending.returned (.tuple #[])∧QA w s b v c d bs nm I B t (wS Z a y) y'):=hide (fun x q=>by
  have k:=zlJ q.1.good b v c d bs q.1.2.2.2.2.2.2 P y (Z':=wS Z a y) (by rw [←hP];rfl)
  exact (k.2.2 x q.1.2.1).mono fun e y' ⟨e1,p1,o1⟩=>⟨e1,q.1.bus p1 o1 k.1 (zbC (by decide) _ _ _) (zbC (by decide) _ _ _) (zbC (by decide) _ _ _) (zbC (by decide) _ _ _),q.2.trans (znr o1)⟩)
 clear h hP;go_enter Tryz.func86,Tryz.ntmps86;go_wp2_with fail;refine zai (zbl [.pointer (some ⟨s,0,none⟩),.pointer (some ⟨s,0,none⟩),.pointer (some ⟨s,8,none⟩),.pointer (some ⟨b,0,none⟩),.pointer (some ⟨s,0,none⟩),.int .i64 a,.int .i64 P,.int .i64 y,.tuple #[]]) (fun dd ww=>(stgs [QA w s b v c d bs nm I B t Z,QA w s b v c d bs nm I B t (cyc Z (slZ Z a)),QA w s b v c d bs nm I B t (wS Z a y)]) (cntD [6,8] dd) ww) _ (fun u=>by simp only [zat,Act.put,List.setIfInBounds_toArray,List.set_cons_succ,List.set_cons_zero,Nat.reduceAdd];rfl) (by kernel_rfl) (by kernel_rfl) (by kernel_rfl) (fun dn hd=>zaz hd (QA.mk HE.out)) ?_ ?_
 ·repeat' first|refine zas (fun u dn x hi hc hk hs=>?_) ?_|exact zax
  ·go_wp2_with fail;exact zab _ rfl rfl (zaa rfl hs)
  ·obtain ⟨⟨(h0:u 0=.pointer (some ⟨s,0,none⟩)),t0⟩,_⟩:=hk;simp only [h0];clear h0;go_wp2_with fail;exact zab _ rfl rfl (zaa rfl hs)
  ·obtain ⟨⟨(h1:u 1=.pointer (some ⟨s,0,none⟩)),t1⟩,_⟩:=hk;simp only [h1];clear h1;go_wp2_with fail;exact zab _ rfl rfl (zaa rfl hs)
  ·obtain ⟨⟨(h2:u 2=.pointer (some ⟨s,8,none⟩)),t2⟩,_⟩:=hk;simp only [h2];clear h2;have hs1:=hs;have q:=zeH hs1 (zaX [6,8] dn) (fun q=>q.1.buss) (fun q=>q.1.buss) (fun q=>q.1.buss);go_wp2_with fail;exact zab _ rfl rfl (zaa rfl hs)
  ·go_wp2_with fail;exact zab _ rfl rfl (zaa rfl hs)
  ·go_wp2_with fail;exact zab _ rfl rfl (zaa rfl hs)
  ·obtain ⟨⟨(h4:u 4=.pointer (some ⟨s,0,none⟩)),t4⟩,⟨(h5:u 5=.int .i64 a),t5⟩,_⟩:=hk;simp only [h4,h5];clear h4 h5;have d6:=hi;have d8:=zag hc hi 8 60 (by kernel_rfl);have hn:cntD [6,8] dn=0:=by simp only [cntD,d6,d8];rfl
   have hs1:=zae hn hs;have hn2:cntD [6,8] (updD dn 6)=1:=by show (if updD dn 6 6=true then 1 else 0)+((if updD dn 6 8=true then 1 else 0)+0)=1;rw [zav,zaw dn (show ¬8=6 by decide),d8];rfl
   have HN2:=hide hn2;clear hn hn2 d8;have HS:=hide hs1;clear hs hs1;go_wp2_with fail;refine (KR.out _ HS.out).mono ?_;rintro e x2 ⟨rfl,h2⟩;have H2:=hide h2;clear h2 HS;go_wp2_with fail;exact zab _ rfl rfl (zaE HN2.out H2.out)
  ·go_wp2_with fail;exact zab _ rfl rfl (zaa rfl hs)
  ·obtain ⟨⟨(h3:u 3=.pointer (some ⟨b,0,none⟩)),t3⟩,⟨(h6:u 6=.int .i64 P),t6⟩,⟨(h7:u 7=.int .i64 y),t7⟩,_,_⟩:=hk;simp only [h3,h6,h7];clear h3 h6 h7;have d6:=t6;have d8:=hi;have hn:cntD [6,8] dn=1:=by simp only [cntD,d6,d8];rfl
   have hs1:=zae hn hs;have hn2:cntD [6,8] (updD dn 8)=2:=by show (if updD dn 8 6=true then 1 else 0)+((if updD dn 8 8=true then 1 else 0)+0)=2;rw [zaw dn (show ¬6=8 by decide),zav,d6];rfl
   have HN2:=hide hn2;clear hn hn2 d6;have HS:=hide hs1;clear hs hs1;go_wp2_with fail;refine (KB.out _ HS.out).mono ?_;rintro e x2 ⟨rfl,h2⟩;have H2:=hide h2;clear h2 HS;go_wp2_with fail;exact zab _ rfl rfl (zaE HN2.out H2.out)
 rintro u dn x hall hs hv;clear hv;have hn:cntD [6,8] dn=2:=by show (if dn 6=true then 1 else 0)+((if dn 8=true then 1 else 0)+0)=2;rw [hall 6 (by decide),hall 8 (by decide)];rfl
 have hs:=zae hn hs;clear hn hall;obtain ⟨h2,o2⟩:QA w s b v c d bs nm I B t (wS Z a y) x:=hs;have H2:=hide h2;have O2:=hide o2;clear h2 o2 hs;go_wp2;go_end0;exact ⟨rfl,H2.out,O2.out⟩
theorem zhd {w:World} {s b v c d:Nat} {bs:List Int} {nm:ByteArray} {I B:Nat→Int} {t:Bool} {Z:Nat→Nat→Int} (h:HasQ w s b v c d bs nm I B t Z) (x y:Int):Calls Tryz.prog 64 #[.pointer (some ⟨s,0,none⟩),.int .i64 x,.int .i64 y] w fun e w'=>e=Ending.returned (.int .i64 (pV bs Z x y))∧HasQ w' s b v c d bs nm I B t (pS Z x y)∧OnlyE (EQ s b v) w w':=by
 have HE:=hide h;clear h;go_enter Tryz.func64,Tryz.ntmps64;go_wp2_with fail;refine (zeW HE.out x).mono ?_;rintro e w1 ⟨rfl,h1,o1⟩;have H1:=hide h1;have O1:=hide o1;clear h1 o1 HE;go_wp2_with fail;refine (zeW H1.out y).mono ?_;rintro e w2 ⟨rfl,h2,o2⟩;have H2:=hide h2;have O2:=hide (O1.out.trans o2);clear h2 o2 H1 O1;go_wp2_with (first|(go_at_call 90;refine (zbY _ _ _).mono ?_;rintro e w9 ⟨rfl,b9⟩;have H3:=hide (H2.out.next b9);have O3:=hide (O2.out.trans (zcd (s:=s) (b:=b) (v:=v) b9));clear b9 H2 O2));go_ret;exact ⟨rfl,H3.out,O3.out⟩
theorem zkL {w:World} {s b v c d:Nat} {bs:List Int} {nm:ByteArray} {I B:Nat→Int} {t:Bool} {Z:Nat→Nat→Int} (h:HasQ w s b v c d bs nm I B t Z) (x:Int):Calls Tryz.prog 26 #[.pointer (some ⟨s,0,none⟩),.int .i64 x] w fun e w'=>e=Ending.returned (.int .i64 (pV bs Z x (wOf x 1)))∧HasQ w' s b v c d bs nm I B t (pS Z x (wOf x 1))∧OnlyE (EQ s b v) w w':=by
 have HE:=hide h;clear h;go_enter Tryz.func26,Tryz.ntmps26;go_wp2_with fail;refine (zjN x _).mono ?_;rintro e w1 ⟨rfl,b1⟩;have H1:=hide (HE.out.next b1);have O1:=hide (zcd (s:=s) (b:=b) (v:=v) b1);clear b1 HE;go_wp2_with fail;refine (zhd H1.out x _).mono ?_;rintro e w2 ⟨rfl,h2,o2⟩;have H2:=hide h2;have O2:=hide (O1.out.trans o2);clear h2 o2 H1 O1;go_wp2;go_ret;exact ⟨rfl,H2.out,O2.out⟩
theorem zcB {Z:Nat→Nat→Int} (h:∀k,GZ k (Z k)) (k:Nat) (hk:k<5):0≤Z 20 k∧Z 20 k<256:=(h 20).1 k hk
theorem zsE {Z:Nat→Nat→Int} (h:∀k,GZ k (Z k)):0≤Z 20 5∧Z 20 5<65536:=(h 20).2
theorem zdy {g:Nat→Int} (h:GZ 20 g) (k:Nat) (hk:k<5) (x:Int) (x0:0≤x) (x1:x<256):GZ 20 (up g k x):=by
 refine ⟨fun j hj=>?_,?_⟩
 ·unfold up;split
  ·exact ⟨x0,x1⟩
  ·exact h.1 j hj
 ·rw [zbI _ _ _ _ (by omega)];exact h.2
theorem zhe {g:Nat→Int} (h:GZ 20 g) (x:Int) (x0:0≤x) (x1:x<65536):GZ 20 (up g 5 x):=by
 refine ⟨fun j hj=>?_,?_⟩
 ·rw [zbI _ _ _ _ (by omega)];exact h.1 j hj
 ·rw [zfM];exact ⟨x0,x1⟩
def psS (Z:Nat→Nat→Int) (y:Int):Nat→Nat→Int:=setR (wS Z (8448+Z 20 3) y) 3 ((Z 20 3-1)%256)
def plZ (Z:Nat→Nat→Int):Nat→Nat→Int:=setR Z 3 ((Z 20 3+1)%256)
def plV (bs:List Int) (Z:Nat→Nat→Int):Int:=rV bs (plZ Z) (8448+(Z 20 3+1)%256)
def plS (Z:Nat→Nat→Int):Nat→Nat→Int:=rS (plZ Z) (8448+(Z 20 3+1)%256)
theorem zhf {w:World} {s b v c d:Nat} {bs:List Int} {nm:ByteArray} {I B:Nat→Int} {t:Bool} {Z:Nat→Nat→Int} (h:HasQ w s b v c d bs nm I B t Z) (y:Int):Calls Tryz.prog 36 #[.pointer (some ⟨s,0,none⟩),.int .i64 y] w fun e w'=>e=Ending.returned (.tuple #[])∧HasQ w' s b v c d bs nm I B t (psS Z y)∧OnlyE (EQ s b v) w w':=by
 have HE:=hide h;have c3:=h.reg 3 (by decide);have r3:=zcB h.good 3 (by decide);have E3:Hid (wS Z (8448+Z 20 3) y 20=Z 20):=hide (zkJ _ _ _ _ (by decide));clear h;go_enter Tryz.func36,Tryz.ntmps36;go_wp2_with fail;refine (zdU HE.out (8448+Z 20 3) y).mono ?_;rintro e w1 ⟨rfl,h1,o1⟩;have c3:=h1.reg 3 (by decide);rw [E3.out] at c3;have z3:=h1.frz 3;have H1:=hide (h1.putR 3 (by decide) ((Z 20 3-1)%256) (zdy (h1.good 20) 3 (by decide) _ (by omega) (by omega)));have O1:=hide (zbi o1 3 (.int .i64 ((Z 20 3-1)%256)));clear h1 o1 HE;go_wp2_with (first|(go_at_call 32;refine (zaj _ _).mono ?_;rintro e w' ⟨rfl,rfl⟩));go_end0;exact ⟨rfl,H1.out,O1.out⟩
theorem zeX {w:World} {s b v c d:Nat} {bs:List Int} {nm:ByteArray} {I B:Nat→Int} {t:Bool} {Z:Nat→Nat→Int} (h:HasQ w s b v c d bs nm I B t Z):Calls Tryz.prog 100 #[.pointer (some ⟨s,0,none⟩)] w fun e w'=>e=Ending.returned (.int .i64 (plV bs Z))∧HasQ w' s b v c d bs nm I B t (plS Z)∧OnlyE (EQ s b v) w w':=by
 have c3:=h.reg 3 (by decide);have z3:=h.frz 3;have r3:=zcB h.good 3 (by decide);have H1:=hide (h.putR 3 (by decide) ((Z 20 3+1)%256) (zdy (h.good 20) 3 (by decide) _ (by omega) (by omega)));have O1:=hide (zbi (zcd (s:=s) (b:=b) (v:=v) (Below.refl _ w)) 3 (.int .i64 ((Z 20 3+1)%256)));clear h;go_enter Tryz.func100,Tryz.ntmps100;go_wp2_with (first|(go_at_call 32;refine (zaj _ _).mono ?_;rintro e w' ⟨rfl,rfl⟩)|fail);refine (zeW H1.out (8448+(Z 20 3+1)%256)).mono ?_;rintro e w1 ⟨rfl,h1,o1⟩;have H2:=hide h1;have O2:=hide (O1.out.trans o1);clear h1 o1 H1 O1;go_wp2;go_ret;exact ⟨rfl,H2.out,O2.out⟩
def pwS (Z:Nat→Nat→Int) (x:Int):Nat→Nat→Int:=psS (psS Z (x/256%256)) (x%256)
def plW (bs:List Int) (Z:Nat→Nat→Int):Int:=jn (plV bs Z) (plV bs (plS Z))
theorem zeY {w:World} {s b v c d:Nat} {bs:List Int} {nm:ByteArray} {I B:Nat→Int} {t:Bool} {Z:Nat→Nat→Int} (h:HasQ w s b v c d bs nm I B t Z) (x:Int):Calls Tryz.prog 35 #[.pointer (some ⟨s,0,none⟩),.int .i64 x] w fun e w'=>e=Ending.returned (.tuple #[])∧HasQ w' s b v c d bs nm I B t (pwS Z x)∧OnlyE (EQ s b v) w w':=by
 have HE:=hide h;clear h;go_enter Tryz.func35,Tryz.ntmps35;go_wp2_with (first|(go_at_call 85;refine (zbo _ _).mono ?_;rintro e w' ⟨rfl,rfl⟩)|fail);refine (zhf HE.out _).mono ?_;rintro e w1 ⟨rfl,h1,o1⟩;have H1:=hide h1;have O1:=hide o1;clear h1 o1 HE;go_wp2_with fail;refine (zhf H1.out _).mono ?_;rintro e w2 ⟨rfl,h2,o2⟩;have H2:=hide h2;have O2:=hide (O1.out.trans o2);clear h2 o2 H1 O1;go_wp2;go_end0;exact ⟨rfl,H2.out,O2.out⟩
theorem zhg {w:World} {s b v c d:Nat} {bs:List Int} {nm:ByteArray} {I B:Nat→Int} {t:Bool} {Z:Nat→Nat→Int} (h:HasQ w s b v c d bs nm I B t Z):Calls Tryz.prog 99 #[.pointer (some ⟨s,0,none⟩)] w fun e w'=>e=Ending.returned (.int .i64 (plW bs Z))∧HasQ w' s b v c d bs nm I B t (plS (plS Z))∧OnlyE (EQ s b v) w w':=by
 have HE:=hide h;clear h;go_enter Tryz.func99,Tryz.ntmps99;go_wp2_with fail;refine (zeX HE.out).mono ?_;rintro e w1 ⟨rfl,h1,o1⟩;have H1:=hide h1;have O1:=hide o1;clear h1 o1 HE;go_wp2_with fail;refine (zeX H1.out).mono ?_;rintro e w2 ⟨rfl,h2,o2⟩;have H2:=hide h2;have O2:=hide (O1.out.trans o2);clear h2 o2 H1 O1;go_wp2_with (first|(go_at_call 90;refine (zbY _ _ _).mono ?_;rintro e w9 ⟨rfl,b9⟩;have H3:=hide (H2.out.next b9);have O3:=hide (O2.out.trans (zcd (s:=s) (b:=b) (v:=v) b9));clear b9 H2 O2));go_ret;exact ⟨rfl,H3.out,O3.out⟩
theorem zpW {w:World} {s b v c d:Nat} {bs:List Int} {nm:ByteArray} {I B:Nat→Int} {t:Bool} {Z:Nat→Nat→Int} (h:HasQ w s b v c d bs nm I B t Z):Calls Tryz.prog 38 #[.pointer (some ⟨s,0,none⟩)] w fun e w'=>e=Ending.returned (.int .i64 (nV bs Z))∧HasQ w' s b v c d bs nm I B t (nx Z)∧OnlyE (EQ s b v) w w':=by
 have HE:=hide h;have c5:=h.reg 5 (by decide);have r5:=zsE h.good;have E5:Hid (rS Z (Z 20 5) 20=Z 20):=hide (zeq _ _ _ (by decide));clear h;go_enter Tryz.func38,Tryz.ntmps38;go_wp2_with fail;refine (zeW HE.out (Z 20 5)).mono ?_;rintro e w1 ⟨rfl,h1,o1⟩;have c5:=h1.reg 5 (by decide);rw [E5.out] at c5;have z5:=h1.frz 5;have H1:=hide (h1.putR 5 (by decide) ((Z 20 5+1)%65536) (zhe (h1.good 20) _ (by omega) (by omega)));have O1:=hide (zbi o1 5 (.int .i64 ((Z 20 5+1)%65536)));clear h1 o1 HE;go_wp2_with (first|(go_at_call 33;refine (zbd _ _).mono ?_;rintro e w' ⟨rfl,rfl⟩));go_ret;exact ⟨rfl,H1.out,O1.out⟩
theorem zfz {w:World} {s b v c d:Nat} {bs:List Int} {nm:ByteArray} {I B:Nat→Int} {t:Bool} {Z:Nat→Nat→Int} (h:HasQ w s b v c d bs nm I B t Z) (f:Int):Calls Tryz.prog 39 #[.pointer (some ⟨s,0,none⟩),.int .i64 f] w fun e w'=>e=Ending.returned (.bool (hasF (Z 20 4) f))∧w'=w:=by
 have c4:=h.reg 4 (by decide);clear h;go_enter Tryz.func39,Tryz.ntmps39;go_wp2;go_ret;exact ⟨rfl,rfl⟩
theorem zyZ {w:World} {s b v c d:Nat} {bs:List Int} {nm:ByteArray} {I B:Nat→Int} {t:Bool} {Z:Nat→Nat→Int} (h:HasQ w s b v c d bs nm I B t Z) (f:Int) (hr:zad (orP (Z 20 4) f)):Calls Tryz.prog 40 #[.pointer (some ⟨s,0,none⟩),.int .i64 f,.bool true] w fun e w'=>e=Ending.returned (.tuple #[])∧HasQ w' s b v c d bs nm I B t (setR Z 4 (orP (Z 20 4) f))∧OnlyE (EQ s b v) w w':=by
 have c4:=h.reg 4 (by decide);have z4:=h.frz 4;have H1:=hide (h.putR 4 (by decide) (orP (Z 20 4) f) (zdy (h.good 20) 4 (by decide) _ hr.1 hr.2));have O1:=hide (zbi (zcd (s:=s) (b:=b) (v:=v) (Below.refl _ w)) 4 (.int .i64 (orP (Z 20 4) f)));clear h hr;go_enter Tryz.func40,Tryz.ntmps40;go_wp2;go_end0;exact ⟨rfl,H1.out,O1.out⟩
theorem zpX {w:World} {s b v c d:Nat} {bs:List Int} {nm:ByteArray} {I B:Nat→Int} {t:Bool} {Z:Nat→Nat→Int} (h:HasQ w s b v c d bs nm I B t Z) (f:Int) (hr:zad (anP (Z 20 4) f)):Calls Tryz.prog 40 #[.pointer (some ⟨s,0,none⟩),.int .i64 f,.bool false] w fun e w'=>e=Ending.returned (.tuple #[])∧HasQ w' s b v c d bs nm I B t (setR Z 4 (anP (Z 20 4) f))∧OnlyE (EQ s b v) w w':=by
 have c4:=h.reg 4 (by decide);have z4:=h.frz 4;have H1:=hide (h.putR 4 (by decide) (anP (Z 20 4) f) (zdy (h.good 20) 4 (by decide) _ hr.1 hr.2));have O1:=hide (zbi (zcd (s:=s) (b:=b) (v:=v) (Below.refl _ w)) 4 (.int .i64 (anP (Z 20 4) f)));clear h hr;go_enter Tryz.func40,Tryz.ntmps40;go_wp2;go_end0;exact ⟨rfl,H1.out,O1.out⟩
end Go.Proofs.YtoijhhbiknhlnaaGreatDoor.L25
