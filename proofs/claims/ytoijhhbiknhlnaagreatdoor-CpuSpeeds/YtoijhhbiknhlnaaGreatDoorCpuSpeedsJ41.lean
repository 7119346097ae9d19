/- Texts put together. -/
import Derived.Test.YtoijhhbiknhlnaaGreatDoorCpuSpeedsJ40
import Derived.Test.YtoijhhbiknhlnaaGreatDoorCpuSpeedsJ01
namespace Go.Proofs.YtoijhhbiknhlnaaGreatDoor.L25
set_option maxHeartbeats 4000000
set_option maxRecDepth 20000
open A2 B4 C3 G6 I11 J23 K9 L24 M5 N8 O7 P22 R15 T10 V12 W13
open Go.RowKit
set_option linter.unusedVariables false
def Boxes (s b v g1 g2:Nat) (nn:ByteArray) (w:World):Prop:=(∃t1 f1,w.heap[g1]? = some (.cells #[.pointer (some ⟨s,0,none⟩)] t1 f1))∧(∃t2 f2,w.heap[g2]? = some (.cells #[.string nn] t2 f2))∧¬EQ s b v g1∧¬EQ s b v g2
theorem Boxes.only {s b v g1 g2:Nat} {nn:ByteArray} {w w':World} (h:Boxes s b v g1 g2 nn w) (k:OnlyE (EQ s b v) w w'):Boxes s b v g1 g2 nn w':=by
 obtain ⟨⟨t1,f1,e1⟩,⟨t2,f2,e2⟩,n1,n2⟩:=h;exact ⟨⟨t1,f1,k.obj e1 n1⟩,⟨t2,f2,k.obj e2 n2⟩,n1,n2⟩
theorem Boxes.one {s b v g1 g2:Nat} {nn:ByteArray} {w:World} (h:Boxes s b v g1 g2 nn w):w.cell? ⟨g1,0,none⟩=some (.pointer (some ⟨s,0,none⟩)):=by
 obtain ⟨⟨t1,f1,e1⟩,_⟩:=h;exact (cell_of_row w g1 0 _ _ _ e1).trans rfl
theorem Boxes.two {s b v g1 g2:Nat} {nn:ByteArray} {w:World} (h:Boxes s b v g1 g2 nn w):w.cell? ⟨g2,0,none⟩=some (.string nn):=by
 obtain ⟨_,⟨t2,f2,e2⟩,_⟩:=h;exact (cell_of_row w g2 0 _ _ _ e2).trans rfl
theorem zwa {w:World} {s b v c d:Nat} {bs:List Int} {nm:ByteArray} {I B:Nat→Int} {t:Bool} {Z:Nat→Nat→Int} (h:HasQ w s b v c d bs nm I B t Z) {g1 g2:Nat} {nn:ByteArray} (hb:Boxes s b v g1 g2 nn w) (op m:Int) (KO:∀w,Calls Tryz.prog 95 #[.string nn] w fun e w'=>e=Ending.returned (.int .i64 op)∧w'=w):Calls Tryz.prog 50 #[.int .i64 m,.pointer (some ⟨g1,0,none⟩),.pointer (some ⟨g2,0,none⟩)] w fun e w'=>e=Ending.returned (.int .i64 (rkV op (Z 20 0) m (Z 20 4)))∧HasQ w' s b v c d bs nm I B t (rkS Z op (Z 20 0) m)∧OnlyE (EQ s b v) w w':=by
 have HE:=hide h;have HB:=hide hb;obtain ⟨r,hr⟩:∃r,rkV op (Z 20 0) m (Z 20 4)=r:=⟨_,rfl⟩
 have KR:Hid (∀x,QA w s b v c d bs nm I B t Z x→Calls Tryz.prog 51 #[.pointer (some ⟨s,0,none⟩),.string nn,.int .i64 (Z 20 0),.int .i64 m] x fun e y=>e=Ending.returned (.int .i64 r)∧QA w s b v c d bs nm I B t (rkS Z op (Z 20 0) m) y):=hide (fun x q=>by rw [←hr];exact (zcy q.1 nn op (Z 20 0) m KO).mono fun e y ⟨e1,q1,o1⟩=>⟨e1,q1,q.2.trans o1⟩);rw [hr];clear h hb KO hr;go_enter Tryz.func50,Tryz.ntmps50;go_wp2_with fail;refine zai (zbl [.pointer (some ⟨s,0,none⟩),.string nn,.pointer (some ⟨s,0,none⟩),.pointer (some ⟨s,0,none⟩),.pointer (some ⟨s,0,none⟩),.pointer (some ⟨s,0,none⟩),.pointer (some ⟨s,0,none⟩),.int .i64 (Z 20 0),.int .i64 m,.int .i64 r,.int .i64 r]) (fun dd ww=>(stgs [QA w s b v c d bs nm I B t Z,QA w s b v c d bs nm I B t (rkS Z op (Z 20 0) m)]) (cntD [9] dd) ww) _ (fun u=>by simp only [zat,Act.put,List.setIfInBounds_toArray,List.set_cons_succ,List.set_cons_zero,Nat.reduceAdd];rfl) (by kernel_rfl) (by kernel_rfl) (by kernel_rfl) (fun dn hd=>zaz hd (QA.mk HE.out)) ?_ ?_
 ·repeat' first|refine zas (fun u dn x hi hc hk hs=>?_) ?_|exact zax
  ·have d9:=zag hc hi 9 60 (by kernel_rfl);have hn:cntD [9] dn=0:=by simp only [cntD,d9];rfl
   have hs1:=zae hn hs;have q:=(HB.out.only (show QA w s b v c d bs nm I B t Z x from hs1).2).one;go_wp2_with fail;exact zab _ rfl rfl (zaa rfl hs)
  ·have d9:=zag hc hi 9 60 (by kernel_rfl);have hn:cntD [9] dn=0:=by simp only [cntD,d9];rfl
   have hs1:=zae hn hs;have q:=(HB.out.only (show QA w s b v c d bs nm I B t Z x from hs1).2).two;go_wp2_with fail;exact zab _ rfl rfl (zaa rfl hs)
  ·have d9:=zag hc hi 9 60 (by kernel_rfl);have hn:cntD [9] dn=0:=by simp only [cntD,d9];rfl
   have hs1:=zae hn hs;have q:=(HB.out.only (show QA w s b v c d bs nm I B t Z x from hs1).2).one;go_wp2_with fail;exact zab _ rfl rfl (zaa rfl hs)
  ·obtain ⟨⟨(h2:u 2=.pointer (some ⟨s,0,none⟩)),t2⟩,_⟩:=hk;simp only [h2];clear h2;go_wp2_with fail;exact zab _ rfl rfl (zaa rfl hs)
  ·obtain ⟨⟨(h3:u 3=.pointer (some ⟨s,0,none⟩)),t3⟩,_⟩:=hk;simp only [h3];clear h3;go_wp2_with fail;exact zab _ rfl rfl (zaa rfl hs)
  ·obtain ⟨⟨(h4:u 4=.pointer (some ⟨s,0,none⟩)),t4⟩,_⟩:=hk;simp only [h4];clear h4;go_wp2_with fail;exact zab _ rfl rfl (zaa rfl hs)
  ·obtain ⟨⟨(h5:u 5=.pointer (some ⟨s,0,none⟩)),t5⟩,_⟩:=hk;simp only [h5];clear h5;go_wp2_with fail;exact zab _ rfl rfl (zaa rfl hs)
  ·obtain ⟨⟨(h6:u 6=.pointer (some ⟨s,0,none⟩)),t6⟩,_⟩:=hk;simp only [h6];clear h6;have d9:=zag hc hi 9 60 (by kernel_rfl);have hn:cntD [9] dn=0:=by simp only [cntD,d9];rfl
   have hs1:=zae hn hs;have q:=(show QA w s b v c d bs nm I B t Z x from hs1).1.reg 0 (by decide);go_wp2_with fail;exact zab _ rfl rfl (zaa rfl hs)
  ·go_wp2_with fail;exact zab _ rfl rfl (zaa rfl hs)
  ·obtain ⟨⟨(h0:u 0=.pointer (some ⟨s,0,none⟩)),t0⟩,⟨(h1:u 1=.string nn),t1⟩,⟨(h7:u 7=.int .i64 (Z 20 0)),t7⟩,⟨(h8:u 8=.int .i64 m),t8⟩,_⟩:=hk;simp only [h0,h1,h7,h8];clear h0 h1 h7 h8;have d9:=hi;have hn:cntD [9] dn=0:=by simp only [cntD,d9];rfl
   have hs1:=zae hn hs;have hn2:cntD [9] (updD dn 9)=1:=by show (if updD dn 9 9=true then 1 else 0)+0=1;rw [zav];rfl
   have HN2:=hide hn2;clear hn hn2;have HS:=hide hs1;clear hs hs1;go_wp2_with fail;refine (KR.out _ HS.out).mono ?_;rintro e x2 ⟨rfl,h2⟩;have H2:=hide h2;clear h2 HS;go_wp2_with fail;exact zab _ rfl rfl (zaE HN2.out H2.out)
  ·obtain ⟨⟨(h9:u 9=.int .i64 r),t9⟩,_,⟨(h0:u 0=.pointer (some ⟨s,0,none⟩)),t0⟩,⟨(h1:u 1=.string nn),t1⟩,⟨(h2:u 2=.pointer (some ⟨s,0,none⟩)),t2⟩,⟨(h3:u 3=.pointer (some ⟨s,0,none⟩)),t3⟩,⟨(h4:u 4=.pointer (some ⟨s,0,none⟩)),t4⟩,⟨(h5:u 5=.pointer (some ⟨s,0,none⟩)),t5⟩,⟨(h6:u 6=.pointer (some ⟨s,0,none⟩)),t6⟩,⟨(h7:u 7=.int .i64 (Z 20 0)),t7⟩,⟨(h8:u 8=.int .i64 m),t8⟩,_,_⟩:=hk;simp only [h9];clear h9 h0 h1 h2 h3 h4 h5 h6 h7 h8;go_wp2_with fail;exact zab _ rfl rfl (zaa rfl hs)
 rintro u dn x hall hs hv;obtain ⟨_,_,_,_,_,_,_,_,_,_,(h10:u 10=.int .i64 r),_⟩:=hv;simp only [h10];clear h10;have hn:cntD [9] dn=1:=by show (if dn 9=true then 1 else 0)+0=1;rw [hall 9 (by decide)];rfl
 have hs:=zae hn hs;clear hn hall;obtain ⟨h2,o2⟩:QA w s b v c d bs nm I B t (rkS Z op (Z 20 0) m) x:=hs;have H2:=hide h2;have O2:=hide o2;clear h2 o2;go_wp2;go_ret;exact ⟨rfl,H2.out,O2.out⟩
theorem zwb {w:World} {s b v c d:Nat} {bs:List Int} {nm:ByteArray} {I B:Nat→Int} {t:Bool} {Z:Nat→Nat→Int} (h:HasQ w s b v c d bs nm I B t Z) {g1 g2:Nat} {nn:ByteArray} (hb:Boxes s b v g1 g2 nn w) (m k:Int) (on:Bool) (KN:∀x,HasQ x s b v c d bs nm I B t Z→Calls Tryz.prog 54 #[.pointer (some ⟨s,0,none⟩)] x fun e x'=>e=Ending.returned (.int .i64 k)∧x'=x) (ho:(nn.toList==[83,77,66])=on):Calls Tryz.prog 52 #[.int .i64 m,.pointer (some ⟨g1,0,none⟩),.pointer (some ⟨g2,0,none⟩)] w fun e w'=>e=Ending.returned (.int .i64 (zbj m k on))∧HasQ w' s b v c d bs nm I B t Z∧OnlyE (EQ s b v) w w':=by
 have HE:=hide h;have HB:=hide hb;replace KN:=hide KN;have KP:=hide (fun w=>zeS m k on w);clear h hb;go_enter Tryz.func52,Tryz.ntmps52;go_wp2_with fail;refine zai (zbl [.int .i64 m,.pointer (some ⟨s,0,none⟩),.int .i64 k,.string nn,.bool on,.int .i64 (zbj m k on),.int .i64 (zbj m k on)]) (fun dd ww=>(stgs [QA w s b v c d bs nm I B t Z]) (cntD [] dd) ww) _ (fun u=>by simp only [zat,Act.put,List.setIfInBounds_toArray,List.set_cons_succ,List.set_cons_zero,Nat.reduceAdd];rfl) (by kernel_rfl) (by kernel_rfl) (by kernel_rfl) (fun dn hd=>zaz hd (QA.mk HE.out)) ?_ ?_
 ·repeat' first|refine zas (fun u dn x hi hc hk hs=>?_) ?_|exact zax
  ·go_wp2_with fail;exact zab _ rfl rfl (zaa rfl hs)
  ·have hs1:=hs;have q:=(HB.out.only (show QA w s b v c d bs nm I B t Z x from hs1).2).one;go_wp2_with fail;exact zab _ rfl rfl (zaa rfl hs)
  ·obtain ⟨⟨(h1:u 1=.pointer (some ⟨s,0,none⟩)),t1⟩,_⟩:=hk;simp only [h1];clear h1;have hs1:=hs;have HS:=hide hs;clear hs hs1;go_wp2_with fail;refine (KN.out _ (show QA w s b v c d bs nm I B t Z _ from HS.out).1).mono ?_;rintro e x2 ⟨rfl,hw⟩;subst x2;go_wp2_with fail;exact zab _ rfl rfl (zaa rfl HS.out)
  ·have hs1:=hs;have q:=(HB.out.only (show QA w s b v c d bs nm I B t Z x from hs1).2).two;go_wp2_with fail;exact zab _ rfl rfl (zaa rfl hs)
  ·obtain ⟨⟨(h3:u 3=.string nn),t3⟩,_⟩:=hk;simp only [h3];clear h3;go_wp2_with fail;exact zab _ rfl rfl (zaa rfl hs)
  ·obtain ⟨⟨(h0:u 0=.int .i64 m),t0⟩,⟨(h2:u 2=.int .i64 k),t2⟩,⟨(h4:u 4=.bool on),t4⟩,_,_⟩:=hk;simp only [h0,h2,h4];clear h0 h2 h4;have hs1:=hs;have HS:=hide hs;have HS1:=hide hs1;clear hs hs1;go_wp2_with fail;refine (KP.out _).mono ?_;rintro e x2 ⟨rfl,b2⟩;have H2:=hide (zcb (zpA QA.stab) HS.out b2);clear b2 HS HS1;go_wp2_with fail;exact zab _ rfl rfl (zaa rfl H2.out)
  ·obtain ⟨⟨(h5:u 5=.int .i64 (zbj m k on)),t5⟩,_,⟨(h0:u 0=.int .i64 m),t0⟩,⟨(h1:u 1=.pointer (some ⟨s,0,none⟩)),t1⟩,⟨(h2:u 2=.int .i64 k),t2⟩,⟨(h3:u 3=.string nn),t3⟩,⟨(h4:u 4=.bool on),t4⟩,_,_⟩:=hk;simp only [h5];clear h5 h0 h1 h2 h3 h4;go_wp2_with fail;exact zab _ rfl rfl (zaa rfl hs)
 rintro u dn x hall hs hv;obtain ⟨_,_,_,_,_,_,(h6:u 6=.int .i64 (zbj m k on)),_⟩:=hv;simp only [h6];clear h6;obtain ⟨h2,o2⟩:QA w s b v c d bs nm I B t Z x:=hs;have H2:=hide h2;have O2:=hide o2;clear h2 o2;go_wp2;go_ret;exact ⟨rfl,H2.out,O2.out⟩
def chS (I:Nat→Int) (r:Int) (Z:Nat→Nat→Int):Nat→Nat→Int:=if I 0=1 then setR Z 0 r else wS Z (I 6) r
def caS (bs:List Int) (I:Nat→Int) (op:Int) (Z:Nat→Nat→Int):Nat→Nat→Int:=chS I (rkV op (Z 20 0) (mV bs I Z) (Z 20 4)) (rkS (mS I Z) op (Z 20 0) (mV bs I Z))
theorem zcn {w:World} {s b v c d:Nat} {bs:List Int} {nm:ByteArray} {I B:Nat→Int} {t:Bool} {Z:Nat→Nat→Int} (h:HasQ w s b v c d bs nm I B t Z) {g1 g2:Nat} {nn:ByteArray} (hb:Boxes s b v g1 g2 nn w) (op:Int) (KO:∀w,Calls Tryz.prog 95 #[.string nn] w fun e w'=>e=Ending.returned (.int .i64 op)∧w'=w):Calls Tryz.prog 49 #[.pointer (some ⟨s,0,none⟩),.func (.func 50) #[] #[.pointer (some ⟨g1,0,none⟩),.pointer (some ⟨g2,0,none⟩)]] w fun e w'=>e=Ending.returned (.tuple #[])∧HasQ w' s b v c d bs nm I B t (caS bs I op Z)∧OnlyE (EQ s b v) w w':=by
 have HE:=hide h;have HB:=hide hb;replace KO:=hide KO;unfold caS;have RI:=hide (zqg op (Z 20 0) (mV bs I Z) (Z 20 4)).1;have E20:=hide (ziE I Z);obtain ⟨r,hr⟩:∃r,rkV op (Z 20 0) (mV bs I Z) (Z 20 4)=r:=⟨_,rfl⟩
 have HR:=hide hr;rw [hr] at RI ⊢;generalize hX:chS I r (rkS (mS I Z) op (Z 20 0) (mV bs I Z))=X;have HX:=hide hX;clear h hb hr hX;go_enter Tryz.func49,Tryz.ntmps49;go_wp2_with fail;refine (m_is HE.out).mono ?_;rintro e w1 ⟨rfl,h1,o1⟩;have H1:=hide h1;have O1:=hide o1;have B1:=hide (HB.out.only o1);clear h1 o1 HE HB;go_wp2_with fail;refine (zwa H1.out B1.out op (mV bs I Z) KO.out).mono ?_;rintro e w2 ⟨rfl,h2,o2⟩;rw [E20.out] at h2;rw [E20.out,HR.out];have H2:=hide h2;have O2:=hide (O1.out.trans o2);have c11:=h2.mode;have c23:=h2.plac;clear h2 o2 H1 O1 B1
 by_cases h1:I 0=1
 ·rw [h1] at c11;have c0:=H2.out.reg 0 (by decide);have z0:=H2.out.frz 0;have H3:=hide (H2.out.putR 0 (by decide) r (zdy (H2.out.good 20) 0 (by decide) _ RI.out.1 RI.out.2));have O3:=hide (zbi O2.out 0 (.int .i64 r));clear H2 O2;go_wp2;refine bodyPost_end (P:=Tryz.prog) (fn:=Tryz.f49) (results_none rfl _ _ _) (by rfl) ?_;refine ⟨rfl,?_,O3.out⟩;rw [←HX.out];unfold chS;rw [if_pos h1];exact H3.out
 ·have hq:(I 0==1)=false:=by simp [h1]
  go_wp2_with fail;refine (zdU H2.out (I 6) r).mono ?_;rintro e w3 ⟨rfl,h3,o3⟩;have H3:=hide h3;have O3:=hide (O2.out.trans o3);clear h3 o3 H2 O2;go_wp2;refine bodyPost_end (P:=Tryz.prog) (fn:=Tryz.f49) (results_none rfl _ _ _) (by rfl) ?_;refine ⟨rfl,?_,O3.out⟩;rw [←HX.out];unfold chS;rw [if_neg h1];exact H3.out
def cbS (bs:List Int) (I:Nat→Int) (k:Int) (on:Bool) (Z:Nat→Nat→Int):Nat→Nat→Int:=chS I (zbj (mV bs I Z) k on) (mS I Z)
theorem zbq {w:World} {s b v c d:Nat} {bs:List Int} {nm:ByteArray} {I B:Nat→Int} {t:Bool} {Z:Nat→Nat→Int} (h:HasQ w s b v c d bs nm I B t Z) {g1 g2:Nat} {nn:ByteArray} (hb:Boxes s b v g1 g2 nn w) (k:Int) (on:Bool) (KN:∀x,HasQ x s b v c d bs nm I B t (mS I Z)→Calls Tryz.prog 54 #[.pointer (some ⟨s,0,none⟩)] x fun e x'=>e=Ending.returned (.int .i64 k)∧x'=x) (ho:(nn.toList==[83,77,66])=on) (hr:zad (zbj (mV bs I Z) k on)):Calls Tryz.prog 49 #[.pointer (some ⟨s,0,none⟩),.func (.func 52) #[] #[.pointer (some ⟨g1,0,none⟩),.pointer (some ⟨g2,0,none⟩)]] w fun e w'=>e=Ending.returned (.tuple #[])∧HasQ w' s b v c d bs nm I B t (cbS bs I k on Z)∧OnlyE (EQ s b v) w w':=by
 have HE:=hide h;have HB:=hide hb;replace KN:=hide KN;have OH:=hide ho;unfold cbS;have RI:=hide hr;generalize hq:zbj (mV bs I Z) k on=r at *;have HR:=hide hq;generalize hX:chS I r (mS I Z)=X;have HX:=hide hX;clear h hb hr ho hq hX;go_enter Tryz.func49,Tryz.ntmps49;go_wp2_with fail;refine (m_is HE.out).mono ?_;rintro e w1 ⟨rfl,h1,o1⟩;have H1:=hide h1;have O1:=hide o1;have B1:=hide (HB.out.only o1);clear h1 o1 HE HB;go_wp2_with fail;refine (zwb H1.out B1.out (mV bs I Z) k on KN.out OH.out).mono ?_;rintro e w2 ⟨rfl,h2,o2⟩;rw [HR.out];have H2:=hide h2;have O2:=hide (O1.out.trans o2);have c11:=h2.mode;have c23:=h2.plac;clear h2 o2 H1 O1 B1
 by_cases h1:I 0=1
 ·rw [h1] at c11;have c0:=H2.out.reg 0 (by decide);have z0:=H2.out.frz 0;have H3:=hide (H2.out.putR 0 (by decide) r (zdy (H2.out.good 20) 0 (by decide) _ RI.out.1 RI.out.2));have O3:=hide (zbi O2.out 0 (.int .i64 r));clear H2 O2;go_wp2;refine bodyPost_end (P:=Tryz.prog) (fn:=Tryz.f49) (results_none rfl _ _ _) (by rfl) ?_;refine ⟨rfl,?_,O3.out⟩;rw [←HX.out];unfold chS;rw [if_pos h1];exact H3.out
 ·have hq:(I 0==1)=false:=by simp [h1]
  go_wp2_with fail;refine (zdU H2.out (I 6) r).mono ?_;rintro e w3 ⟨rfl,h3,o3⟩;have H3:=hide h3;have O3:=hide (O2.out.trans o3);clear h3 o3 H2 O2;go_wp2;refine bodyPost_end (P:=Tryz.prog) (fn:=Tryz.f49) (results_none rfl _ _ _) (by rfl) ?_;refine ⟨rfl,?_,O3.out⟩;rw [←HX.out];unfold chS;rw [if_neg h1];exact H3.out
def stA (k i a:Int):Int:=goOf a (if k=1 then -(i%65536) else if k=4 then i%2 else i%65536)
def stB (k i a:Int):Int:=goOf a (if k=1 then -(i%65536) else if k=2 then 0 else if k=3 then i%2 else i%65536)
theorem ztc (k i a e:Int) (k0:0≤k) (k4:k≤4) (w:World) (hP:HasPaths w):Calls Tryz.prog 112 #[.int .i64 k,.int .i64 i,.agg #[.int .i64 a,.int .i64 e]] w fun r w'=>r=.returned (.tuple #[.int .i64 (stA k i a),.int .i64 (stB k i e)])∧Below w.heap.size w w':=by
 rcases (show k=0∨k=1∨k=2∨k=3∨k=4 by omega) with rfl|rfl|rfl|rfl|rfl
 ·exact zzl i a e w hP
 ·exact zzm i a e w hP
 ·exact zzn i a e w hP
 ·exact zzo i a e w hP
 ·exact zzp i a e w hP
def trN (bs:List Int) (k fr tu:Int) (Z:Nat→Nat→Int):Nat→Nat→Nat→Int
 |0=>Z
 |n+1=>cyc (wS (rS (trN bs k fr tu Z n) (stA k n fr)) (stB k n tu) (rV bs (trN bs k fr tu Z n) (stA k n fr))) 6
def trS (bs:List Int) (k:Int) (B:Nat→Int) (Z:Nat→Nat→Int):Nat→Nat→Int:=trN bs k (jn (B 0) (B 1)) (jn (B 2) (B 3)) Z (zeV (jn (B 4) (B 5))).toNat
theorem ztd {w:World} {s b v c d:Nat} {bs:List Int} {nm:ByteArray} {I B:Nat→Int} {t:Bool} {Z:Nat→Nat→Int} (h:HasQ w s b v c d bs nm I B t Z):HasPaths w:=h.2.2.1.2.1
theorem zte {w:World} {s b v c d:Nat} {bs:List Int} {nm:ByteArray} {I B:Nat→Int} {t:Bool} {Z:Nat→Nat→Int} (h:HasQ w s b v c d bs nm I B t Z):zgu w:=h.2.2.1.2.2.1
theorem zdq {w:World} {s b v c d:Nat} {bs:List Int} {nm:ByteArray} {I B:Nat→Int} {t:Bool} {Z:Nat→Nat→Int} (h:HasQ w s b v c d bs nm I B t Z) (nn:ByteArray) (k:Int) (k0:0≤k) (k4:k≤4) (KK:∀w,zgu w→Calls Tryz.prog 110 #[.string nn] w fun e w'=>e=Ending.returned (.tuple #[.int .i64 k,.bool true])∧w'=w):Calls Tryz.prog 63 #[.pointer (some ⟨s,0,none⟩),.string nn] w fun e w'=>e=Ending.returned (.tuple #[])∧HasQ w' s b v c d bs nm I B t (trS bs k B Z)∧OnlyE (EQ s b v) w w':=by
 have HE:=hide h;have HF:=hide h.1;have SEG:=hide (zhh b nm I B t Z);have HL:=hide h.lt;have HLB:=hide h.2.1.1.lt;have HLV:=hide (lt_of_block h.2.1.2.1);replace KK:=hide KK;unfold trS;have CI:=hide (znq (jn (B 4) (B 5)));have J0:=hide (fun w=>zbY (B 0) (B 1) w);have J2:=hide (fun w=>zbY (B 2) (B 3) w);have J4:=hide (fun w=>zbY (B 4) (B 5) w);have KC:=hide (fun w=>zpO (jn (B 4) (B 5)) w);rw [show B 0%256+256*(B 1%256)=jn (B 0) (B 1) from rfl] at J0;rw [show B 2%256+256*(B 3%256)=jn (B 2) (B 3) from rfl] at J2;rw [show B 4%256+256*(B 5%256)=jn (B 4) (B 5) from rfl] at J4;generalize jn (B 0) (B 1)=fr at *;generalize jn (B 2) (B 3)=tu at *;generalize jn (B 4) (B 5)=ln at *;generalize zeV ln=cn at *;have KS:=hide (fun (i:Int) (w:World) (hP:HasPaths w)=>ztc k i fr tu k0 k4 w hP);clear h k0 k4;go_enter Tryz.func63,Tryz.ntmps63
 go_upto_region 1 with (first
  |(refine zaC rfl 83 (.tmp 13) rfl s 14 rfl HF.out 6 (by decide) (iv B) SEG.out _ Tryz.underlying83 rfl (by kernel_rfl) ?_;rw [show rowF (iv B) 6=#[.int .i64 (B 0),.int .i64 (B 1),.int .i64 (B 2),.int .i64 (B 3),.int .i64 (B 4),.int .i64 (B 5)] from rfl]))
 refine under_name fun wa hwa=>?_
 have GA:Hid (wa.heap[w.heap.size]? = some (.cells #[.int .i64 (B 0),.int .i64 (B 1),.int .i64 (B 2),.int .i64 (B 3),.int .i64 (B 4),.int .i64 (B 5)] 83 (0,0))):=hide (by rw [hwa];exact heap_alloc_new _ _);have BA:Hid (Below w.heap.size w wa):=hide (by rw [hwa];exact (Below.refl _ w).alloc (Nat.le_refl _) _);have HA:=hide (HE.out.next BA.out);have OA:=hide (zcd (s:=s) (b:=b) (v:=v) BA.out);clear hwa HE HF SEG;generalize hg0:w.heap.size=g at *;have KK1:=hide (KK.out wa (zte HA.out));go_upto_region 2 with (first|(go_at_call 110;refine KK1.out.mono ?_;rintro e w' ⟨rfl,hw⟩;subst w'));clear KK KK1;refine zbN _ _ _ (show _=([_,_,_,_,_,_,_,_,_,_,_]++[_])++[_] from rfl) #[.int .i64 0,.int .i64 0] 157 61 7 (by kernel_rfl) (by kernel_rfl) (by kernel_rfl) (by kernel_rfl) rfl ?_ ?_
 ·intro a w
  set_option maxRecDepth 100000 in
  rfl
 apply Exists.intro;refine ⟨fun V hV=>?_,?_⟩
 ·have gl:=lt_of_block GA.out;have GV:=(hV.block _ gl).trans GA.out;have gv:=lt_of_block GV;have i0:=zac (v:=.int .i64 (B 0)) ((cell_of_row V _ 0 _ _ _ GV).trans rfl) gv;have i1:=zac (v:=.int .i64 (B 1)) ((cell_of_row V _ 1 _ _ _ GV).trans rfl) gv;have i2:=zac (v:=.int .i64 (B 2)) ((cell_of_row V _ 2 _ _ _ GV).trans rfl) gv;have i3:=zac (v:=.int .i64 (B 3)) ((cell_of_row V _ 3 _ _ _ GV).trans rfl) gv;clear hV GV gv gl;haveI:=zal V
  repeat (go_big_quiet_step ((first
   |(go_at_call_of 90 (Value.int .i64 (B 0));exact zaU (J0.out _))
   |(go_at_call_of 90 (Value.int .i64 (B 2));exact zaU (J2.out _)))))
  refine wpQuiet_nil ?_;rfl
 intro g3 wx bx hg lg;have G1:=hide (show (wx.setRow g3 #[.int .i64 fr,.int .i64 tu]).heap[g3]? = some (.cells #[.int .i64 fr,.int .i64 tu] 157 (0,0)) from setRow_heap _ _ _ _ _ _ hg);have hne:g≠g3:=by have:=lt_of_block GA.out;omega
 have GB:=hide (show (wx.setRow g3 #[.int .i64 fr,.int .i64 tu]).heap[g]? = some (.cells #[.int .i64 (B 0),.int .i64 (B 1),.int .i64 (B 2),.int .i64 (B 3),.int .i64 (B 4),.int .i64 (B 5)] 83 (0,0)) from (setRow_other _ _ _ _ hne).trans ((bx.block g (lt_of_block GA.out)).trans GA.out));have B1:=hide (below_setRow (zar (Below.refl _ wa) bx) lg #[.int .i64 fr,.int .i64 tu]);have G0:=hide hg
 have NE:Hid (¬EQ s b v g∧¬EQ s b v g3):=hide (by
  have:=HL.out;have:=HLB.out;have:=HLV.out;have:=lt_of_block GA.out
  exact ⟨fun e=>by rcases e with e|e|e<;>omega,fun e=>by rcases e with e|e|e<;>omega⟩)
 clear bx hg lg hne GA;simp only [Act.put,List.setIfInBounds_toArray,List.set_cons_succ,List.set_cons_zero];refine wpList_store_row rfl 157 (.tmp 7) (.tmp 30) rfl g3 _ rfl rfl 157 _ G0.out (by kernel_rfl) rfl (by kernel_rfl) ?_;refine zam fun wb hwb=>?_
 rw [←hwb] at G1 GB B1;clear hwb G0;simp only [Act.put];have HB:=hide (HA.out.next B1.out);have OB:=hide (OA.out.trans (zcd B1.out));have c4:wb.cell? ⟨g,4,none⟩=some (.int .i64 (B 4)):=(cell_of_row wb g 4 _ _ _ GB.out).trans rfl;have c5:wb.cell? ⟨g,5,none⟩=some (.int .i64 (B 5)):=(cell_of_row wb g 5 _ _ _ GB.out).trans rfl;have ci:=CI.out;clear HA OA B1
 go_wp2_with (first
  |(go_at_call 90;refine (J4.out _).mono ?_;rintro e wj ⟨rfl,bj⟩;have HJ:=hide (HB.out.next bj);have OJ:=hide (OB.out.trans (zcd bj));have GJ:=hide (zcH G1.out bj);clear bj HB OB GB G1 c4 c5)
  |(go_at_call 111;refine (KC.out _).mono ?_;rintro e w' ⟨rfl,hw⟩;subst w'))
 clear J0 J2 J4 KC;go_loopw [37] (fun si wr=>∃n:Nat,(n:Int)≤cn∧si=.int .i64 (n:Int)∧HasQ wr s b v c d bs nm I B t (trN bs k fr tu Z n)∧OnlyE (EQ s b v) w wr∧wr.heap[g3]? = some (.cells #[.int .i64 fr,.int .i64 tu] 157 (0,0))) (fun si _=>cn.toNat-(intOf si).toNat)
 case atStart=>exact ⟨0,by omega,rfl,HJ.out,OJ.out,GJ.out⟩
 case round=>
  clear HJ OJ GJ;obtain ⟨n,hn,rfl,hr,or,gr⟩:=hrel;have HR:=hide hr;have OR:=hide or;have GR:=hide gr;clear hr or gr
  by_cases hlt:(n:Int)<cn
  ·go_wp2_with (first
    |(refine wpList_load_row rfl 157 (.tmp 7) rfl g3 rfl _ _ _ _ GR.out Tryz.underlying157 rfl (by kernel_rfl) ?_)
    |(go_at_call 112;refine (KS.out (n:Int) _ (ztd HR.out)).mono ?_;rintro e ws ⟨rfl,bq⟩;have HS:=hide (HR.out.next bq);have OS:=hide (OR.out.trans (zcd bq));have GS:=hide (zcH GR.out bq);clear bq HR OR GR)
    |fail)
   refine (zeW HS.out (stA k n fr)).mono ?_;rintro e w1 ⟨rfl,h1,o1⟩;have H1:=hide h1;have O1:=hide (OS.out.trans o1);have G1:=hide (o1.obj GS.out NE.out.2);clear h1 o1 HS OS GS;go_wp2_with fail;refine (zdU H1.out (stB k n tu) _).mono ?_;rintro e w2 ⟨rfl,h2,o2⟩;have c9:=h2.cycs;have z9:=h2.frz 9;have H2:=hide (h2.putC (wrap64 (wS (rS (trN bs k fr tu Z n) (stA k n fr)) (stB k n tu) (rV bs (trN bs k fr tu Z n) (stA k n fr)) 23 0+6)));have o3:=zbi o2 9 (.int .i64 (wrap64 (wS (rS (trN bs k fr tu Z n) (stA k n fr)) (stB k n tu) (rV bs (trN bs k fr tu Z n) (stA k n fr)) 23 0+6)));have O2:=hide (O1.out.trans o3);have G2:=hide (o3.obj G1.out NE.out.2);clear h2 o2 o3 H1 O1 G1;go_wp2_with fail;exact ⟨⟨n+1,by omega,by go_num,H2.out,O2.out,G2.out⟩,by simp [intOf];omega⟩
  ·have hN:n=cn.toNat:=by omega
   have hr:=HR.out;rw [hN] at hr;have HN:=hide hr;clear hr HR hN;go_wp2_with fail;refine bodyPost_end (P:=Tryz.prog) (fn:=Tryz.f63) (results_none rfl _ _ _) (by rfl) ?_;exact ⟨rfl,HN.out,OR.out⟩
end Go.Proofs.YtoijhhbiknhlnaaGreatDoor.L25
