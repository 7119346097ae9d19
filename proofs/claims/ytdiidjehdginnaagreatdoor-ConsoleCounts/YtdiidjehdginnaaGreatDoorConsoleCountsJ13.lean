/- Texts put together. -/
import Derived.Test.YtdiidjehdginnaaGreatDoorConsoleCountsJ12
import Derived.Test.YtdiidjehdginnaaGreatDoorConsoleCountsJ10
import Derived.Test.YtdiidjehdginnaaGreatDoorRows
import Derived.Test.YtdiidjehdginnaaGreatDoorConsoleCountsJ01
import Derived.ChangeSame
import Derived.ChangeVars
import Derived.JoinedOf
import Derived.RowKit
import Derived.RowKitTokens
import Derived.LaidLaws
import Derived.LaidHandle
import Derived.Stop.Joined
import Derived.Laws.Rows
import Derived.Laws.Tables
namespace Go.Proofs.YtdiidjehdginnaaGreatDoor.L25
set_option maxHeartbeats 4000000
set_option maxRecDepth 20000
open A2 B4 C3 G6 I11 J23 K9 L24 M5 N8 O7 P22 R15 T10 V12 W13
open Go.RowKit
set_option linter.unusedVariables false
variable {t:Bool} {nm:ByteArray} {bs:List Int} {Z:Nat→Nat→Int} {w:World}
theorem znM {a:ByteArray} {l:List UInt8} {r:Bool} (h:(a.data.toList==l)=r):(a.toList==l)=r:=by
 rw [ByteArray.toList_eq];exact h
def gfS (I:Nat→Int) (Z:Nat→Nat→Int):Nat→Nat→Int:=setR Z 5 (wOf (Z 20 5) (zfF (I 5)))
theorem zvR {s b v c d:Nat} {I B:Nat→Int}   (h:HasQ w s b v c d bs nm I B t Z):Calls Tryz.prog 203 #[.pointer (some ⟨s,0,none⟩)] w fun e w'=>e=Ending.returned (.tuple #[])∧HasQ w' s b v c d bs nm I B t (gfS I Z)∧OnlyE (EQ s b v) w w':=by
 have HE:=hide h;unfold gfS;have VI:=hide (zBD (Z 20 5) (zfF (I 5)));have KT:=hide (fun w=>zpC (Z 20 5) (I 5) w);generalize wOf (Z 20 5) (zfF (I 5))=V at *;clear h;go_enter Tryz.func203,Tryz.ntmps203;go_wp2_with fail;refine zaD (zcx [.pointer (some ⟨s,0,none⟩),.pointer (some ⟨s,0,none⟩),.pointer (some ⟨s,0,none⟩),.pointer (some ⟨s,0,none⟩),.pointer (some ⟨s,0,none⟩),.pointer (some ⟨s,5,none⟩),.int .i64 (Z 20 5),.pointer (some ⟨s,0,none⟩),.pointer (some ⟨s,0,none⟩),.pointer (some ⟨s,22,none⟩),.int .i64 (I 5),.int .i64 V,.pointer (some ⟨s,0,none⟩),.pointer (some ⟨s,0,none⟩),.pointer (some ⟨s,0,none⟩),.pointer (some ⟨s,5,none⟩),undef]) (fun dd ww=>(stgs [QA w s b v c d bs nm I B t Z,QA w s b v c d bs nm I B t (setR Z 5 V)]) (cntD [16] dd) ww) _ (fun u=>by simp only [zaA,Act.put,List.setIfInBounds_toArray,List.set_cons_succ,List.set_cons_zero,Nat.reduceAdd];rfl) (by kernel_rfl) (by kernel_rfl) (by kernel_rfl) (fun dn hd=>zbe hd (QA.mk HE.out)) ?_ ?_
 ·repeat' first|refine zaW (fun u dn x hi hc hk hs=>?_) ?_|exact zbb
  ·go_wp2_with fail;exact zad _ rfl rfl (zac rfl hs)
  ·go_wp2_with fail;exact zad _ rfl rfl (zac rfl hs)
  ·obtain ⟨⟨(h1:u 1=.pointer (some ⟨s,0,none⟩)),t1⟩,_⟩:=hk;simp only [h1];clear h1;go_wp2_with fail;exact zad _ rfl rfl (zac rfl hs)
  ·obtain ⟨⟨(h2:u 2=.pointer (some ⟨s,0,none⟩)),t2⟩,_⟩:=hk;simp only [h2];clear h2;go_wp2_with fail;exact zad _ rfl rfl (zac rfl hs)
  ·obtain ⟨⟨(h3:u 3=.pointer (some ⟨s,0,none⟩)),t3⟩,_⟩:=hk;simp only [h3];clear h3;go_wp2_with fail;exact zad _ rfl rfl (zac rfl hs)
  ·obtain ⟨⟨(h4:u 4=.pointer (some ⟨s,0,none⟩)),t4⟩,_⟩:=hk;simp only [h4];clear h4;go_wp2_with fail;exact zad _ rfl rfl (zac rfl hs)
  ·obtain ⟨⟨(h5:u 5=.pointer (some ⟨s,5,none⟩)),t5⟩,_⟩:=hk;simp only [h5];clear h5;have d16:=zap hc hi 16 60 (by kernel_rfl);have hn:cntD [16] dn=0:=by simp only [cntD,d16];rfl
   have hs1:=zan hn hs;have q:=(show QA w s b v c d bs nm I B t Z x from hs1).1.reg 5 (by decide);go_wp2_with fail;exact zad _ rfl rfl (zac rfl hs)
  ·go_wp2_with fail;exact zad _ rfl rfl (zac rfl hs)
  ·obtain ⟨⟨(h7:u 7=.pointer (some ⟨s,0,none⟩)),t7⟩,_⟩:=hk;simp only [h7];clear h7;go_wp2_with fail;exact zad _ rfl rfl (zac rfl hs)
  ·obtain ⟨⟨(h8:u 8=.pointer (some ⟨s,0,none⟩)),t8⟩,_⟩:=hk;simp only [h8];clear h8;go_wp2_with fail;exact zad _ rfl rfl (zac rfl hs)
  ·obtain ⟨⟨(h9:u 9=.pointer (some ⟨s,22,none⟩)),t9⟩,_⟩:=hk;simp only [h9];clear h9;have d16:=zap hc hi 16 60 (by kernel_rfl);have hn:cntD [16] dn=0:=by simp only [cntD,d16];rfl
   have hs1:=zan hn hs;have q:=(show QA w s b v c d bs nm I B t Z x from hs1).1.farr;go_wp2_with fail;exact zad _ rfl rfl (zac rfl hs)
  ·obtain ⟨⟨(h6:u 6=.int .i64 (Z 20 5)),t6⟩,⟨(h10:u 10=.int .i64 (I 5)),t10⟩,_⟩:=hk;simp only [h6,h10];clear h6 h10;have d16:=zap hc hi 16 60 (by kernel_rfl);have hn:cntD [16] dn=0:=by simp only [cntD,d16];rfl
   have hs1:=zan hn hs;have HS:=hide hs;clear hs hs1;go_wp2_with fail;refine (KT.out _).mono ?_;rintro e x2 ⟨rfl,hw⟩;subst x2;go_wp2_with fail;exact zad _ rfl rfl (zac rfl HS.out)
  ·obtain ⟨⟨(h0:u 0=.pointer (some ⟨s,0,none⟩)),t0⟩,_,⟨(h1:u 1=.pointer (some ⟨s,0,none⟩)),t1⟩,⟨(h2:u 2=.pointer (some ⟨s,0,none⟩)),t2⟩,⟨(h3:u 3=.pointer (some ⟨s,0,none⟩)),t3⟩,⟨(h4:u 4=.pointer (some ⟨s,0,none⟩)),t4⟩,⟨(h5:u 5=.pointer (some ⟨s,5,none⟩)),t5⟩,⟨(h6:u 6=.int .i64 (Z 20 5)),t6⟩,⟨(h7:u 7=.pointer (some ⟨s,0,none⟩)),t7⟩,⟨(h8:u 8=.pointer (some ⟨s,0,none⟩)),t8⟩,⟨(h9:u 9=.pointer (some ⟨s,22,none⟩)),t9⟩,⟨(h10:u 10=.int .i64 (I 5)),t10⟩,⟨(h11:u 11=.int .i64 V),t11⟩,_⟩:=hk;simp only [h0];clear h0 h1 h2 h3 h4 h5 h6 h7 h8 h9 h10 h11;go_wp2_with fail;exact zad _ rfl rfl (zac rfl hs)
  ·obtain ⟨⟨(h12:u 12=.pointer (some ⟨s,0,none⟩)),t12⟩,⟨(h0:u 0=.pointer (some ⟨s,0,none⟩)),t0⟩,⟨(h1:u 1=.pointer (some ⟨s,0,none⟩)),t1⟩,⟨(h2:u 2=.pointer (some ⟨s,0,none⟩)),t2⟩,⟨(h3:u 3=.pointer (some ⟨s,0,none⟩)),t3⟩,⟨(h4:u 4=.pointer (some ⟨s,0,none⟩)),t4⟩,⟨(h5:u 5=.pointer (some ⟨s,5,none⟩)),t5⟩,⟨(h6:u 6=.int .i64 (Z 20 5)),t6⟩,⟨(h7:u 7=.pointer (some ⟨s,0,none⟩)),t7⟩,⟨(h8:u 8=.pointer (some ⟨s,0,none⟩)),t8⟩,⟨(h9:u 9=.pointer (some ⟨s,22,none⟩)),t9⟩,⟨(h10:u 10=.int .i64 (I 5)),t10⟩,⟨(h11:u 11=.int .i64 V),t11⟩,_⟩:=hk;simp only [h12];clear h12 h0 h1 h2 h3 h4 h5 h6 h7 h8 h9 h10 h11;go_wp2_with fail;exact zad _ rfl rfl (zac rfl hs)
  ·obtain ⟨⟨(h13:u 13=.pointer (some ⟨s,0,none⟩)),t13⟩,⟨(h0:u 0=.pointer (some ⟨s,0,none⟩)),t0⟩,⟨(h1:u 1=.pointer (some ⟨s,0,none⟩)),t1⟩,⟨(h2:u 2=.pointer (some ⟨s,0,none⟩)),t2⟩,⟨(h3:u 3=.pointer (some ⟨s,0,none⟩)),t3⟩,⟨(h4:u 4=.pointer (some ⟨s,0,none⟩)),t4⟩,⟨(h5:u 5=.pointer (some ⟨s,5,none⟩)),t5⟩,⟨(h6:u 6=.int .i64 (Z 20 5)),t6⟩,⟨(h7:u 7=.pointer (some ⟨s,0,none⟩)),t7⟩,⟨(h8:u 8=.pointer (some ⟨s,0,none⟩)),t8⟩,⟨(h9:u 9=.pointer (some ⟨s,22,none⟩)),t9⟩,⟨(h10:u 10=.int .i64 (I 5)),t10⟩,⟨(h11:u 11=.int .i64 V),t11⟩,_⟩:=hk;simp only [h13];clear h13 h0 h1 h2 h3 h4 h5 h6 h7 h8 h9 h10 h11;go_wp2_with fail;exact zad _ rfl rfl (zac rfl hs)
  ·obtain ⟨⟨(h14:u 14=.pointer (some ⟨s,0,none⟩)),t14⟩,⟨(h0:u 0=.pointer (some ⟨s,0,none⟩)),t0⟩,⟨(h1:u 1=.pointer (some ⟨s,0,none⟩)),t1⟩,⟨(h2:u 2=.pointer (some ⟨s,0,none⟩)),t2⟩,⟨(h3:u 3=.pointer (some ⟨s,0,none⟩)),t3⟩,⟨(h4:u 4=.pointer (some ⟨s,0,none⟩)),t4⟩,⟨(h5:u 5=.pointer (some ⟨s,5,none⟩)),t5⟩,⟨(h6:u 6=.int .i64 (Z 20 5)),t6⟩,⟨(h7:u 7=.pointer (some ⟨s,0,none⟩)),t7⟩,⟨(h8:u 8=.pointer (some ⟨s,0,none⟩)),t8⟩,⟨(h9:u 9=.pointer (some ⟨s,22,none⟩)),t9⟩,⟨(h10:u 10=.int .i64 (I 5)),t10⟩,⟨(h11:u 11=.int .i64 V),t11⟩,_⟩:=hk;simp only [h14];clear h14 h0 h1 h2 h3 h4 h5 h6 h7 h8 h9 h10 h11;go_wp2_with fail;exact zad _ rfl rfl (zac rfl hs)
  ·obtain ⟨⟨(h15:u 15=.pointer (some ⟨s,5,none⟩)),t15⟩,⟨(h11:u 11=.int .i64 V),t11⟩,_,⟨(h0:u 0=.pointer (some ⟨s,0,none⟩)),t0⟩,⟨(h1:u 1=.pointer (some ⟨s,0,none⟩)),t1⟩,⟨(h2:u 2=.pointer (some ⟨s,0,none⟩)),t2⟩,⟨(h3:u 3=.pointer (some ⟨s,0,none⟩)),t3⟩,⟨(h4:u 4=.pointer (some ⟨s,0,none⟩)),t4⟩,⟨(h5:u 5=.pointer (some ⟨s,5,none⟩)),t5⟩,⟨(h6:u 6=.int .i64 (Z 20 5)),t6⟩,⟨(h7:u 7=.pointer (some ⟨s,0,none⟩)),t7⟩,⟨(h8:u 8=.pointer (some ⟨s,0,none⟩)),t8⟩,⟨(h9:u 9=.pointer (some ⟨s,22,none⟩)),t9⟩,⟨(h10:u 10=.int .i64 (I 5)),t10⟩,_,_⟩:=hk;simp only [h15,h11];clear h15 h11 h0 h1 h2 h3 h4 h5 h6 h7 h8 h9 h10;have d16:=hi;have hn:cntD [16] dn=0:=by simp only [cntD,d16];rfl
   have hs1:=zan hn hs;have hn2:cntD [16] (updD dn 16)=1:=by show (if updD dn 16 16=true then 1 else 0)+0=1;rw [zaI];rfl
   have HN2:=hide hn2;clear hn hn2;have q:=(fun h:QA w s b v c d bs nm I B t Z x=>h.1.reg 5 (by decide)) hs1;have z:=(fun h:QA w s b v c d bs nm I B t Z x=>h.1.frz 5) hs1;have H2:=hide ((fun h:QA w s b v c d bs nm I B t Z x=>show QA w s b v c d bs nm I B t (setR Z 5 V) _ from ⟨h.1.putR 5 (by decide) V (zxc (h.1.good 20) _ VI.out.1 (by have:=VI.out.2;omega)),zcP h.2 5 _⟩) hs1);clear hs hs1;go_wp2_with fail;exact zad _ rfl rfl (zbu HN2.out H2.out)
 rintro u dn x hall hs hv;clear hv;have hn:cntD [16] dn=1:=by show (if dn 16=true then 1 else 0)+0=1;rw [hall 16 (by decide)];rfl
 have hs:=zan hn hs;clear hn hall;obtain ⟨h2,o2⟩:QA w s b v c d bs nm I B t (setR Z 5 V) x:=hs;have H2:=hide h2;have O2:=hide o2;clear h2 o2;go_wp2;go_end0;exact ⟨rfl,H2.out,O2.out⟩
theorem zvS {s b v c d:Nat} {I B:Nat→Int}   (h:HasQ w s b v c d bs nm I B t Z) (nn:ByteArray) (j0:(nn.toList==[66,82,65])=true):Calls Tryz.prog 156 #[.pointer (some ⟨s,0,none⟩),.string nn] w fun e w'=>e=Ending.returned (.tuple #[])∧HasQ w' s b v c d bs nm I B t (gfS I Z)∧OnlyE (EQ s b v) w w':=by
 have HE:=hide h;clear h;go_enter Tryz.func156,Tryz.ntmps156;go_wp2_with fail;refine (zvR HE.out).mono ?_;rintro e w1 ⟨rfl,h1,o1⟩;have H1:=hide h1;have O1:=hide o1;clear h1 o1 HE;go_wp2;refine bodyPost_end (P:=Tryz.prog) (fn:=Tryz.f156) (results_none rfl _ _ _) (by rfl) ?_;exact ⟨rfl,H1.out,O1.out⟩
end Go.Proofs.YtdiidjehdginnaaGreatDoor.L25
namespace Go.Proofs.YtdiidjehdginnaaGreatDoor.K9
set_option maxHeartbeats 4000000
set_option maxRecDepth 20000
open Go.RowKit
set_option linter.unusedVariables false
theorem toList_eq {s y:ByteArray} (h:s.toList=y.toList):s=y:=by
 obtain ⟨⟨a⟩⟩:=s;obtain ⟨⟨b⟩⟩:=y;have k:(ByteArray.mk a.toArray).toList=(ByteArray.mk b.toArray).toList:=h;rw [ByteArray.toList_mk,ByteArray.toList_mk] at k;rw [k]
end Go.Proofs.YtdiidjehdginnaaGreatDoor.K9
namespace Go.Proofs.YtdiidjehdginnaaGreatDoor.L25
set_option maxHeartbeats 4000000
set_option maxRecDepth 20000
open A2 B4 C3 G6 I11 J23 K9 L24 M5 N8 O7 P22 R15 T10 V12 W13
open Go.RowKit
set_option linter.unusedVariables false
variable {t:Bool} {nm:ByteArray} {bs:List Int} {b c d s v:Nat} {B I:Nat→Int} {Z:Nat→Nat→Int} {w w':World}
theorem HasQ.file (h:HasQ w s b v c d bs nm I B t Z) (g:Nat→Int):HasQ (w.setCells b 8475 (rowF (iv g) 8).toList) s b v c d bs nm I B t (upZ Z 9 g):=by
 obtain ⟨q1,q2,q3,q4,⟨n1,n2,n3,n4,n5,n6,n7⟩,q6,q7⟩:=h;have kb:But b w (w.setCells b 8475 (rowF (iv g) 8).toList):=But.cells _ _ _ (But.refl b w);have ke:OnlyE (EX b v) w (w.setCells b 8475 (rowF (iv g) 8).toList):=zbr kb;refine ⟨?_,?_,q3.only ke (fun i e=>by rcases e with rfl|rfl<;>assumption),zaJ q4 9 _ trivial,⟨n1,n2,n3,n4,n5,n6,n7⟩,q6,q7⟩
 ·exact ke.obj q1 (fun e=>by rcases e with e|e;exact n1 e;exact n2 e)
 ·have r:HasF 60 (w.setCells b 8475 (rowF (iv g) 8).toList) b 9263 (segs ((XP v c Z).set 9 (8,iv g))):=q2.1.lay 9 rfl (iv g) (q2.isB.off 9 (a:=8475) rfl);exact HasX.lay q2 kb 9 rfl r (by decide) (by decide)
theorem zza (k:OnlyE (EQ s b v) w w') (g:Nat→Int):OnlyE (EQ s b v) w (w'.setCells b 8475 (rowF (iv g) 8).toList):=k.trans (zyJ (zbr (But.cells _ _ _ (But.refl b w'))))
def taS (I:Nat→Int) (Z:Nat→Nat→Int):Nat→Nat→Int:=upZ (upZ Z 9 (zce (Z 9) (I 3) (Z 20 0))) 22 (oneV (Z 20 0))
theorem zmC (h:HasQ w s b v c d bs nm I B t Z) (nn:ByteArray) (hn:(nn.toList==[84,77,65])=false) (ho:¬I 3=0):Calls Tryz.prog 159 #[.pointer (some ⟨s,0,none⟩),.string nn] w fun e w'=>e=Ending.returned (.tuple #[])∧HasQ w' s b v c d bs nm I B t (taS I Z)∧OnlyE (EQ s b v) w w':=by
 have HE:=hide h;have c20:=h.oper;have ho2:(I 3 != 0)=true:=by simp [ho]
 unfold taS;have KT:Hid (∀w,Calls Tryz.prog 34 #[.agg (rowF (iv (Z 9)) 8),.int .i64 (I 3),.int .i64 (Z 20 0)] w fun e w'=>e=Ending.returned (.agg (rowF (iv (zce (Z 9) (I 3) (Z 20 0))) 8))∧Below w.heap.size w w'):=hide (fun w=>tam_any (Z 9) (I 3) (Z 20 0) w);generalize zce (Z 9) (I 3) (Z 20 0)=F at *;have SEG:=hide (znH v c Z);clear h;go_enter Tryz.func159,Tryz.ntmps159;go_wp2_with fail;refine zaD (zcx [.pointer (some ⟨s,0,none⟩),.pointer (some ⟨s,0,none⟩),.pointer (some ⟨s,8,none⟩),.pointer (some ⟨b,0,none⟩),.pointer (some ⟨s,0,none⟩),.pointer (some ⟨s,0,none⟩),.pointer (some ⟨s,8,none⟩),.pointer (some ⟨b,0,none⟩),.pointer (some ⟨b,0,none⟩),.pointer (some ⟨b,8475,none⟩),.agg (rowF (iv (Z 9)) 8),.pointer (some ⟨s,0,none⟩),.pointer (some ⟨s,0,none⟩),.pointer (some ⟨s,20,none⟩),.int .i64 (I 3),.pointer (some ⟨s,0,none⟩),.pointer (some ⟨s,0,none⟩),.pointer (some ⟨s,0,none⟩),.pointer (some ⟨s,0,none⟩),.pointer (some ⟨s,0,none⟩),.int .i64 (Z 20 0),.agg (rowF (iv F) 8),.pointer (some ⟨b,0,none⟩),.pointer (some ⟨b,8475,none⟩),undef]) (fun dd ww=>(stgs [QA w s b v c d bs nm I B t Z,QA w s b v c d bs nm I B t (upZ Z 9 F)]) (cntD [24] dd) ww) _ (fun u=>by simp only [zaA,Act.put,List.setIfInBounds_toArray,List.set_cons_succ,List.set_cons_zero,Nat.reduceAdd];rfl) (by kernel_rfl) (by kernel_rfl) (by kernel_rfl) (fun dn hd=>zbe hd (QA.mk HE.out)) ?_ ?_
 ·repeat' first|refine zaW (fun u dn x hi hc hk hs=>?_) ?_|exact zbb
  ·go_wp2_with fail;exact zad _ rfl rfl (zac rfl hs)
  ·obtain ⟨⟨(h0:u 0=.pointer (some ⟨s,0,none⟩)),t0⟩,_⟩:=hk;simp only [h0];clear h0;go_wp2_with fail;exact zad _ rfl rfl (zac rfl hs)
  ·obtain ⟨⟨(h1:u 1=.pointer (some ⟨s,0,none⟩)),t1⟩,_⟩:=hk;simp only [h1];clear h1;go_wp2_with fail;exact zad _ rfl rfl (zac rfl hs)
  ·obtain ⟨⟨(h2:u 2=.pointer (some ⟨s,8,none⟩)),t2⟩,_⟩:=hk;simp only [h2];clear h2;have d24:=zap hc hi 24 60 (by kernel_rfl);have hn:cntD [24] dn=0:=by simp only [cntD,d24];rfl
   have hs1:=zan hn hs;have q:=(show QA w s b v c d bs nm I B t Z x from hs1).1.buss;go_wp2_with fail;exact zad _ rfl rfl (zac rfl hs)
  ·go_wp2_with fail;exact zad _ rfl rfl (zac rfl hs)
  ·obtain ⟨⟨(h4:u 4=.pointer (some ⟨s,0,none⟩)),t4⟩,_⟩:=hk;simp only [h4];clear h4;go_wp2_with fail;exact zad _ rfl rfl (zac rfl hs)
  ·obtain ⟨⟨(h5:u 5=.pointer (some ⟨s,0,none⟩)),t5⟩,_⟩:=hk;simp only [h5];clear h5;go_wp2_with fail;exact zad _ rfl rfl (zac rfl hs)
  ·obtain ⟨⟨(h6:u 6=.pointer (some ⟨s,8,none⟩)),t6⟩,_⟩:=hk;simp only [h6];clear h6;have d24:=zap hc hi 24 60 (by kernel_rfl);have hn:cntD [24] dn=0:=by simp only [cntD,d24];rfl
   have hs1:=zan hn hs;have q:=(show QA w s b v c d bs nm I B t Z x from hs1).1.buss;go_wp2_with fail;exact zad _ rfl rfl (zac rfl hs)
  ·obtain ⟨⟨(h7:u 7=.pointer (some ⟨b,0,none⟩)),t7⟩,_⟩:=hk;simp only [h7];clear h7;go_wp2_with fail;exact zad _ rfl rfl (zac rfl hs)
  ·obtain ⟨⟨(h8:u 8=.pointer (some ⟨b,0,none⟩)),t8⟩,_⟩:=hk;simp only [h8];clear h8;go_wp2_with fail;exact zad _ rfl rfl (zac rfl hs)
  ·obtain ⟨⟨(h9:u 9=.pointer (some ⟨b,8475,none⟩)),t9⟩,_⟩:=hk;simp only [h9];clear h9;have d24:=zap hc hi 24 60 (by kernel_rfl);have hn:cntD [24] dn=0:=by simp only [cntD,d24];rfl
   have hs1:=zan hn hs;refine zaw rfl 40 (.tmp 54) rfl b 8475 rfl (show QA w s b v c d bs nm I B t Z x from hs1).1.2.1.1 8 (by decide) (iv (Z 9)) SEG.out _ Tryz.underlying40 rfl (by kernel_rfl) ?_;exact zad _ rfl rfl (zac rfl hs)
  ·go_wp2_with fail;exact zad _ rfl rfl (zac rfl hs)
  ·obtain ⟨⟨(h11:u 11=.pointer (some ⟨s,0,none⟩)),t11⟩,_⟩:=hk;simp only [h11];clear h11;go_wp2_with fail;exact zad _ rfl rfl (zac rfl hs)
  ·obtain ⟨⟨(h12:u 12=.pointer (some ⟨s,0,none⟩)),t12⟩,_⟩:=hk;simp only [h12];clear h12;go_wp2_with fail;exact zad _ rfl rfl (zac rfl hs)
  ·obtain ⟨⟨(h13:u 13=.pointer (some ⟨s,20,none⟩)),t13⟩,_⟩:=hk;simp only [h13];clear h13;have d24:=zap hc hi 24 60 (by kernel_rfl);have hn:cntD [24] dn=0:=by simp only [cntD,d24];rfl
   have hs1:=zan hn hs;have q:=(show QA w s b v c d bs nm I B t Z x from hs1).1.oper;go_wp2_with fail;exact zad _ rfl rfl (zac rfl hs)
  ·go_wp2_with fail;exact zad _ rfl rfl (zac rfl hs)
  ·obtain ⟨⟨(h15:u 15=.pointer (some ⟨s,0,none⟩)),t15⟩,_⟩:=hk;simp only [h15];clear h15;go_wp2_with fail;exact zad _ rfl rfl (zac rfl hs)
  ·obtain ⟨⟨(h16:u 16=.pointer (some ⟨s,0,none⟩)),t16⟩,_⟩:=hk;simp only [h16];clear h16;go_wp2_with fail;exact zad _ rfl rfl (zac rfl hs)
  ·obtain ⟨⟨(h17:u 17=.pointer (some ⟨s,0,none⟩)),t17⟩,_⟩:=hk;simp only [h17];clear h17;go_wp2_with fail;exact zad _ rfl rfl (zac rfl hs)
  ·obtain ⟨⟨(h18:u 18=.pointer (some ⟨s,0,none⟩)),t18⟩,_⟩:=hk;simp only [h18];clear h18;go_wp2_with fail;exact zad _ rfl rfl (zac rfl hs)
  ·obtain ⟨⟨(h19:u 19=.pointer (some ⟨s,0,none⟩)),t19⟩,_⟩:=hk;simp only [h19];clear h19;have d24:=zap hc hi 24 60 (by kernel_rfl);have hn:cntD [24] dn=0:=by simp only [cntD,d24];rfl
   have hs1:=zan hn hs;have q:=(show QA w s b v c d bs nm I B t Z x from hs1).1.reg 0 (by decide);go_wp2_with fail;exact zad _ rfl rfl (zac rfl hs)
  ·obtain ⟨⟨(h10:u 10=.agg (rowF (iv (Z 9)) 8)),t10⟩,⟨(h14:u 14=.int .i64 (I 3)),t14⟩,⟨(h20:u 20=.int .i64 (Z 20 0)),t20⟩,_⟩:=hk;simp only [h10,h14,h20];clear h10 h14 h20;have d24:=zap hc hi 24 60 (by kernel_rfl);have hn:cntD [24] dn=0:=by simp only [cntD,d24];rfl
   have hs1:=zan hn hs;have HS:=hide hs;have HS1:=hide hs1;clear hs hs1;go_wp2_with fail;refine (KT.out _).mono ?_;rintro e x2 ⟨rfl,b2⟩;have H2:=hide (zdj (zyI QA.stab QA.stab) HS.out b2);clear b2 HS HS1;go_wp2_with fail;exact zad _ rfl rfl (zac rfl H2.out)
  ·obtain ⟨⟨(h3:u 3=.pointer (some ⟨b,0,none⟩)),t3⟩,⟨(h0:u 0=.pointer (some ⟨s,0,none⟩)),t0⟩,⟨(h1:u 1=.pointer (some ⟨s,0,none⟩)),t1⟩,⟨(h2:u 2=.pointer (some ⟨s,8,none⟩)),t2⟩,_,⟨(h4:u 4=.pointer (some ⟨s,0,none⟩)),t4⟩,⟨(h5:u 5=.pointer (some ⟨s,0,none⟩)),t5⟩,⟨(h6:u 6=.pointer (some ⟨s,8,none⟩)),t6⟩,⟨(h7:u 7=.pointer (some ⟨b,0,none⟩)),t7⟩,⟨(h8:u 8=.pointer (some ⟨b,0,none⟩)),t8⟩,⟨(h9:u 9=.pointer (some ⟨b,8475,none⟩)),t9⟩,⟨(h10:u 10=.agg (rowF (iv (Z 9)) 8)),t10⟩,⟨(h11:u 11=.pointer (some ⟨s,0,none⟩)),t11⟩,⟨(h12:u 12=.pointer (some ⟨s,0,none⟩)),t12⟩,⟨(h13:u 13=.pointer (some ⟨s,20,none⟩)),t13⟩,⟨(h14:u 14=.int .i64 (I 3)),t14⟩,⟨(h15:u 15=.pointer (some ⟨s,0,none⟩)),t15⟩,⟨(h16:u 16=.pointer (some ⟨s,0,none⟩)),t16⟩,⟨(h17:u 17=.pointer (some ⟨s,0,none⟩)),t17⟩,⟨(h18:u 18=.pointer (some ⟨s,0,none⟩)),t18⟩,⟨(h19:u 19=.pointer (some ⟨s,0,none⟩)),t19⟩,⟨(h20:u 20=.int .i64 (Z 20 0)),t20⟩,⟨(h21:u 21=.agg (rowF (iv F) 8)),t21⟩,_⟩:=hk;simp only [h3];clear h3 h0 h1 h2 h4 h5 h6 h7 h8 h9 h10 h11 h12 h13 h14 h15 h16 h17 h18 h19 h20 h21;go_wp2_with fail;exact zad _ rfl rfl (zac rfl hs)
  ·obtain ⟨⟨(h22:u 22=.pointer (some ⟨b,0,none⟩)),t22⟩,⟨(h0:u 0=.pointer (some ⟨s,0,none⟩)),t0⟩,⟨(h1:u 1=.pointer (some ⟨s,0,none⟩)),t1⟩,⟨(h2:u 2=.pointer (some ⟨s,8,none⟩)),t2⟩,⟨(h3:u 3=.pointer (some ⟨b,0,none⟩)),t3⟩,⟨(h4:u 4=.pointer (some ⟨s,0,none⟩)),t4⟩,⟨(h5:u 5=.pointer (some ⟨s,0,none⟩)),t5⟩,⟨(h6:u 6=.pointer (some ⟨s,8,none⟩)),t6⟩,⟨(h7:u 7=.pointer (some ⟨b,0,none⟩)),t7⟩,⟨(h8:u 8=.pointer (some ⟨b,0,none⟩)),t8⟩,⟨(h9:u 9=.pointer (some ⟨b,8475,none⟩)),t9⟩,⟨(h10:u 10=.agg (rowF (iv (Z 9)) 8)),t10⟩,⟨(h11:u 11=.pointer (some ⟨s,0,none⟩)),t11⟩,⟨(h12:u 12=.pointer (some ⟨s,0,none⟩)),t12⟩,⟨(h13:u 13=.pointer (some ⟨s,20,none⟩)),t13⟩,⟨(h14:u 14=.int .i64 (I 3)),t14⟩,⟨(h15:u 15=.pointer (some ⟨s,0,none⟩)),t15⟩,⟨(h16:u 16=.pointer (some ⟨s,0,none⟩)),t16⟩,⟨(h17:u 17=.pointer (some ⟨s,0,none⟩)),t17⟩,⟨(h18:u 18=.pointer (some ⟨s,0,none⟩)),t18⟩,⟨(h19:u 19=.pointer (some ⟨s,0,none⟩)),t19⟩,⟨(h20:u 20=.int .i64 (Z 20 0)),t20⟩,⟨(h21:u 21=.agg (rowF (iv F) 8)),t21⟩,_⟩:=hk;simp only [h22];clear h22 h0 h1 h2 h3 h4 h5 h6 h7 h8 h9 h10 h11 h12 h13 h14 h15 h16 h17 h18 h19 h20 h21;go_wp2_with fail;exact zad _ rfl rfl (zac rfl hs)
  ·obtain ⟨⟨(h23:u 23=.pointer (some ⟨b,8475,none⟩)),t23⟩,⟨(h21:u 21=.agg (rowF (iv F) 8)),t21⟩,_,⟨(h0:u 0=.pointer (some ⟨s,0,none⟩)),t0⟩,⟨(h1:u 1=.pointer (some ⟨s,0,none⟩)),t1⟩,⟨(h2:u 2=.pointer (some ⟨s,8,none⟩)),t2⟩,⟨(h3:u 3=.pointer (some ⟨b,0,none⟩)),t3⟩,⟨(h4:u 4=.pointer (some ⟨s,0,none⟩)),t4⟩,⟨(h5:u 5=.pointer (some ⟨s,0,none⟩)),t5⟩,⟨(h6:u 6=.pointer (some ⟨s,8,none⟩)),t6⟩,⟨(h7:u 7=.pointer (some ⟨b,0,none⟩)),t7⟩,⟨(h8:u 8=.pointer (some ⟨b,0,none⟩)),t8⟩,⟨(h9:u 9=.pointer (some ⟨b,8475,none⟩)),t9⟩,⟨(h10:u 10=.agg (rowF (iv (Z 9)) 8)),t10⟩,⟨(h11:u 11=.pointer (some ⟨s,0,none⟩)),t11⟩,⟨(h12:u 12=.pointer (some ⟨s,0,none⟩)),t12⟩,⟨(h13:u 13=.pointer (some ⟨s,20,none⟩)),t13⟩,⟨(h14:u 14=.int .i64 (I 3)),t14⟩,⟨(h15:u 15=.pointer (some ⟨s,0,none⟩)),t15⟩,⟨(h16:u 16=.pointer (some ⟨s,0,none⟩)),t16⟩,⟨(h17:u 17=.pointer (some ⟨s,0,none⟩)),t17⟩,⟨(h18:u 18=.pointer (some ⟨s,0,none⟩)),t18⟩,⟨(h19:u 19=.pointer (some ⟨s,0,none⟩)),t19⟩,⟨(h20:u 20=.int .i64 (Z 20 0)),t20⟩,_,_⟩:=hk;simp only [h23,h21];clear h23 h21 h0 h1 h2 h3 h4 h5 h6 h7 h8 h9 h10 h11 h12 h13 h14 h15 h16 h17 h18 h19 h20;have d24:=hi;have hn:cntD [24] dn=0:=by simp only [cntD,d24];rfl
   have hs1:=zan hn hs;have hn2:cntD [24] (updD dn 24)=1:=by show (if updD dn 24 24=true then 1 else 0)+0=1;rw [zaI];rfl
   have HN2:=hide hn2;clear hn hn2;have H2:=hide ((fun h:QA w s b v c d bs nm I B t Z x=>show QA w s b v c d bs nm I B t (upZ Z 9 F) _ from ⟨h.1.file F,zza h.2 F⟩) hs1);refine zau rfl 40 (.tmp 68) (.tmp 66) rfl b 8475 8 (iv F) rfl rfl (show QA w s b v c d bs nm I B t Z x from hs1).1.2.1.1 (by decide) (by kernel_rfl) (fun _ _=>rfl) ?_;exact zad _ rfl rfl (zbu HN2.out H2.out)
 rintro u dn x hall hs hv;clear hv;have hn:cntD [24] dn=1:=by show (if dn 24=true then 1 else 0)+0=1;rw [hall 24 (by decide)];rfl
 have hs:=zan hn hs;clear hn hall;obtain ⟨h2,o2⟩:QA w s b v c d bs nm I B t (upZ Z 9 F) x:=hs;have c0:x.cell? ⟨s,0,none⟩=some (.int .i64 (Z 20 0)):=h2.reg 0 (by decide);have c7:=h2.last;have z7:=h2.frz 7;have H2:=hide (h2.putL (Z 20 0));have O2:=hide (zcP o2 7 (.int .i64 (Z 20 0)));clear h2 o2;go_wp2;refine bodyPost_end (P:=Tryz.prog) (fn:=Tryz.f159) (results_none rfl _ _ _) (by rfl) ?_;exact ⟨rfl,H2.out,O2.out⟩
theorem zsP (h:HasQ w s b v c d bs nm I B t Z) (m0:0≤I 0) (m1:I 0<15) (i3:I 3=0) (i4:I 4=0) (i5:I 5=0):Calls Tryz.prog 140 #[.pointer (some ⟨s,0,none⟩)] w fun e w'=>e=Ending.returned (.tuple #[])∧HasQ w' s b v c d bs nm (iF (I 0) (I 1) (I 2) (opF (I 0) B) (mkF (I 0) B) (frF (I 0) B) (I 6)) B t Z∧OnlyE (EQ s b v) w w':=by
 have fin:∀{I':Nat→Int},(∀j,j<7→I' j=iF (I 0) (I 1) (I 2) (opF (I 0) B) (mkF (I 0) B) (frF (I 0) B) (I 6) j)→(Calls Tryz.prog 140 #[.pointer (some ⟨s,0,none⟩)] w fun e w'=>e=Ending.returned (.tuple #[])∧HasQ w' s b v c d bs nm I' B t Z∧OnlyE (EQ s b v) w w')→Calls Tryz.prog 140 #[.pointer (some ⟨s,0,none⟩)] w fun e w'=>e=Ending.returned (.tuple #[])∧HasQ w' s b v c d bs nm (iF (I 0) (I 1) (I 2) (opF (I 0) B) (mkF (I 0) B) (frF (I 0) B) (I 6)) B t Z∧OnlyE (EQ s b v) w w':=
  fun hI k=>k.mono fun e w' ⟨e1,q1,o1⟩=>⟨e1,q1.ext hI (fun _ _=>rfl),o1⟩
 have h15:¬I 0=15:=by omega
 by_cases h14:I 0=14
 ·refine fin (fun j hj=>?_) (zyQ h h14);unfold opF mkF frF;rw [if_neg (by omega),if_neg h15,if_pos h14,if_neg (by omega),if_neg h15,if_pos h14];unfold up iF;rcases j with _|_|_|_|_|_|_|j
  ·rfl
  ·rfl
  ·rfl
  ·exact i3
  ·exact i4
  ·rfl
  ·rfl
  ·omega
 ·refine fin (fun j hj=>?_) (zyR h (I 0) rfl h14 h15 (by omega) (by omega) (by omega) (by omega));unfold opF mkF frF;rw [if_neg (by omega),if_neg h15,if_neg h14,if_neg (by omega),if_neg h15,if_neg h14];unfold up iF;rcases j with _|_|_|_|_|_|_|j
  ·rfl
  ·rfl
  ·rfl
  ·rfl
  ·exact i4
  ·exact i5
  ·rfl
  ·omega
def fdQ (bs:List Int) (m x o:Int) (Z:Nat→Nat→Int):Int:=if zdR m=true then pV bs Z (zkj m x o) (zvM m (zkj m x o)) else 0
def fdS (m x o:Int) (Z:Nat→Nat→Int):Nat→Nat→Int:=if zdR m=true then pS Z (zkj m x o) (zvM m (zkj m x o)) else Z
theorem zsQ (h:HasQ w s b v c d bs nm I B t Z) (hp:zdR (I 0)=false):Calls Tryz.prog 141 #[.pointer (some ⟨s,0,none⟩)] w fun e w'=>e=Ending.returned (.tuple #[])∧HasQ w' s b v c d bs nm (up I 6 (zkk (I 0) (Z 20 1) (Z 20 2) (I 3) (fdQ bs (I 0) (Z 20 1) (I 3) Z))) B t (fdS (I 0) (Z 20 1) (I 3) Z)∧OnlyE (EQ s b v) w w':=by
 unfold fdQ fdS;rw [if_neg (by rw [hp];decide),if_neg (by rw [hp];decide)];exact zyS h hp
theorem zvT (nm:ByteArray) (m l c:Int) (j:Nat):(infV nm m l c j).oneCell'=true:=by
 unfold infV
 by_cases h0:j=0
 ·rw [if_pos h0];rfl
 rw [if_neg h0]
 by_cases h1:j=1
 ·rw [if_pos h1];rfl
 rw [if_neg h1]
 by_cases h2:j=2
 ·rw [if_pos h2];rfl
 rw [if_neg h2];rfl
theorem HasQ.own (h:HasQ w s b v c d bs nm I B t Z) {nm':ByteArray} {I' B':Nat→Int} {t':Bool} (k:But s w w') (p:HasF 110 w' s 25 (segs (SP b nm' I' B' t' Z))):HasQ w' s b v c d bs nm' I' B' t' Z:=by
 obtain ⟨q1,q2,q3,q4,⟨n1,n2,n3,n4,n5,n6,n7⟩,q6,q7⟩:=h;have ke:OnlyE (fun i=>i=s) w w':=⟨k.1,k.2.1,k.2.2.1,k.size,fun i hi hE=>k.block i hi hE⟩
 refine ⟨p,?_,q3.only ke (fun i e=>e▸n5),q4,⟨n1,n2,n3,n4,n5,n6,n7⟩,q6,q7⟩;refine HasP.only q2 ke (fun e=>n1 e.symm) (fun e=>n2 e.symm) (fun e=>n3 e.symm) (fun e=>n4 e.symm) (fun i e=>?_);subst e;exact ⟨Nat.lt_of_lt_of_le (by decide) n5,Nat.lt_of_lt_of_le (by decide) n5,Nat.lt_of_lt_of_le (by decide) n5⟩
theorem HasQ.info (h:HasQ w s b v c d bs nm I B t Z) (nm':ByteArray) (m l y:Int):HasQ (w.setCells s 10 (rowF (infV nm' m l y) 4).toList) s b v c d bs nm' (fun j=>if j=0 then m else if j=1 then l else if j=2 then y else I j) B t Z:=
 h.own (But.cells _ _ _ (But.refl s w)) (h.1.lay 5 rfl (infV nm' m l y) (a:=10) rfl)
theorem zzb (k:OnlyE (EQ s b v) w w') (l:List Value):OnlyE (EQ s b v) w (w'.setCells s 10 l):=by
 have q:But s w' (w'.setCells s 10 l):=But.cells _ _ _ (But.refl s w');exact k.trans ⟨q.1,q.2.1,q.2.2.1,q.size,fun i hi hE=>q.block i hi fun e=>hE (.inl e)⟩
theorem nV_in (h:HasQ w s b v c d bs nm I B t Z):0≤nV bs Z∧nV bs Z<256:=zyL h _
theorem zBT (Z:Nat→Nat→Int) (k j:Nat) (hj:¬j=5):nxN Z k 20 j=Z 20 j:=by
 induction k with
 |zero=>rfl
 |succ k ih=>
  show setR (rS (nxN Z k) (nxN Z k 20 5)) 5 _ 20 j=_;rw [zkh,zbC _ _ _ _ hj,zki _ _ _ (by decide)];exact ih
theorem nx_20 (Z:Nat→Nat→Int) (j:Nat) (hj:¬j=5):nx Z 20 j=Z 20 j:=by
 unfold nx;rw [zkh,zbC _ _ _ _ hj,zki _ _ _ (by decide)]
theorem f1_20 (bs:List Int) (Z:Nat→Nat→Int) (j:Nat) (hj:¬j=5):f1 bs Z 20 j=Z 20 j:=by
 unfold f1;rw [zsl _ _ _ (by decide),nx_20 _ _ hj]
theorem f2_20 (bs:List Int) (Z:Nat→Nat→Int) (j:Nat) (hj:¬j=5):f2 bs Z 20 j=Z 20 j:=by
 unfold f2;rw [zBT _ _ _ hj,f1_20 _ _ _ hj]
theorem f3_20 (bs:List Int) (Z:Nat→Nat→Int) (j:Nat) (hj:¬j=5) (h4:¬j=4):f3 bs Z 20 j=Z 20 j:=by
 unfold f3;rw [zkh,zbC _ _ _ _ h4,f2_20 _ _ _ hj]
theorem zpO {Z : Nat → Nat → Int} (h : HasQ w s b v c d bs nm (fun _ => 0) (fun _ => 0) t Z) (he : fM bs Z < 15 ∧ zdR (fM bs Z) = false) : Calls Tryz.prog 95 #[.pointer (some ⟨s, 0, none⟩)] w fun e w' => e = Ending.returned (.tuple #[]) ∧ HasQ w' s b v c d bs (zcq (fN bs Z)) (fI bs Z) (fB bs Z) (fT Z) (f4 bs Z) ∧ OnlyE (EQ s b v) w w' := by
  have HE := hide h
  have NI := nV_in h
  have hb : fN bs Z < 256 := by unfold fN; omega
  have MI := hide (zsy _ hb)
  have LI := hide (zBF _ hb)
  have r4 := zxb h.good 4 (by decide)
  have TI := hide (zBH r4 (f := 32) (by decide))
  have KO : Hid (∀ w, Calls Tryz.prog 136 #[.int .i64 (nV bs Z)] w fun e w' => e = Ending.returned (.agg (rowF (infV (zcq (fN bs Z)) (zbm (fN bs Z)) (lenOf (fN bs Z)) (zef (fN bs Z))) 4)) ∧ Below w.heap.size w w') := hide (fun w => by
    have k := of_any (nV bs Z) w
    rw [show (nV bs Z % 256).toNat = fN bs Z by unfold fN; omega] at k
    exact k)
  have EM : Hid (fM bs Z = zbm (fN bs Z)) := hide rfl
  have EZ : Hid (fM bs Z < 15 ∧ zdR (fM bs Z) = false) := hide he
  obtain ⟨na, hna⟩ : ∃ na, zcq (fN bs Z) = na := ⟨_, rfl⟩
  obtain ⟨mo, hmo⟩ : ∃ mo, zbm (fN bs Z) = mo := ⟨_, rfl⟩
  obtain ⟨le, hle⟩ : ∃ le, lenOf (fN bs Z) = le := ⟨_, rfl⟩
  obtain ⟨cy, hcy⟩ : ∃ cy, zef (fN bs Z) = cy := ⟨_, rfl⟩
  have F1 : Hid (f1 bs Z = cyc (nx Z) cy) := hide (by unfold f1; rw [hcy])
  have FB : Hid (fB bs Z = behN bs (f1 bs Z) (le - 1).toNat) := hide (by unfold fB; rw [hle])
  have F2 : Hid (f2 bs Z = nxN (f1 bs Z) (le - 1).toNat) := hide (by unfold f2; rw [hle])
  have FI : Hid (fI bs Z = iF mo le cy (fO bs Z) (fK bs Z) (fR bs Z) (fP bs Z)) := hide (by unfold fI fM; rw [hmo, hle, hcy])
  rw [hna, hmo, hle, hcy] at KO
  change Hid (zbm (fN bs Z) < 15 ∧ zdR (zbm (fN bs Z)) = false) at EZ
  rw [hmo] at MI EM EZ
  rw [hle] at LI
  rw [hna]
  clear h he hb hna hmo hle hcy r4 NI
  go_enter Tryz.func95, Tryz.ntmps95
  go_wp2_with fail
  refine (zsF HE.out).mono ?_
  rintro e w0 ⟨rfl, h0, o0⟩
  have H0 := hide h0
  have O0 := hide o0
  clear h0 o0 HE
  go_wp2_with (first
    | (go_at_call 136; refine (KO.out _).mono ?_; rintro e wo ⟨rfl, bo⟩; have HO := hide (H0.out.next bo); have OO := hide (O0.out.trans (zet bo)); clear bo H0 O0)
    | (refine zau rfl 107 (.tmp 8) (.tmp 6) rfl s 10 4 (infV na mo le cy) rfl rfl HO.out.1 (by decide) (by kernel_rfl) (fun j _ => zvT _ _ _ _ j) ?_
       refine zaj fun w1 hw1 => ?_
       have H1 : Hid (HasQ w1 s b v c d bs na (fun j => if j = 0 then mo else if j = 1 then le else if j = 2 then cy else 0) (fun _ => 0) t (nx Z)) := hide (by rw [hw1]; exact HO.out.info na mo le cy)
       have O1 : Hid (OnlyE (EQ s b v) w w1) := hide (by rw [hw1]; exact zzb OO.out _)
       clear hw1 HO OO))
  refine zaD (zcx [.pointer (some ⟨s, 0, none⟩), .pointer (some ⟨s, 0, none⟩), .pointer (some ⟨s, 9, none⟩), .int .i64 (nx Z 23 0), .pointer (some ⟨s, 0, none⟩), .pointer (some ⟨s, 0, none⟩), .pointer (some ⟨s, 10, none⟩), .pointer (some ⟨s, 13, none⟩), .int .i64 cy, .int .i64 (wrap64 (nx Z 23 0 + cy)), .pointer (some ⟨s, 0, none⟩), .pointer (some ⟨s, 9, none⟩), undef]) (fun dd ww => (stgs [QA w1 s b v c d bs na (fun j => if j = 0 then mo else if j = 1 then le else if j = 2 then cy else 0) (fun _ => 0) t (nx Z), QA w1 s b v c d bs na (fun j => if j = 0 then mo else if j = 1 then le else if j = 2 then cy else 0) (fun _ => 0) t (cyc (nx Z) cy)]) (cntD [12] dd) ww) _ (fun u => by simp only [zaA, Act.put, List.setIfInBounds_toArray, List.set_cons_succ, List.set_cons_zero, Nat.reduceAdd]; rfl) (by kernel_rfl) (by kernel_rfl) (by kernel_rfl) (fun dn hd => zbe hd (QA.mk H1.out)) ?_ ?_
  · repeat' first | refine zaW (fun u dn x hi hc hk hs => ?_) ?_ | exact zbb
    · go_wp2_with fail
      exact zad _ rfl rfl (zac rfl hs)
    · obtain ⟨⟨(h0 : u 0 = .pointer (some ⟨s, 0, none⟩)), t0⟩, _⟩ := hk
      simp only [h0]
      clear h0
      go_wp2_with fail
      exact zad _ rfl rfl (zac rfl hs)
    · obtain ⟨⟨(h1 : u 1 = .pointer (some ⟨s, 0, none⟩)), t1⟩, _⟩ := hk
      simp only [h1]
      clear h1
      go_wp2_with fail
      exact zad _ rfl rfl (zac rfl hs)
    · obtain ⟨⟨(h2 : u 2 = .pointer (some ⟨s, 9, none⟩)), t2⟩, _⟩ := hk
      simp only [h2]
      clear h2
      have d12 := zap hc hi 12 60 (by kernel_rfl)
      have hn : cntD [12] dn = 0 := by simp only [cntD, d12]; rfl
      have hs1 := zan hn hs
      have q := (show QA w1 s b v c d bs na (fun j => if j = 0 then mo else if j = 1 then le else if j = 2 then cy else 0) (fun _ => 0) t (nx Z) x from hs1).1.cycs
      go_wp2_with fail
      exact zad _ rfl rfl (zac rfl hs)
    · go_wp2_with fail
      exact zad _ rfl rfl (zac rfl hs)
    · obtain ⟨⟨(h4 : u 4 = .pointer (some ⟨s, 0, none⟩)), t4⟩, _⟩ := hk
      simp only [h4]
      clear h4
      go_wp2_with fail
      exact zad _ rfl rfl (zac rfl hs)
    · obtain ⟨⟨(h5 : u 5 = .pointer (some ⟨s, 0, none⟩)), t5⟩, _⟩ := hk
      simp only [h5]
      clear h5
      go_wp2_with fail
      exact zad _ rfl rfl (zac rfl hs)
    · obtain ⟨⟨(h6 : u 6 = .pointer (some ⟨s, 10, none⟩)), t6⟩, _⟩ := hk
      simp only [h6]
      clear h6
      go_wp2_with fail
      exact zad _ rfl rfl (zac rfl hs)
    · obtain ⟨⟨(h7 : u 7 = .pointer (some ⟨s, 13, none⟩)), t7⟩, _⟩ := hk
      simp only [h7]
      clear h7
      have d12 := zap hc hi 12 60 (by kernel_rfl)
      have hn : cntD [12] dn = 0 := by simp only [cntD, d12]; rfl
      have hs1 := zan hn hs
      have q := (show QA w1 s b v c d bs na (fun j => if j = 0 then mo else if j = 1 then le else if j = 2 then cy else 0) (fun _ => 0) t (nx Z) x from hs1).1.takes
      go_wp2_with fail
      exact zad _ rfl rfl (zac rfl hs)
    · obtain ⟨⟨(h3 : u 3 = .int .i64 (nx Z 23 0)), t3⟩, ⟨(h8 : u 8 = .int .i64 cy), t8⟩, _⟩ := hk
      simp only [h3, h8]
      clear h3 h8
      go_wp2_with fail
      exact zad _ rfl rfl (zac rfl hs)
    · obtain ⟨⟨(h0 : u 0 = .pointer (some ⟨s, 0, none⟩)), t0⟩, _, ⟨(h1 : u 1 = .pointer (some ⟨s, 0, none⟩)), t1⟩, ⟨(h2 : u 2 = .pointer (some ⟨s, 9, none⟩)), t2⟩, ⟨(h3 : u 3 = .int .i64 (nx Z 23 0)), t3⟩, ⟨(h4 : u 4 = .pointer (some ⟨s, 0, none⟩)), t4⟩, ⟨(h5 : u 5 = .pointer (some ⟨s, 0, none⟩)), t5⟩, ⟨(h6 : u 6 = .pointer (some ⟨s, 10, none⟩)), t6⟩, ⟨(h7 : u 7 = .pointer (some ⟨s, 13, none⟩)), t7⟩, ⟨(h8 : u 8 = .int .i64 cy), t8⟩, ⟨(h9 : u 9 = .int .i64 (wrap64 (nx Z 23 0 + cy))), t9⟩, _⟩ := hk
      simp only [h0]
      clear h0 h1 h2 h3 h4 h5 h6 h7 h8 h9
      go_wp2_with fail
      exact zad _ rfl rfl (zac rfl hs)
    · obtain ⟨⟨(h10 : u 10 = .pointer (some ⟨s, 0, none⟩)), t10⟩, ⟨(h0 : u 0 = .pointer (some ⟨s, 0, none⟩)), t0⟩, ⟨(h1 : u 1 = .pointer (some ⟨s, 0, none⟩)), t1⟩, ⟨(h2 : u 2 = .pointer (some ⟨s, 9, none⟩)), t2⟩, ⟨(h3 : u 3 = .int .i64 (nx Z 23 0)), t3⟩, ⟨(h4 : u 4 = .pointer (some ⟨s, 0, none⟩)), t4⟩, ⟨(h5 : u 5 = .pointer (some ⟨s, 0, none⟩)), t5⟩, ⟨(h6 : u 6 = .pointer (some ⟨s, 10, none⟩)), t6⟩, ⟨(h7 : u 7 = .pointer (some ⟨s, 13, none⟩)), t7⟩, ⟨(h8 : u 8 = .int .i64 cy), t8⟩, ⟨(h9 : u 9 = .int .i64 (wrap64 (nx Z 23 0 + cy))), t9⟩, _⟩ := hk
      simp only [h10]
      clear h10 h0 h1 h2 h3 h4 h5 h6 h7 h8 h9
      go_wp2_with fail
      exact zad _ rfl rfl (zac rfl hs)
    · obtain ⟨⟨(h11 : u 11 = .pointer (some ⟨s, 9, none⟩)), t11⟩, ⟨(h9 : u 9 = .int .i64 (wrap64 (nx Z 23 0 + cy))), t9⟩, ⟨(h0 : u 0 = .pointer (some ⟨s, 0, none⟩)), t0⟩, ⟨(h1 : u 1 = .pointer (some ⟨s, 0, none⟩)), t1⟩, ⟨(h2 : u 2 = .pointer (some ⟨s, 9, none⟩)), t2⟩, ⟨(h3 : u 3 = .int .i64 (nx Z 23 0)), t3⟩, ⟨(h4 : u 4 = .pointer (some ⟨s, 0, none⟩)), t4⟩, ⟨(h5 : u 5 = .pointer (some ⟨s, 0, none⟩)), t5⟩, ⟨(h6 : u 6 = .pointer (some ⟨s, 10, none⟩)), t6⟩, ⟨(h7 : u 7 = .pointer (some ⟨s, 13, none⟩)), t7⟩, ⟨(h8 : u 8 = .int .i64 cy), t8⟩, _, _⟩ := hk
      simp only [h11, h9]
      clear h11 h9 h0 h1 h2 h3 h4 h5 h6 h7 h8
      have d12 := hi
      have hn : cntD [12] dn = 0 := by simp only [cntD, d12]; rfl
      have hs1 := zan hn hs
      have hn2 : cntD [12] (updD dn 12) = 1 := by show (if updD dn 12 12 = true then 1 else 0) + 0 = 1; rw [zaI]; rfl
      have HN2 := hide hn2
      clear hn hn2
      have q := (fun h : QA w1 s b v c d bs na (fun j => if j = 0 then mo else if j = 1 then le else if j = 2 then cy else 0) (fun _ => 0) t (nx Z) x => h.1.cycs) hs1
      have z := (fun h : QA w1 s b v c d bs na (fun j => if j = 0 then mo else if j = 1 then le else if j = 2 then cy else 0) (fun _ => 0) t (nx Z) x => h.1.frz 9) hs1
      have H2 := hide ((fun h : QA w1 s b v c d bs na (fun j => if j = 0 then mo else if j = 1 then le else if j = 2 then cy else 0) (fun _ => 0) t (nx Z) x => show QA w1 s b v c d bs na (fun j => if j = 0 then mo else if j = 1 then le else if j = 2 then cy else 0) (fun _ => 0) t (cyc (nx Z) cy) _ from ⟨h.1.putC (wrap64 (nx Z 23 0 + cy)), zcP h.2 9 _⟩) hs1)
      clear hs hs1
      go_wp2_with fail
      exact zad _ rfl rfl (zbu HN2.out H2.out)
  rintro u dn x hall hs hv
  clear hv
  have hn : cntD [12] dn = 1 := by show (if dn 12 = true then 1 else 0) + 0 = 1; rw [hall 12 (by decide)]; rfl
  have hs := zan hn hs
  clear hn hall
  obtain ⟨h2, o2⟩ : QA w1 s b v c d bs na (fun j => if j = 0 then mo else if j = 1 then le else if j = 2 then cy else 0) (fun _ => 0) t (cyc (nx Z) cy) x := hs
  rw [← F1.out] at h2
  have c12 : x.cell? ⟨s, 12, none⟩ = some (.int .i64 le) := h2.leng
  have li := LI.out
  have H2 := hide h2
  have O2 := hide (O1.out.trans o2)
  clear h2 o2 H1 O1
  go_wp2_with fail
  go_loopw [27] (fun si wr => ∃ k : Nat, (k : Int) ≤ le - 1 ∧ si = .int .i64 (k : Int) ∧ HasQ wr s b v c d bs na (fun j => if j = 0 then mo else if j = 1 then le else if j = 2 then cy else 0) (behN bs (f1 bs Z) k) t (nxN (f1 bs Z) k) ∧ OnlyE (EQ s b v) w wr) (fun si _ => (le - 1).toNat - (intOf si).toNat)
  case atStart => exact ⟨0, by omega, rfl, H2.out, O2.out⟩
  case round =>
    clear H2 O2 c12
    obtain ⟨k, hk, rfl, hr, or⟩ := hrel
    have HR := hide hr
    have OR := hide or
    clear hr or
    by_cases hlt : (k : Int) < le - 1
    · have k6 : k < 6 := by omega
      have KN : Hid (∀ x, QA wr s b v c d bs na (fun j => if j = 0 then mo else if j = 1 then le else if j = 2 then cy else 0) (behN bs (f1 bs Z) k) t (nxN (f1 bs Z) k) x → Calls Tryz.prog 137 #[.pointer (some ⟨s, 0, none⟩)] x fun e y => e = Ending.returned (.int .i64 (nV bs (nxN (f1 bs Z) k))) ∧ QA wr s b v c d bs na (fun j => if j = 0 then mo else if j = 1 then le else if j = 2 then cy else 0) (behN bs (f1 bs Z) k) t (nxN (f1 bs Z) (k + 1)) y) := hide (fun x q => (zsF q.1).mono fun e y ⟨e1, q1, o1⟩ => ⟨e1, q1, q.2.trans o1⟩)
      go_wp2_with fail
      refine zaD (zcx [.pointer (some ⟨s, 0, none⟩), .int .i64 (k : Int), .pointer (some ⟨s, 0, none⟩), .int .i64 (nV bs (nxN (f1 bs Z) k)), .pointer (some ⟨s, 0, none⟩), .pointer (some ⟨s, 14, none⟩), .pointer (some ⟨s, 14 + k, none⟩), undef]) (fun dd ww => (stgs [QA wr s b v c d bs na (fun j => if j = 0 then mo else if j = 1 then le else if j = 2 then cy else 0) (behN bs (f1 bs Z) k) t (nxN (f1 bs Z) k), QA wr s b v c d bs na (fun j => if j = 0 then mo else if j = 1 then le else if j = 2 then cy else 0) (behN bs (f1 bs Z) k) t (nxN (f1 bs Z) (k + 1)), QA wr s b v c d bs na (fun j => if j = 0 then mo else if j = 1 then le else if j = 2 then cy else 0) (behN bs (f1 bs Z) (k + 1)) t (nxN (f1 bs Z) (k + 1))]) (cntD [3, 7] dd) ww) _ (fun u => by simp only [zaA, Act.put, List.setIfInBounds_toArray, List.set_cons_succ, List.set_cons_zero, Nat.reduceAdd]; rfl) (by kernel_rfl) (by kernel_rfl) (by kernel_rfl) (fun dn hd => zbe hd (QA.mk HR.out)) ?_ ?_
      · repeat' first | refine zaW (fun u dn x hi hc hk hs => ?_) ?_ | exact zbb
        · go_wp2_with fail
          exact zad _ rfl rfl (zac rfl hs)
        · go_wp2_with fail
          exact zad _ rfl rfl (zac rfl hs)
        · go_wp2_with fail
          exact zad _ rfl rfl (zac rfl hs)
        · obtain ⟨⟨(h2 : u 2 = .pointer (some ⟨s, 0, none⟩)), t2⟩, _⟩ := hk
          simp only [h2]
          clear h2
          have d3 := hi
          have d7 := zap hc hi 7 60 (by kernel_rfl)
          have hn : cntD [3, 7] dn = 0 := by simp only [cntD, d3, d7]; rfl
          have hs1 := zan hn hs
          have hn2 : cntD [3, 7] (updD dn 3) = 1 := by show (if updD dn 3 3 = true then 1 else 0) + ((if updD dn 3 7 = true then 1 else 0) + 0) = 1; rw [zaI, zar dn (show ¬ 7 = 3 by decide), d7]; rfl
          have HN2 := hide hn2
          clear hn hn2 d7
          have HS := hide hs1
          clear hs hs1
          go_wp2_with fail
          refine (KN.out _ HS.out).mono ?_
          rintro e x2 ⟨rfl, h2⟩
          have H2 := hide h2
          clear h2 HS
          go_wp2_with fail
          exact zad _ rfl rfl (zbu HN2.out H2.out)
        · obtain ⟨⟨(h0 : u 0 = .pointer (some ⟨s, 0, none⟩)), t0⟩, _⟩ := hk
          simp only [h0]
          clear h0
          go_wp2_with fail
          exact zad _ rfl rfl (zac rfl hs)
        · obtain ⟨⟨(h4 : u 4 = .pointer (some ⟨s, 0, none⟩)), t4⟩, _⟩ := hk
          simp only [h4]
          clear h4
          go_wp2_with fail
          exact zad _ rfl rfl (zac rfl hs)
        · obtain ⟨⟨(h5 : u 5 = .pointer (some ⟨s, 14, none⟩)), t5⟩, ⟨(h1 : u 1 = .int .i64 (k : Int)), t1⟩, ⟨(h0 : u 0 = .pointer (some ⟨s, 0, none⟩)), t0⟩, _, ⟨(h2 : u 2 = .pointer (some ⟨s, 0, none⟩)), t2⟩, ⟨(h3 : u 3 = .int .i64 (nV bs (nxN (f1 bs Z) k))), t3⟩, _⟩ := hk
          simp only [h5, h1]
          clear h5 h1 h0 h2 h3
          go_wp2_with fail
          exact zad _ rfl rfl (zac rfl hs)
        · obtain ⟨⟨(h6 : u 6 = .pointer (some ⟨s, 14 + k, none⟩)), t6⟩, ⟨(h3 : u 3 = .int .i64 (nV bs (nxN (f1 bs Z) k))), t3⟩, _, ⟨(h0 : u 0 = .pointer (some ⟨s, 0, none⟩)), t0⟩, ⟨(h1 : u 1 = .int .i64 (k : Int)), t1⟩, ⟨(h2 : u 2 = .pointer (some ⟨s, 0, none⟩)), t2⟩, _, _⟩ := hk
          simp only [h6, h3]
          clear h6 h3 h0 h1 h2
          have d3 := t3
          have d7 := hi
          have hn : cntD [3, 7] dn = 1 := by simp only [cntD, d3, d7]; rfl
          have hs1 := zan hn hs
          have hn2 : cntD [3, 7] (updD dn 7) = 2 := by show (if updD dn 7 3 = true then 1 else 0) + ((if updD dn 7 7 = true then 1 else 0) + 0) = 2; rw [zar dn (show ¬ 3 = 7 by decide), zaI, d3]; rfl
          have HN2 := hide hn2
          clear hn hn2 d3
          have q := (fun h : QA wr s b v c d bs na (fun j => if j = 0 then mo else if j = 1 then le else if j = 2 then cy else 0) (behN bs (f1 bs Z) k) t (nxN (f1 bs Z) (k + 1)) x => h.1.beh k k6 rfl) hs1
          have z := (fun h : QA wr s b v c d bs na (fun j => if j = 0 then mo else if j = 1 then le else if j = 2 then cy else 0) (behN bs (f1 bs Z) k) t (nxN (f1 bs Z) (k + 1)) x => h.1.frz (14 + k)) hs1
          have H2 := hide ((fun h : QA wr s b v c d bs na (fun j => if j = 0 then mo else if j = 1 then le else if j = 2 then cy else 0) (behN bs (f1 bs Z) k) t (nxN (f1 bs Z) (k + 1)) x => show QA wr s b v c d bs na (fun j => if j = 0 then mo else if j = 1 then le else if j = 2 then cy else 0) (behN bs (f1 bs Z) (k + 1)) t (nxN (f1 bs Z) (k + 1)) _ from ⟨h.1.putB k k6 (nV bs (nxN (f1 bs Z) k)) (a := 14 + k) rfl, zcP h.2 (14 + k) _⟩) hs1)
          clear hs hs1
          go_wp2_with fail
          exact zad _ rfl rfl (zbu HN2.out H2.out)
      rintro u dn x hall hs hv
      clear hv
      have hn : cntD [3, 7] dn = 2 := by show (if dn 3 = true then 1 else 0) + ((if dn 7 = true then 1 else 0) + 0) = 2; rw [hall 3 (by decide), hall 7 (by decide)]; rfl
      have hs := zan hn hs
      clear hn hall
      obtain ⟨h3, o3⟩ : QA wr s b v c d bs na (fun j => if j = 0 then mo else if j = 1 then le else if j = 2 then cy else 0) (behN bs (f1 bs Z) (k + 1)) t (nxN (f1 bs Z) (k + 1)) x := hs
      have H3 := hide h3
      have O3 := hide (OR.out.trans o3)
      clear h3 o3 HR OR
      go_wp2_with fail
      exact ⟨⟨k + 1, by omega, by go_num, H3.out, O3.out⟩, by simp [intOf]; omega⟩
    · have hK : k = (le - 1).toNat := by omega
      have hr := HR.out
      rw [hK, ← FB.out, ← F2.out] at hr
      have KH := hide (zBI hr 32)
      rw [f2_20 _ _ _ (by decide)] at KH
      have c24 := hr.onm
      have z24 := hr.frz 24
      have HA := hide (hr.putT (fT Z))
      have OA := hide (zcP OR.out 24 (.bool (fT Z)))
      clear hr HR OR hK
      go_wp2_with (first | (go_at_call 138; refine KH.out.mono ?_; rintro e w' ⟨rfl, hw⟩; subst w') | fail)
      refine (zyM (Z := f2 bs Z) HA.out 32 (by rw [f2_20 _ _ _ (by decide)]; exact TI.out)).mono ?_
      rintro e wb ⟨rfl, hb, ob⟩
      rw [f2_20 _ _ _ (by decide)] at hb
      have HB : Hid (HasQ wb s b v c d bs na (fun j => if j = 0 then mo else if j = 1 then le else if j = 2 then cy else 0) (fB bs Z) (fT Z) (f3 bs Z)) := hide hb
      have OB := hide (OA.out.trans ob)
      clear hb ob HA OA c24 z24 KH
      go_wp2_with fail
      refine (zsP HB.out MI.out.1 EZ.out.1 rfl rfl rfl).mono ?_
      rintro e wc ⟨rfl, hc, oc⟩
      have HC := hide hc
      have OC := hide (OB.out.trans oc)
      clear hc oc HB OB
      go_wp2_with fail
      refine (zsQ HC.out EZ.out.2).mono ?_
      rintro e wd ⟨rfl, hd, od⟩
      have HD := hide hd
      have OD := hide (OC.out.trans od)
      clear hd od HC OC
      go_wp2_with fail
      refine bodyPost_end (P := Tryz.prog) (fn := Tryz.f95) (results_none rfl _ _ _) (by rfl) ?_
      refine ⟨rfl, ?_, OD.out⟩
      have q := HD.out
      rw [f3_20 _ _ 1 (by decide) (by decide), f3_20 _ _ 2 (by decide) (by decide)] at q
      rw [FI.out]
      have e4 : f4 bs Z = fdS mo (Z 20 1) (opF mo (fB bs Z)) (f3 bs Z) := by unfold f4 fdS fA fO; rw [EM.out]
      have e5 : fP bs Z = zkk mo (Z 20 1) (Z 20 2) (opF mo (fB bs Z)) (fdQ bs mo (Z 20 1) (opF mo (fB bs Z)) (f3 bs Z)) := by unfold fP fQ fdQ fA fO; rw [EM.out]
      have e6 : fO bs Z = opF mo (fB bs Z) := by unfold fO; rw [EM.out]
      have e7 : fK bs Z = mkF mo (fB bs Z) := by unfold fK; rw [EM.out]
      have e8 : fR bs Z = frF mo (fB bs Z) := by unfold fR; rw [EM.out]
      rw [e4, e5, e6, e7, e8]
      refine q.ext (fun j hj => ?_) (fun _ _ => rfl)
      rcases j with _ | _ | _ | _ | _ | _ | _ | j
      · rfl
      · rfl
      · rfl
      · rfl
      · rfl
      · rfl
      · rfl
      · omega
end Go.Proofs.YtdiidjehdginnaaGreatDoor.L25
