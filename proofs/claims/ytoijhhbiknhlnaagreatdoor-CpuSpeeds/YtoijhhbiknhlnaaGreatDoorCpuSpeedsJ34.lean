/- The program's processor: its registers by letters, the byte that is meant, what the alu does. -/
import Derived.Test.YtoijhhbiknhlnaaGreatDoorCpuSpeedsJ31
import Derived.Test.YtoijhhbiknhlnaaGreatDoorCpuSpeedsJ33
import Derived.Deep.CutBlock
namespace Go.Proofs.YtoijhhbiknhlnaaGreatDoor.L25
set_option maxRecDepth 20000
open A2 B4 C3 G6 I11 J23 K9 L24 M5 N8 O7 P22 R15 T10 V12 W13
open Go.RowKit
set_option linter.unusedVariables false
def rgOf (l:Int):Nat:=if l=88 then 1 else if l=89 then 2 else if l=83 then 3 else 0
theorem zcT (l:Int):rgOf l<5∧¬rgOf l=4∧rgOf l<6:=by
 unfold rgOf
 repeat' split
 all_goals omega
theorem zbv (s:Nat) (l:Int) (w:World):Calls Tryz.prog 44 #[.pointer (some ⟨s,0,none⟩),.int .u8 l] w fun e w'=>e=Ending.returned (.pointer (some ⟨s,rgOf l,none⟩))∧w'=w:=by
 by_cases h1:l=88
 ·subst h1;go_enter Tryz.func44,Tryz.ntmps44;go_wp2;go_ret;exact ⟨rfl,rfl⟩
 by_cases h2:l=89
 ·subst h2;go_enter Tryz.func44,Tryz.ntmps44;go_wp2;go_ret;exact ⟨rfl,rfl⟩
 by_cases h3:l=83
 ·subst h3;go_enter Tryz.func44,Tryz.ntmps44;go_wp2;go_ret;exact ⟨rfl,rfl⟩
 rw [show rgOf l=0 by unfold rgOf;rw [if_neg h1,if_neg h2,if_neg h3]];go_enter Tryz.func44,Tryz.ntmps44;go_wp2;go_ret;exact ⟨rfl,rfl⟩
theorem nz_in (p x:Int):zad (nzOf p x):=zbn p x
def ldS (Z:Nat→Nat→Int) (k:Nat) (x:Int):Nat→Nat→Int:=setR (setR Z k x) 4 (nzOf (Z 20 4) x)
theorem zhl {w:World} {s b v c d:Nat} {bs:List Int} {nm:ByteArray} {I B:Nat→Int} {t:Bool} {Z:Nat→Nat→Int} (h:HasQ w s b v c d bs nm I B t Z) (k:Nat) (hk:k<5) (k4:¬k=4) (x:Int) (hx:zad x):Calls Tryz.prog 43 #[.pointer (some ⟨s,0,none⟩),.pointer (some ⟨s,k,none⟩),.int .i64 x] w fun e w'=>e=Ending.returned (.tuple #[])∧HasQ w' s b v c d bs nm I B t (ldS Z k x)∧OnlyE (EQ s b v) w w':=by
 have ck:=h.reg k (by omega);have zk:=h.frz k;have h1:=h.putR k (by omega) x (zdy (h.good 20) k hk _ hx.1 hx.2);have c4:(w.setCell ⟨s,k,none⟩ (.int .i64 x)).cell? ⟨s,4,none⟩=some (.int .i64 (Z 20 4)):=by
  have q:=h1.reg 4 (by decide);rw [zfV,zbI _ _ _ _ (fun e=>k4 e.symm)] at q;exact q
 have z4:=h1.frz 4;have n4:=nz_in (Z 20 4) x;have H2:=hide (h1.putR 4 (by decide) (nzOf (Z 20 4) x) (zdy (h1.good 20) 4 (by decide) _ n4.1 n4.2));have O2:=hide (zbi (zbi (zcd (s:=s) (b:=b) (v:=v) (Below.refl _ w)) k (.int .i64 x)) 4 (.int .i64 (nzOf (Z 20 4) x)));clear h h1 n4 hx;go_enter Tryz.func43,Tryz.ntmps43;go_wp2_with (first|(go_at_call 93;refine (zcX _ _ _).mono ?_;rintro e w' ⟨rfl,rfl⟩));go_end0;exact ⟨rfl,H2.out,O2.out⟩
def mV (bs:List Int) (I:Nat→Int) (Z:Nat→Nat→Int):Int:=if I 0=2 then I 3 else if I 0=1 then Z 20 0 else rV bs Z (I 6)
def mS (I:Nat→Int) (Z:Nat→Nat→Int):Nat→Nat→Int:=if I 0=2 then Z else if I 0=1 then Z else rS Z (I 6)
theorem ziE (I:Nat→Int) (Z:Nat→Nat→Int):mS I Z 20=Z 20:=by
 unfold mS
 repeat' split
 ·rfl
 ·rfl
 ·exact zeq _ _ _ (by decide)
theorem m_is {w:World} {s b v c d:Nat} {bs:List Int} {nm:ByteArray} {I B:Nat→Int} {t:Bool} {Z:Nat→Nat→Int} (h:HasQ w s b v c d bs nm I B t Z):Calls Tryz.prog 45 #[.pointer (some ⟨s,0,none⟩)] w fun e w'=>e=Ending.returned (.int .i64 (mV bs I Z))∧HasQ w' s b v c d bs nm I B t (mS I Z)∧OnlyE (EQ s b v) w w':=by
 have HE:=hide h;have c11:=h.mode;unfold mV mS
 by_cases h2:I 0=2
 ·rw [if_pos h2,if_pos h2];rw [h2] at c11;have c20:=h.oper;clear h h2;go_enter Tryz.func45,Tryz.ntmps45;go_wp2;go_ret;exact ⟨rfl,HE.out,zcd (Below.refl _ _)⟩
 by_cases h1:I 0=1
 ·rw [if_neg h2,if_pos h1,if_neg h2,if_pos h1];rw [h1] at c11;have c0:=h.reg 0 (by decide);clear h h1 h2;go_enter Tryz.func45,Tryz.ntmps45;go_wp2;go_ret;exact ⟨rfl,HE.out,zcd (Below.refl _ _)⟩
 ·rw [if_neg h2,if_neg h1,if_neg h2,if_neg h1];have c23:=h.plac;clear h;go_enter Tryz.func45,Tryz.ntmps45;go_wp2_with fail;refine (zeW HE.out (I 6)).mono ?_;rintro e w1 ⟨rfl,h1',o1⟩;have H1:=hide h1';have O1:=hide o1;clear h1' o1 HE;go_wp2;go_ret;exact ⟨rfl,H1.out,O1.out⟩
theorem zdW {w:World} {s b v c d:Nat} {bs:List Int} {nm:ByteArray} {I B:Nat→Int} {t:Bool} {Z:Nat→Nat→Int} (h:HasQ w s b v c d bs nm I B t Z) (ho:I 0=2→zad (I 3)):zad (mV bs I Z):=by
 unfold mV;split
 ·rename_i e;exact ho e
 split
 ·exact zcB h.good 0 (by decide)
 ·exact zvy h _
def rgV (Z:Nat→Nat→Int) (l:Int):Int:=if l=90 then 0 else Z 20 (rgOf l)
theorem zsJ {w:World} {s b v c d:Nat} {bs:List Int} {nm:ByteArray} {I B:Nat→Int} {t:Bool} {Z:Nat→Nat→Int} (h:HasQ w s b v c d bs nm I B t Z) (l:Int):Calls Tryz.prog 46 #[.pointer (some ⟨s,0,none⟩),.int .u8 l] w fun e w'=>e=Ending.returned (.tuple #[])∧HasQ w' s b v c d bs nm I B t (wS Z (I 6) (rgV Z l))∧OnlyE (EQ s b v) w w':=by
 have HE:=hide h;have c23:=h.plac;have ck:=h.reg (rgOf l) (zcT l).2.2;have KR:=hide (fun w=>zbv s l w);unfold rgV;clear h
 by_cases hl:l=90
 ·rw [if_pos hl];subst hl;go_enter Tryz.func46,Tryz.ntmps46;go_wp2_with fail;refine (zdU HE.out (I 6) 0).mono ?_;rintro e w1 ⟨rfl,h1',o1⟩;have H1:=hide h1';have O1:=hide o1;clear h1' o1 HE;go_wp2;go_end0;exact ⟨rfl,H1.out,O1.out⟩
 ·rw [if_neg hl];go_enter Tryz.func46,Tryz.ntmps46;go_wp2_with (first|(go_at_call 44;refine (KR.out _).mono ?_;rintro e w' ⟨rfl,hw⟩;subst w')|fail);refine (zdU HE.out (I 6) (Z 20 (rgOf l))).mono ?_;rintro e w1 ⟨rfl,h1',o1⟩;have H1:=hide h1';have O1:=hide o1;clear h1' o1 HE;go_wp2;go_end0;exact ⟨rfl,H1.out,O1.out⟩
theorem zaJ (nm:ByteArray) (k:Nat) (r:Int) (hk:(zjU 3 [3] 37 nm.data.toList k ((Tryz.f95.body.bind (zaY 0)).getD .skip)&&hitT 3 [3] 37 nm.data.toList (zcl k ((Tryz.f95.body.bind (zaY 0)).getD .skip))&&(retI (zcE (zcl k ((Tryz.f95.body.bind (zaY 0)).getD .skip)))==some (2,r)))=true) (w:World):Calls Tryz.prog 95 #[.string nm] w fun e w'=>e=Ending.returned (.int .i64 r)∧w'=w:=by
 rw [Bool.and_eq_true] at hk;obtain ⟨k1,k2⟩:=hk;have k3:=eq_of_beq k2;have K1:=hide k1;have K3:=hide k3;clear k1 k2 k3;go_enter Tryz.func95,Tryz.ntmps95;go_upto_block 0 with fail;apply wp_block;refine zjV [3] nm k rfl K1.out rfl rfl fun a' hA=>?_
 refine zqf K3.out ?_;simp only [Exit.inBlock,Exit.then];refine (bodyPost_ret (P:=Tryz.prog) (fn:=Tryz.f95) (v:=.int .i64 r) ?_ ?_ ?_:bodyPost Tryz.prog Tryz.f95 _ .ret _ _)
 ·rw [results_tmp (t:=2) rfl,zlS _ (by rw [hA.1];show 2<37;decide)]
 ·exact hA.2.1
 ·exact ⟨rfl,rfl⟩
theorem zfE (w:World):Calls Tryz.prog 95 #[.string ⟨#[79,82,65]⟩] w fun e w'=>e=Ending.returned (.int .i64 0)∧w'=w:=zaJ ⟨#[79,82,65]⟩ 0 0 (by kernel_rfl) w
theorem zfF (w:World):Calls Tryz.prog 95 #[.string ⟨#[65,78,68]⟩] w fun e w'=>e=Ending.returned (.int .i64 1)∧w'=w:=zaJ ⟨#[65,78,68]⟩ 1 1 (by kernel_rfl) w
theorem zfG (w:World):Calls Tryz.prog 95 #[.string ⟨#[69,79,82]⟩] w fun e w'=>e=Ending.returned (.int .i64 2)∧w'=w:=zaJ ⟨#[69,79,82]⟩ 2 2 (by kernel_rfl) w
theorem zfH (w:World):Calls Tryz.prog 95 #[.string ⟨#[65,68,67]⟩] w fun e w'=>e=Ending.returned (.int .i64 3)∧w'=w:=zaJ ⟨#[65,68,67]⟩ 3 3 (by kernel_rfl) w
theorem ziF (w:World):Calls Tryz.prog 95 #[.string ⟨#[83,66,67]⟩] w fun e w'=>e=Ending.returned (.int .i64 4)∧w'=w:=zaJ ⟨#[83,66,67]⟩ 4 4 (by kernel_rfl) w
theorem ziG (w:World):Calls Tryz.prog 95 #[.string ⟨#[67,77,80]⟩] w fun e w'=>e=Ending.returned (.int .i64 5)∧w'=w:=zaJ ⟨#[67,77,80]⟩ 5 5 (by kernel_rfl) w
theorem ziH (w:World):Calls Tryz.prog 95 #[.string ⟨#[67,80,88]⟩] w fun e w'=>e=Ending.returned (.int .i64 5)∧w'=w:=zaJ ⟨#[67,80,88]⟩ 5 5 (by kernel_rfl) w
theorem ziI (w:World):Calls Tryz.prog 95 #[.string ⟨#[67,80,89]⟩] w fun e w'=>e=Ending.returned (.int .i64 5)∧w'=w:=zaJ ⟨#[67,80,89]⟩ 5 5 (by kernel_rfl) w
theorem ziJ (w:World):Calls Tryz.prog 95 #[.string ⟨#[66,73,84]⟩] w fun e w'=>e=Ending.returned (.int .i64 6)∧w'=w:=zaJ ⟨#[66,73,84]⟩ 6 6 (by kernel_rfl) w
theorem ziK (w:World):Calls Tryz.prog 95 #[.string ⟨#[84,83,84]⟩] w fun e w'=>e=Ending.returned (.int .i64 6)∧w'=w:=zaJ ⟨#[84,83,84]⟩ 6 6 (by kernel_rfl) w
theorem ziL (w:World):Calls Tryz.prog 95 #[.string ⟨#[84,83,66]⟩] w fun e w'=>e=Ending.returned (.int .i64 7)∧w'=w:=zaJ ⟨#[84,83,66]⟩ 7 7 (by kernel_rfl) w
theorem ziM (w:World):Calls Tryz.prog 95 #[.string ⟨#[84,82,66]⟩] w fun e w'=>e=Ending.returned (.int .i64 8)∧w'=w:=zaJ ⟨#[84,82,66]⟩ 8 8 (by kernel_rfl) w
theorem ziN (w:World):Calls Tryz.prog 95 #[.string ⟨#[65,83,76]⟩] w fun e w'=>e=Ending.returned (.int .i64 9)∧w'=w:=zaJ ⟨#[65,83,76]⟩ 9 9 (by kernel_rfl) w
theorem ziO (w:World):Calls Tryz.prog 95 #[.string ⟨#[82,79,76]⟩] w fun e w'=>e=Ending.returned (.int .i64 10)∧w'=w:=zaJ ⟨#[82,79,76]⟩ 10 10 (by kernel_rfl) w
theorem ziP (w:World):Calls Tryz.prog 95 #[.string ⟨#[76,83,82]⟩] w fun e w'=>e=Ending.returned (.int .i64 11)∧w'=w:=zaJ ⟨#[76,83,82]⟩ 11 11 (by kernel_rfl) w
theorem ziQ (w:World):Calls Tryz.prog 95 #[.string ⟨#[82,79,82]⟩] w fun e w'=>e=Ending.returned (.int .i64 12)∧w'=w:=zaJ ⟨#[82,79,82]⟩ 12 12 (by kernel_rfl) w
theorem ziR (w:World):Calls Tryz.prog 95 #[.string ⟨#[73,78,67]⟩] w fun e w'=>e=Ending.returned (.int .i64 13)∧w'=w:=zaJ ⟨#[73,78,67]⟩ 13 13 (by kernel_rfl) w
theorem ziS (w:World):Calls Tryz.prog 95 #[.string ⟨#[73,78,88]⟩] w fun e w'=>e=Ending.returned (.int .i64 13)∧w'=w:=zaJ ⟨#[73,78,88]⟩ 13 13 (by kernel_rfl) w
theorem ziT (w:World):Calls Tryz.prog 95 #[.string ⟨#[73,78,89]⟩] w fun e w'=>e=Ending.returned (.int .i64 13)∧w'=w:=zaJ ⟨#[73,78,89]⟩ 13 13 (by kernel_rfl) w
theorem zdz (nm:ByteArray) (hk:zjU 3 [3] 37 nm.data.toList 14 ((Tryz.f95.body.bind (zaY 0)).getD .skip)=true) (w:World):Calls Tryz.prog 95 #[.string nm] w fun e w'=>e=Ending.returned (.int .i64 14)∧w'=w:=by
 have K1:=hide hk;clear hk;go_enter Tryz.func95,Tryz.ntmps95;go_upto_block 0 with fail;rename_i hK;apply wp_block;refine zkR (ks:=[3]) (x:=3) (N:=37) (nm:=nm) (by decide) 14 _ _ K1.out rfl rfl fun a' hA=>?_
 refine wp_skip ?_;simp only [Exit.inBlock,Exit.then];refine hK _ _ (zqf (d:=2) (x:=14) (by kernel_rfl) ?_);refine (bodyPost_ret (P:=Tryz.prog) (fn:=Tryz.f95) (v:=.int .i64 14) ?_ ?_ ?_:bodyPost Tryz.prog Tryz.f95 _ .ret _ _)
 ·rw [results_tmp (t:=2) rfl,zlS _ (by rw [hA.1];show 2<37;decide)]
 ·exact hA.2.1
 ·exact ⟨rfl,rfl⟩
theorem ziU (w:World):Calls Tryz.prog 95 #[.string ⟨#[68,69,67]⟩] w fun e w'=>e=Ending.returned (.int .i64 14)∧w'=w:=zdz _ (by kernel_rfl) w
theorem ziV (w:World):Calls Tryz.prog 95 #[.string ⟨#[68,69,88]⟩] w fun e w'=>e=Ending.returned (.int .i64 14)∧w'=w:=zdz _ (by kernel_rfl) w
theorem ziW (w:World):Calls Tryz.prog 95 #[.string ⟨#[68,69,89]⟩] w fun e w'=>e=Ending.returned (.int .i64 14)∧w'=w:=zdz _ (by kernel_rfl) w
def rkV (op a m p:Int):Int:=(doOf op (a%256) (m%256) (p%256)).1
def rkP (op a m p:Int):Int:=(doOf op (a%256) (m%256) (p%256)).2
theorem zqg (op a m p:Int):zad (rkV op a m p)∧zad (rkP op a m p):=by
 have k:=zzj op (zaf a) (zaf m) (zaf p);exact ⟨k.1,k.2.1⟩
def rkS (Z:Nat→Nat→Int) (op a m:Int):Nat→Nat→Int:=setR Z 4 (rkP op a m (Z 20 4))
theorem zcy {w:World} {s b v c d:Nat} {bs:List Int} {nm:ByteArray} {I B:Nat→Int} {t:Bool} {Z:Nat→Nat→Int} (h:HasQ w s b v c d bs nm I B t Z) (nn:ByteArray) (op a m:Int) (KO:∀w,Calls Tryz.prog 95 #[.string nn] w fun e w'=>e=Ending.returned (.int .i64 op)∧w'=w):Calls Tryz.prog 51 #[.pointer (some ⟨s,0,none⟩),.string nn,.int .i64 a,.int .i64 m] w fun e w'=>e=Ending.returned (.int .i64 (rkV op a m (Z 20 4)))∧HasQ w' s b v c d bs nm I B t (rkS Z op a m)∧OnlyE (EQ s b v) w w':=by
 have HE:=hide h;replace KO:=hide KO;obtain ⟨r,hr⟩:∃r,rkV op a m (Z 20 4)=r:=⟨_,rfl⟩
 obtain ⟨p,hp⟩:∃p,rkP op a m (Z 20 4)=p:=⟨_,rfl⟩
 have PI:=hide (zqg op a m (Z 20 4)).2;have KD:Hid (∀w,Calls Tryz.prog 94 #[.int .i64 op,.int .i64 a,.int .i64 m,.int .i64 (Z 20 4)] w fun e w'=>e=Ending.returned (.tuple #[.int .i64 r,.int .i64 p])∧Below w.heap.size w w'):=hide (fun w=>by rw [←hr,←hp];exact zze op a m (Z 20 4) w);unfold rkS;rw [hr,hp];rw [hp] at PI;clear h hr hp;go_enter Tryz.func51,Tryz.ntmps51;go_wp2_with fail;refine zai (zbl [.string nn,.int .i64 op,.int .i64 a,.int .i64 m,.pointer (some ⟨s,0,none⟩),.pointer (some ⟨s,0,none⟩),.pointer (some ⟨s,0,none⟩),.pointer (some ⟨s,0,none⟩),.pointer (some ⟨s,4,none⟩),.int .i64 (Z 20 4),.tuple #[.int .i64 r,.int .i64 p],.tuple #[.int .i64 r,.int .i64 p],.int .i64 r,.int .i64 p,.int .i64 r,.int .i64 p]) (fun dd ww=>(stgs [QA w s b v c d bs nm I B t Z]) (cntD [] dd) ww) _ (fun u=>by simp only [zat,Act.put,List.setIfInBounds_toArray,List.set_cons_succ,List.set_cons_zero,Nat.reduceAdd];rfl) (by kernel_rfl) (by kernel_rfl) (by kernel_rfl) (fun dn hd=>zaz hd (QA.mk HE.out)) ?_ ?_
 ·repeat' first|refine zas (fun u dn x hi hc hk hs=>?_) ?_|exact zax
  ·go_wp2_with fail;exact zab _ rfl rfl (zaa rfl hs)
  ·obtain ⟨⟨(h0:u 0=.string nn),t0⟩,_⟩:=hk;simp only [h0];clear h0;have hs1:=hs;have HS:=hide hs;clear hs hs1;go_wp2_with fail;refine (KO.out _).mono ?_;rintro e x2 ⟨rfl,hw⟩;subst x2;go_wp2_with fail;exact zab _ rfl rfl (zaa rfl HS.out)
  ·go_wp2_with fail;exact zab _ rfl rfl (zaa rfl hs)
  ·go_wp2_with fail;exact zab _ rfl rfl (zaa rfl hs)
  ·go_wp2_with fail;exact zab _ rfl rfl (zaa rfl hs)
  ·obtain ⟨⟨(h4:u 4=.pointer (some ⟨s,0,none⟩)),t4⟩,_⟩:=hk;simp only [h4];clear h4;go_wp2_with fail;exact zab _ rfl rfl (zaa rfl hs)
  ·obtain ⟨⟨(h5:u 5=.pointer (some ⟨s,0,none⟩)),t5⟩,_⟩:=hk;simp only [h5];clear h5;go_wp2_with fail;exact zab _ rfl rfl (zaa rfl hs)
  ·obtain ⟨⟨(h6:u 6=.pointer (some ⟨s,0,none⟩)),t6⟩,_⟩:=hk;simp only [h6];clear h6;go_wp2_with fail;exact zab _ rfl rfl (zaa rfl hs)
  ·obtain ⟨⟨(h7:u 7=.pointer (some ⟨s,0,none⟩)),t7⟩,_⟩:=hk;simp only [h7];clear h7;go_wp2_with fail;exact zab _ rfl rfl (zaa rfl hs)
  ·obtain ⟨⟨(h8:u 8=.pointer (some ⟨s,4,none⟩)),t8⟩,_⟩:=hk;simp only [h8];clear h8;have hs1:=hs;have q:=(show QA w s b v c d bs nm I B t Z x from hs1).1.reg 4 (by decide);go_wp2_with fail;exact zab _ rfl rfl (zaa rfl hs)
  ·obtain ⟨⟨(h1:u 1=.int .i64 op),t1⟩,⟨(h2:u 2=.int .i64 a),t2⟩,⟨(h3:u 3=.int .i64 m),t3⟩,⟨(h9:u 9=.int .i64 (Z 20 4)),t9⟩,_,_⟩:=hk;simp only [h1,h2,h3,h9];clear h1 h2 h3 h9;have hs1:=hs;have HS:=hide hs;have HS1:=hide hs1;clear hs hs1;go_wp2_with fail;refine (KD.out _).mono ?_;rintro e x2 ⟨rfl,b2⟩;have H2:=hide (zcb (zpA QA.stab) HS.out b2);clear b2 HS HS1;go_wp2_with fail;exact zab _ rfl rfl (zaa rfl H2.out)
  ·obtain ⟨⟨(h10:u 10=.tuple #[.int .i64 r,.int .i64 p]),t10⟩,_⟩:=hk;simp only [h10];clear h10;go_wp2_with fail;exact zab _ rfl rfl (zaa rfl hs)
  ·obtain ⟨⟨(h11:u 11=.tuple #[.int .i64 r,.int .i64 p]),t11⟩,_⟩:=hk;simp only [h11];clear h11;go_wp2_with fail;exact zab _ rfl rfl (zaa rfl hs)
  ·obtain ⟨⟨(h11:u 11=.tuple #[.int .i64 r,.int .i64 p]),t11⟩,_,_⟩:=hk;simp only [h11];clear h11;go_wp2_with fail;exact zab _ rfl rfl (zaa rfl hs)
  ·obtain ⟨⟨(h12:u 12=.int .i64 r),t12⟩,⟨(h10:u 10=.tuple #[.int .i64 r,.int .i64 p]),t10⟩,⟨(h0:u 0=.string nn),t0⟩,⟨(h1:u 1=.int .i64 op),t1⟩,⟨(h2:u 2=.int .i64 a),t2⟩,⟨(h3:u 3=.int .i64 m),t3⟩,⟨(h4:u 4=.pointer (some ⟨s,0,none⟩)),t4⟩,⟨(h5:u 5=.pointer (some ⟨s,0,none⟩)),t5⟩,⟨(h6:u 6=.pointer (some ⟨s,0,none⟩)),t6⟩,⟨(h7:u 7=.pointer (some ⟨s,0,none⟩)),t7⟩,⟨(h8:u 8=.pointer (some ⟨s,4,none⟩)),t8⟩,⟨(h9:u 9=.int .i64 (Z 20 4)),t9⟩,_,⟨(h11:u 11=.tuple #[.int .i64 r,.int .i64 p]),t11⟩,_,_,_⟩:=hk;simp only [h12];clear h12 h10 h0 h1 h2 h3 h4 h5 h6 h7 h8 h9 h11;go_wp2_with fail;exact zab _ rfl rfl (zaa rfl hs)
  ·obtain ⟨⟨(h13:u 13=.int .i64 p),t13⟩,⟨(h14:u 14=.int .i64 r),t14⟩,⟨(h0:u 0=.string nn),t0⟩,⟨(h1:u 1=.int .i64 op),t1⟩,⟨(h2:u 2=.int .i64 a),t2⟩,⟨(h3:u 3=.int .i64 m),t3⟩,⟨(h4:u 4=.pointer (some ⟨s,0,none⟩)),t4⟩,⟨(h5:u 5=.pointer (some ⟨s,0,none⟩)),t5⟩,⟨(h6:u 6=.pointer (some ⟨s,0,none⟩)),t6⟩,⟨(h7:u 7=.pointer (some ⟨s,0,none⟩)),t7⟩,⟨(h8:u 8=.pointer (some ⟨s,4,none⟩)),t8⟩,⟨(h9:u 9=.int .i64 (Z 20 4)),t9⟩,⟨(h10:u 10=.tuple #[.int .i64 r,.int .i64 p]),t10⟩,⟨(h11:u 11=.tuple #[.int .i64 r,.int .i64 p]),t11⟩,⟨(h12:u 12=.int .i64 r),t12⟩,_,_,_⟩:=hk;simp only [h13];clear h13 h14 h0 h1 h2 h3 h4 h5 h6 h7 h8 h9 h10 h11 h12;go_wp2_with fail;exact zab _ rfl rfl (zaa rfl hs)
 rintro u dn x hall hs hv;obtain ⟨_,_,_,_,_,_,_,_,_,_,_,_,_,_,(h14:u 14=.int .i64 r),(h15:u 15=.int .i64 p),_⟩:=hv;simp only [h14,h15];clear h14 h15;obtain ⟨h1,o1⟩:QA w s b v c d bs nm I B t Z x:=hs;have c4:=h1.reg 4 (by decide);have z4:=h1.frz 4;have H1:=hide (h1.putR 4 (by decide) p (zdy (h1.good 20) 4 (by decide) _ PI.out.1 PI.out.2));have O1:=hide (zbi o1 4 (.int .i64 p));clear h1 o1 hall HE KO KD;go_wp2;go_ret;exact ⟨rfl,H1.out,O1.out⟩
end Go.Proofs.YtoijhhbiknhlnaaGreatDoor.L25
