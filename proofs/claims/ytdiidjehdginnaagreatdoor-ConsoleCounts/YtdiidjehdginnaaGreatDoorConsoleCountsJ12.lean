/- Texts put together. -/
import Derived.Test.YtdiidjehdginnaaGreatDoorConsoleCountsJ02
import Derived.Test.YtdiidjehdginnaaGreatDoorConsoleCountsJ10
import Derived.OpenShut
import Derived.ShutString
import Derived.ChangeOld
import Derived.Below
import Derived.OneCell
import Derived.Test.YtdiidjehdginnaaGreatDoorConsoleCountsJ01
import Derived.ChangeKeysEq
import Derived.Test.YtdiidjehdginnaaGreatDoorConsoleCountsJ11
import Derived.Deep.CutBlock
namespace Go.Proofs.YtdiidjehdginnaaGreatDoor.A2
set_option maxRecDepth 20000
open Go.RowKit
set_option linter.unusedVariables false
variable {p s x:Int} {P:Prop}
theorem zbA (p f:Int) (on:Bool) (w:World) (hp:zao p) (hf:zaX f):
  Calls Tryz.prog 236 #[.int .i64 p,.int .i64 f,.bool on] w fun e w'=>e=.returned (.int .i64 (zbG p f on))∧w'=w:=by
 cases on
 all_goals
  go_enter Tryz.func236,Tryz.ntmps236;go_wp2;go_ret
  first
   |exact ⟨zat (zyK hp hf),rfl⟩
   |exact ⟨zat (zvL hp hf),rfl⟩
theorem zcQ (p b:Int) (w:World):
  Calls Tryz.prog 200 #[.int .i64 p,.int .i64 b] w fun e w'=>e=.returned (.int .i64 (nzOf p b))∧w'=w:=by
 go_enter Tryz.func200,Tryz.ntmps200;go_wp2_with (first|(go_at_call 69;refine (zam _ _).mono ?_;rintro e w' ⟨rfl,rfl⟩)|(go_at_call 236;refine (zbA _ _ _ _ (by repeat (first|assumption|exact zaf _|exact zba _ _|refine zaK _ ?_ ?_|(unfold zaX;omega))) (by unfold zaX;omega)).mono ?_;rintro e w' ⟨rfl,rfl⟩));go_ret;refine ⟨zat ?_,rfl⟩;have h1:(bits .and .i64 b 128 != 0)=decide (128≤b%256):=by
  rw [zsB,Bool.eq_iff_iff];simp;omega
 have h2:(b%256==0)=decide (b%256=0):=rfl;unfold nzOf;rw [h1];rfl
theorem n_of (m:Int) (hm:zao m):(bits .and .i64 m 128 != 0)=decide (128≤m):=by
 have:=hm.1;have:=hm.2;rw [zsB,Bool.eq_iff_iff];simp;omega
theorem v_of (m:Int):(bits .and .i64 m 64 != 0)=decide (m/64%2=1):=by
 rw [zBG,Bool.eq_iff_iff];simp;omega
theorem c_of (m:Int):(bits .and .i64 m 1 != 0)=decide (m%2=1):=by
 rw [zho,Bool.eq_iff_iff];simp;omega
theorem zbM (p m o:Int) (w:World) (hp:zao p) (hm:zao m):
  Calls Tryz.prog 239 #[.int .i64 p,.int .i64 m,.int .i64 o] w fun e w'=>e=.returned (.int .i64 (zsC p m (decide (o=0))))∧w'=w:=by
 go_enter Tryz.func239,Tryz.ntmps239;go_wp2_with (first|(go_at_call 236;refine (zbA _ _ _ _ (by repeat (first|assumption|exact zaf _|exact zba _ _|refine zaK _ ?_ ?_|(unfold zaX;omega))) (by unfold zaX;omega)).mono ?_;rintro e w' ⟨rfl,rfl⟩));go_ret;refine ⟨zat ?_,rfl⟩;rw [n_of m hm,v_of m];rfl
theorem zgh (op a m p:Int) (w:World) (hop:op=9∨op=10∨op=11∨op=12) (hm:zao m) (hp:zao p):
  Calls Tryz.prog 240 #[.int .i64 op,.int .i64 m,.int .i64 p] w fun e w'=>e=.returned (.tuple #[.int .i64 (doOf op a m p).1,.int .i64 (doOf op a m p).2])∧w'=w:=by
 have h0:=hm.1;have h1:=hm.2;have hb:=hide (zho p);have h2:0≤bits .and .i64 p 1∧bits .and .i64 p 1≤1:=by rw [hb.out];omega
 have s9:bits .or .i64 (m*2%256) 0=m*2%256:=by rw [or_comm,zjF _ (by omega) (by omega)]
 have s10:bits .or .i64 (m*2%256) (bits .and .i64 p 1)=m*2%256+p%2:=by rw [hb.out,zha 1 _ _ (by omega) (by omega) (by omega) (by omega) (by omega) (by omega)]
 have s11:bits .or .i64 (m/2) 0=m/2:=by rw [or_comm,zjF _ (by omega) (by omega)]
 have s12:bits .or .i64 (m/2) (bits .and .i64 p 1*128)=m/2+p%2*128:=by rw [hb.out,or_comm,zha 7 _ _ (by omega) (by omega) (by omega) (by omega) (by omega) (by omega)];omega
 rcases hop with rfl|rfl|rfl|rfl
 all_goals
  go_enter Tryz.func240,Tryz.ntmps240;go_wp2_with (first|(go_at_call 69;refine (zam _ _).mono ?_;rintro e w' ⟨rfl,rfl⟩)|(go_at_call 236;refine (zbA _ _ _ _ (by repeat (first|assumption|exact zaf _|exact zba _ _|refine zaK _ ?_ ?_|(unfold zaX;omega))) (by unfold zaX;omega)).mono ?_;rintro e w' ⟨rfl,rfl⟩)|(go_at_call 200;refine (zcQ _ _ _).mono ?_;rintro e w' ⟨rfl,rfl⟩));go_ret2
  first
   |exact ⟨zdU rfl (by rw [n_of m hm,zdy _ _ hp (.inl rfl)];rfl),rfl⟩
   |exact ⟨zdU rfl (by rw [c_of m,zdy _ _ hp (.inl rfl)];rfl),rfl⟩
theorem zsI (h:s≤9):zeg s=s∧zcM s=0:=by
 have e:zeg s=s:=by unfold zeg;rw [if_neg (by omega)]
 exact ⟨e,by unfold zcM;rw [e,if_neg (by omega)]⟩
theorem zpI (h:9<s):zeg s=s+6∧zcM s=1:=by
 have e:zeg s=s+6:=by unfold zeg;rw [if_pos h]
 exact ⟨e,by unfold zcM;rw [e,if_pos (by omega)]⟩
theorem zlz (h:0≤s):zcy s=s∧zbL s=0:=
 ⟨by unfold zcy;rw [if_neg (by omega)],by unfold zbL;rw [if_neg (by omega)]⟩
theorem zmA (h:s<0):zcy s=s-6∧zbL s=1:=
 ⟨by unfold zcy;rw [if_pos h],by unfold zbL;rw [if_pos h]⟩
theorem zpJ (s:Int):0≤zcM s∧zcM s≤1:=by unfold zcM;split<;>omega
theorem zpK (s:Int):(zcM s==1)=decide (15<zeg s):=by
 unfold zcM;by_cases h:15<zeg s
 ·rw [if_pos h];simp [h]
 ·rw [if_neg h];simp [h]
theorem zlA (s:Int):(zbL s==0)=decide (0≤s):=by
 unfold zbL;by_cases h:s<0
 ·have:¬0≤s:=by omega
  rw [if_pos h];simp [this]
 ·have:0≤s:=by omega
  rw [if_neg h];simp [this]
theorem zlB (s:Int):0≤zbL s∧zbL s≤1:=by unfold zbL;split<;>omega
theorem zim (x y c:Int) (b:Nat) (w:World) (h0:0≤c) (h1:c≤1) (hv:w.heap[b]? = some (.cells #[.int .i64 c] 3 (0,0))):
  Calls Tryz.prog 273 #[.int .i64 x,.int .i64 y,.pointer (some ⟨b,0,none⟩)] w fun e w'=>
   e=.returned (.int .i64 (zeg (x%16+y%16+c)%16))∧w'.heap[b]? = some (.cells #[.int .i64 (zcM (x%16+y%16+c))] 3 (0,0))∧Below b w w':=by
 have hx:=hide (zcX x);have hy:=hide (zcX y);have bx:0≤bits .and .i64 x 15∧bits .and .i64 x 15≤15:=by rw [hx.out];omega
 have by':0≤bits .and .i64 y 15∧bits .and .i64 y 15≤15:=by rw [hy.out];omega
 rw [←hx.out,←hy.out];have cell:=cell_of_one hv;have free:=free_of_one hv;have up:bits .and .i64 x 15+bits .and .i64 y 15+c≤9∨9<bits .and .i64 x 15+bits .and .i64 y 15+c:=by omega
 rcases up with up|up
 ·have e:=hide (zsI up);go_enter Tryz.func273,Tryz.ntmps273;go_wp2;go_ret;exact ⟨zat (by rw [e.out.1,zcX]),by rw [e.out.2];exact one_setCell hv,(Below.refl b w).setCell (Nat.le_refl _) _⟩
 ·have e:=hide (zpI up);go_enter Tryz.func273,Tryz.ntmps273;go_wp2;go_ret;exact ⟨zat (by rw [e.out.1,zcX]),by rw [e.out.2];exact one_setCell (one_setCell hv),((Below.refl b w).setCell (Nat.le_refl _) _).setCell (Nat.le_refl _) _⟩
theorem zgi (x y c:Int) (b:Nat) (w:World) (h0:0≤c) (h1:c≤1) (hv:w.heap[b]? = some (.cells #[.int .i64 c] 3 (0,0))):
  Calls Tryz.prog 274 #[.int .i64 x,.int .i64 y,.pointer (some ⟨b,0,none⟩)] w fun e w'=>
   e=.returned (.int .i64 (zcy (x%16-y%16-c)%16))∧w'.heap[b]? = some (.cells #[.int .i64 (zbL (x%16-y%16-c))] 3 (0,0))∧Below b w w':=by
 have hx:=hide (zcX x);have hy:=hide (zcX y);have bx:0≤bits .and .i64 x 15∧bits .and .i64 x 15≤15:=by rw [hx.out];omega
 have by':0≤bits .and .i64 y 15∧bits .and .i64 y 15≤15:=by rw [hy.out];omega
 rw [←hx.out,←hy.out];have cell:=cell_of_one hv;have free:=free_of_one hv;have up:0≤bits .and .i64 x 15-bits .and .i64 y 15-c∨bits .and .i64 x 15-bits .and .i64 y 15-c<0:=by omega
 rcases up with up|up
 ·have e:=hide (zlz up);go_enter Tryz.func274,Tryz.ntmps274;go_wp2;go_ret;exact ⟨zat (by rw [e.out.1,zcX]),by rw [e.out.2];exact one_setCell hv,(Below.refl b w).setCell (Nat.le_refl _) _⟩
 ·have e:=hide (zmA up);go_enter Tryz.func274,Tryz.ntmps274;go_wp2;go_ret;exact ⟨zat (by rw [e.out.1,zcX]),by rw [e.out.2];exact one_setCell (one_setCell hv),((Below.refl b w).setCell (Nat.le_refl _) _).setCell (Nat.le_refl _) _⟩
theorem zpL (a m p:Int) (w:World) (ha:zao a) (hm:zao m) (hp:zao p):
  Calls Tryz.prog 259 #[.int .i64 a,.int .i64 m,.int .i64 p] w fun e w'=>e=.returned (.tuple #[.int .i64 (zjo a m p).1,.int .i64 (zjo a m p).2])∧Below w.heap.size w w':=by
 have a0:=ha.1;have a1:=ha.2;have m0:=hm.1;have m1:=hm.2;have hb:=hide (zho p);go_enter Tryz.func259,Tryz.ntmps259;go_wp2_with fail;have h1:0≤bits .and .i64 p 1∧bits .and .i64 p 1≤1:=by rw [hb.out];omega
 refine (zim a m _ _ _ h1.1 h1.2 (heap_alloc_new _ _)).mono ?_;rintro e w1 ⟨rfl,hv,b1⟩;rw [hb.out] at hv b1 ⊢;have B1:Below w.heap.size w w1:=((Below.refl _ w).alloc (Nat.le_refl _) _).trans b1;generalize hl:a%16+m%16+p%2=l at *;have hc:=zpJ l;have HL:=hide hl;clear hl b1;go_wp2_with fail;refine (zim _ _ _ _ _ hc.1 hc.2 hv).mono ?_;rintro e w2 ⟨rfl,hv2,b2⟩;have B2:Below w.heap.size w w2:=B1.trans b2;have ea:a/16%16=a/16:=by omega
 have em:m/16%16=m/16:=by omega
 rw [ea,em] at hv2 ⊢;generalize hh:a/16+m/16+zcM l=h at *;have HH:=hide hh;clear hh b2 B1 hv ea em;have cell:=cell_of_one hv2;have r1:0≤zeg l%16∧zeg l%16≤15:=by omega
 have r2:0≤zeg h%16∧zeg h%16≤15:=by omega
 have er:=hide (zha 4 (zeg h%16*16) (zeg l%16) (by omega) (by omega) (by omega) (by omega) (by omega) (by omega));have ec:=hide (zpK h);go_wp2_with (first|(go_at_call 236;refine (zbA _ _ _ _ (by repeat (first|assumption|exact zaf _|exact zba _ _|refine zaK _ ?_ ?_|(unfold zaX;omega))) (by unfold zaX;omega)).mono ?_;rintro e w' ⟨rfl,rfl⟩)|(go_at_call 200;refine (zcQ _ _ _).mono ?_;rintro e w' ⟨rfl,rfl⟩));go_ret2;refine ⟨zdU ?_ ?_,B2⟩
 ·rw [er.out];unfold zjo;simp only [HL.out,HH.out]
 ·rw [er.out,ec.out,zdy _ _ hp (.inl rfl)];unfold zjo;simp only [HL.out,HH.out]
theorem zpM (a m p:Int) (w:World) (ha:zao a) (hm:zao m) (hp:zao p):
  Calls Tryz.prog 260 #[.int .i64 a,.int .i64 m,.int .i64 p] w fun e w'=>e=.returned (.tuple #[.int .i64 (zjp a m p).1,.int .i64 (zjp a m p).2])∧Below w.heap.size w w':=by
 have a0:=ha.1;have a1:=ha.2;have m0:=hm.1;have m1:=hm.2;have hb:=hide (zho p);have h0:0≤bits .and .i64 p 1∧bits .and .i64 p 1≤1:=by rw [hb.out];omega
 have h1:0≤1-bits .and .i64 p 1∧1-bits .and .i64 p 1≤1:=by rw [hb.out];omega
 have hl0:a%16-m%16-(1-p%2)=a%16-m%16-1+p%2:=by omega
 have HL0:=hide hl0;clear hl0;go_enter Tryz.func260,Tryz.ntmps260;go_wp2_with fail;refine (zgi a m _ _ _ h1.1 h1.2 (heap_alloc_new _ _)).mono ?_;rintro e w1 ⟨rfl,hv,b1⟩;rw [hb.out] at hv b1 ⊢;rw [HL0.out] at hv ⊢;have B1:Below w.heap.size w w1:=((Below.refl _ w).alloc (Nat.le_refl _) _).trans b1;generalize hl:a%16-m%16-1+p%2=l at *;have hc:=zlB l;have HL:=hide hl;clear hl b1 h0 h1;go_wp2_with fail;refine (zgi _ _ _ _ _ hc.1 hc.2 hv).mono ?_;rintro e w2 ⟨rfl,hv2,b2⟩;have B2:Below w.heap.size w w2:=B1.trans b2;have ea:a/16%16=a/16:=by omega
 have em:m/16%16=m/16:=by omega
 rw [ea,em] at hv2 ⊢;generalize hh:a/16-m/16-zbL l=h at *;have HH:=hide hh;clear hh b2 B1 hv ea em;have cell:=cell_of_one hv2;have r1:0≤zcy l%16∧zcy l%16≤15:=by omega
 have r2:0≤zcy h%16∧zcy h%16≤15:=by omega
 have er:=hide (zha 4 (zcy h%16*16) (zcy l%16) (by omega) (by omega) (by omega) (by omega) (by omega) (by omega));have ec:=hide (zlA h);go_wp2_with (first|(go_at_call 236;refine (zbA _ _ _ _ (by repeat (first|assumption|exact zaf _|exact zba _ _|refine zaK _ ?_ ?_|(unfold zaX;omega))) (by unfold zaX;omega)).mono ?_;rintro e w' ⟨rfl,rfl⟩)|(go_at_call 200;refine (zcQ _ _ _).mono ?_;rintro e w' ⟨rfl,rfl⟩));go_ret2;refine ⟨zdU ?_ ?_,B2⟩
 ·rw [er.out];unfold zjp;simp only [HL.out,HH.out]
 ·rw [er.out,ec.out];unfold zjp;simp only [HL.out,HH.out]
theorem d_of (p:Int):(bits .and .i64 p 8 != 0)=decide (p/8%2=1):=by
 rw [and_8,Bool.eq_iff_iff];simp;omega
theorem zyT (a m p:Int) (w:World) (ha:zao a) (hm:zao m) (hp:zao p):
  Calls Tryz.prog 237 #[.int .i64 a,.int .i64 m,.int .i64 p] w fun e w'=>e=.returned (.tuple #[.int .i64 (ziT a m p).1,.int .i64 (ziT a m p).2])∧Below w.heap.size w w':=by
 have hd:=d_of p
 by_cases h:p/8%2=1
 ·have e:ziT a m p=zjo a m p:=by unfold ziT;rw [if_pos h]
  rw [e];simp only [h,decide_true] at hd;clear h e;go_enter Tryz.func237,Tryz.ntmps237;go_wp2_with (first|(go_at_call 259;refine (zpL _ _ _ _ ha hm hp).mono ?_;rintro e w' ⟨rfl,b1⟩));go_ret2;exact ⟨rfl,b1⟩
 ·have e:ziT a m p=zwY a m p:=by unfold ziT;rw [if_neg h]
  rw [e];simp only [h,decide_false] at hd;clear h e;have a0:=ha.1;have a1:=ha.2;have m0:=hm.1;have m1:=hm.2;have hb:=hide (zho p);have h1:0≤bits .and .i64 p 1∧bits .and .i64 p 1≤1:=by rw [hb.out];omega
  go_enter Tryz.func237,Tryz.ntmps237;go_wp2_with (first|(go_at_call 69;refine (zam _ _).mono ?_;rintro e w' ⟨rfl,rfl⟩)|(go_at_call 236;refine (zbA _ _ _ _ (by repeat (first|assumption|exact zaf _|exact zba _ _|refine zaK _ ?_ ?_|(unfold zaX;omega))) (by unfold zaX;omega)).mono ?_;rintro e w' ⟨rfl,rfl⟩)|(go_at_call 200;refine (zcQ _ _ _).mono ?_;rintro e w' ⟨rfl,rfl⟩));go_ret2;rw [hb.out];have hr:=zaf (a+m+p%2);have hc:decide ((a+m+p%2)%256<a+m+p%2)=decide (255<a+m+p%2):=by rw [Bool.eq_iff_iff];simp;omega
  refine ⟨zdU rfl ?_,Below.refl _ _⟩;rw [hc,v_add ha hm hr,zdy _ _ (zaK _ hp f1) (.inr rfl),zdy _ _ hp (.inl rfl)];rfl
theorem zyU (a m p:Int) (w:World) (ha:zao a) (hm:zao m) (hp:zao p):
  Calls Tryz.prog 238 #[.int .i64 a,.int .i64 m,.int .i64 p] w fun e w'=>e=.returned (.tuple #[.int .i64 (ziU a m p).1,.int .i64 (ziU a m p).2])∧Below w.heap.size w w':=by
 have hd:=d_of p
 by_cases h:p/8%2=1
 ·have e:ziU a m p=zjp a m p:=by unfold ziU;rw [if_pos h]
  rw [e];simp only [h,decide_true] at hd;clear h e;go_enter Tryz.func238,Tryz.ntmps238;go_wp2_with (first|(go_at_call 260;refine (zpM _ _ _ _ ha hm hp).mono ?_;rintro e w' ⟨rfl,b1⟩));go_ret2;exact ⟨rfl,b1⟩
 ·have e:ziU a m p=zwZ a m p:=by unfold ziU;rw [if_neg h]
  rw [e];simp only [h,decide_false] at hd;clear h e;have a0:=ha.1;have a1:=ha.2;have m0:=hm.1;have m1:=hm.2;have hb:=hide (zho p);have h1:0≤bits .and .i64 p 1∧bits .and .i64 p 1≤1:=by rw [hb.out];omega
  go_enter Tryz.func238,Tryz.ntmps238;go_wp2_with (first|(go_at_call 69;refine (zam _ _).mono ?_;rintro e w' ⟨rfl,rfl⟩)|(go_at_call 236;refine (zbA _ _ _ _ (by repeat (first|assumption|exact zaf _|exact zba _ _|refine zaK _ ?_ ?_|(unfold zaX;omega))) (by unfold zaX;omega)).mono ?_;rintro e w' ⟨rfl,rfl⟩)|(go_at_call 200;refine (zcQ _ _ _).mono ?_;rintro e w' ⟨rfl,rfl⟩));go_ret2;rw [hb.out];have hr:=zaf (a-m-1+p%2);refine ⟨zdU rfl ?_,Below.refl _ _⟩;rw [v_sub ha hm hr,zdy _ _ (zaK _ hp f1) (.inr rfl),zdy _ _ hp (.inl rfl)];rfl
theorem zgj {op:Int} (h:op<0∨15<op) (a m p:Int):doOf op a m p=(a,p):=by
 unfold doOf
 iterate 16 rw [if_neg (by omega)]
theorem do_0 (a m p:Int) (w:World):
  Calls Tryz.prog 201 #[.int .i64 0,.int .i64 a,.int .i64 m,.int .i64 p] w fun e w'=>e=.returned (.tuple #[.int .i64 (doOf 0 (a%256) (m%256) (p%256)).1,.int .i64 (doOf 0 (a%256) (m%256) (p%256)).2])∧Below w.heap.size w w':=by
 have ha:=zaf a;have hm:=zaf m;have hp:=zaf p;go_enter Tryz.func201,Tryz.ntmps201;go_wp2_with (first|(go_at_call 69;refine (zam _ _).mono ?_;rintro e w' ⟨rfl,rfl⟩)|(go_at_call 236;refine (zbA _ _ _ _ (by repeat (first|assumption|exact zaf _|exact zba _ _|refine zaK _ ?_ ?_|(unfold zaX;omega))) (by unfold zaX;omega)).mono ?_;rintro e w' ⟨rfl,rfl⟩)|(go_at_call 200;refine (zcQ _ _ _).mono ?_;rintro e w' ⟨rfl,rfl⟩)|(go_at_call 239;refine (zbM _ _ _ _ (zaf _) (zaf _)).mono ?_;rintro e w' ⟨rfl,rfl⟩));go_ret2;rw [or_B ha hm];exact ⟨rfl,Below.refl _ _⟩
theorem do_1 (a m p:Int) (w:World):
  Calls Tryz.prog 201 #[.int .i64 1,.int .i64 a,.int .i64 m,.int .i64 p] w fun e w'=>e=.returned (.tuple #[.int .i64 (doOf 1 (a%256) (m%256) (p%256)).1,.int .i64 (doOf 1 (a%256) (m%256) (p%256)).2])∧Below w.heap.size w w':=by
 have ha:=zaf a;have hm:=zaf m;have hp:=zaf p;go_enter Tryz.func201,Tryz.ntmps201;go_wp2_with (first|(go_at_call 69;refine (zam _ _).mono ?_;rintro e w' ⟨rfl,rfl⟩)|(go_at_call 236;refine (zbA _ _ _ _ (by repeat (first|assumption|exact zaf _|exact zba _ _|refine zaK _ ?_ ?_|(unfold zaX;omega))) (by unfold zaX;omega)).mono ?_;rintro e w' ⟨rfl,rfl⟩)|(go_at_call 200;refine (zcQ _ _ _).mono ?_;rintro e w' ⟨rfl,rfl⟩)|(go_at_call 239;refine (zbM _ _ _ _ (zaf _) (zaf _)).mono ?_;rintro e w' ⟨rfl,rfl⟩));go_ret2;rw [zpF ha hm];exact ⟨rfl,Below.refl _ _⟩
theorem do_2 (a m p:Int) (w:World):
  Calls Tryz.prog 201 #[.int .i64 2,.int .i64 a,.int .i64 m,.int .i64 p] w fun e w'=>e=.returned (.tuple #[.int .i64 (doOf 2 (a%256) (m%256) (p%256)).1,.int .i64 (doOf 2 (a%256) (m%256) (p%256)).2])∧Below w.heap.size w w':=by
 have ha:=zaf a;have hm:=zaf m;have hp:=zaf p;go_enter Tryz.func201,Tryz.ntmps201;go_wp2_with (first|(go_at_call 69;refine (zam _ _).mono ?_;rintro e w' ⟨rfl,rfl⟩)|(go_at_call 236;refine (zbA _ _ _ _ (by repeat (first|assumption|exact zaf _|exact zba _ _|refine zaK _ ?_ ?_|(unfold zaX;omega))) (by unfold zaX;omega)).mono ?_;rintro e w' ⟨rfl,rfl⟩)|(go_at_call 200;refine (zcQ _ _ _).mono ?_;rintro e w' ⟨rfl,rfl⟩)|(go_at_call 239;refine (zbM _ _ _ _ (zaf _) (zaf _)).mono ?_;rintro e w' ⟨rfl,rfl⟩));go_ret2;rw [zsA ha hm];exact ⟨rfl,Below.refl _ _⟩
theorem do_3 (a m p:Int) (w:World):
  Calls Tryz.prog 201 #[.int .i64 3,.int .i64 a,.int .i64 m,.int .i64 p] w fun e w'=>e=.returned (.tuple #[.int .i64 (doOf 3 (a%256) (m%256) (p%256)).1,.int .i64 (doOf 3 (a%256) (m%256) (p%256)).2])∧Below w.heap.size w w':=by
 have ha:=zaf a;have hm:=zaf m;have hp:=zaf p;go_enter Tryz.func201,Tryz.ntmps201;go_wp2_with (first|(go_at_call 69;refine (zam _ _).mono ?_;rintro e w' ⟨rfl,rfl⟩)|(go_at_call 237;refine (zyT _ _ _ _ (zaf _) (zaf _) (zaf _)).mono ?_;rintro e w' ⟨rfl,b1⟩));go_ret2;exact ⟨rfl,b1⟩
theorem do_4 (a m p:Int) (w:World):
  Calls Tryz.prog 201 #[.int .i64 4,.int .i64 a,.int .i64 m,.int .i64 p] w fun e w'=>e=.returned (.tuple #[.int .i64 (doOf 4 (a%256) (m%256) (p%256)).1,.int .i64 (doOf 4 (a%256) (m%256) (p%256)).2])∧Below w.heap.size w w':=by
 have ha:=zaf a;have hm:=zaf m;have hp:=zaf p;go_enter Tryz.func201,Tryz.ntmps201;go_wp2_with (first|(go_at_call 69;refine (zam _ _).mono ?_;rintro e w' ⟨rfl,rfl⟩)|(go_at_call 238;refine (zyU _ _ _ _ (zaf _) (zaf _) (zaf _)).mono ?_;rintro e w' ⟨rfl,b1⟩));go_ret2;exact ⟨rfl,b1⟩
theorem do_5 (a m p:Int) (w:World):
  Calls Tryz.prog 201 #[.int .i64 5,.int .i64 a,.int .i64 m,.int .i64 p] w fun e w'=>e=.returned (.tuple #[.int .i64 (doOf 5 (a%256) (m%256) (p%256)).1,.int .i64 (doOf 5 (a%256) (m%256) (p%256)).2])∧Below w.heap.size w w':=by
 have ha:=zaf a;have hm:=zaf m;have hp:=zaf p;go_enter Tryz.func201,Tryz.ntmps201;go_wp2_with (first|(go_at_call 69;refine (zam _ _).mono ?_;rintro e w' ⟨rfl,rfl⟩)|(go_at_call 236;refine (zbA _ _ _ _ (by repeat (first|assumption|exact zaf _|exact zba _ _|refine zaK _ ?_ ?_|(unfold zaX;omega))) (by unfold zaX;omega)).mono ?_;rintro e w' ⟨rfl,rfl⟩)|(go_at_call 200;refine (zcQ _ _ _).mono ?_;rintro e w' ⟨rfl,rfl⟩)|(go_at_call 239;refine (zbM _ _ _ _ (zaf _) (zaf _)).mono ?_;rintro e w' ⟨rfl,rfl⟩));go_ret2;exact ⟨zdU rfl (zdy _ _ hp (.inl rfl)),Below.refl _ _⟩
theorem do_6 (a m p:Int) (w:World):
  Calls Tryz.prog 201 #[.int .i64 6,.int .i64 a,.int .i64 m,.int .i64 p] w fun e w'=>e=.returned (.tuple #[.int .i64 (doOf 6 (a%256) (m%256) (p%256)).1,.int .i64 (doOf 6 (a%256) (m%256) (p%256)).2])∧Below w.heap.size w w':=by
 have ha:=zaf a;have hm:=zaf m;have hp:=zaf p;go_enter Tryz.func201,Tryz.ntmps201;go_wp2_with (first|(go_at_call 69;refine (zam _ _).mono ?_;rintro e w' ⟨rfl,rfl⟩)|(go_at_call 236;refine (zbA _ _ _ _ (by repeat (first|assumption|exact zaf _|exact zba _ _|refine zaK _ ?_ ?_|(unfold zaX;omega))) (by unfold zaX;omega)).mono ?_;rintro e w' ⟨rfl,rfl⟩)|(go_at_call 200;refine (zcQ _ _ _).mono ?_;rintro e w' ⟨rfl,rfl⟩)|(go_at_call 239;refine (zbM _ _ _ _ (zaf _) (zaf _)).mono ?_;rintro e w' ⟨rfl,rfl⟩));go_ret2;rw [zpF ha hm];exact ⟨rfl,Below.refl _ _⟩
theorem do_7 (a m p:Int) (w:World):
  Calls Tryz.prog 201 #[.int .i64 7,.int .i64 a,.int .i64 m,.int .i64 p] w fun e w'=>e=.returned (.tuple #[.int .i64 (doOf 7 (a%256) (m%256) (p%256)).1,.int .i64 (doOf 7 (a%256) (m%256) (p%256)).2])∧Below w.heap.size w w':=by
 have ha:=zaf a;have hm:=zaf m;have hp:=zaf p;go_enter Tryz.func201,Tryz.ntmps201;go_wp2_with (first|(go_at_call 69;refine (zam _ _).mono ?_;rintro e w' ⟨rfl,rfl⟩)|(go_at_call 236;refine (zbA _ _ _ _ (by repeat (first|assumption|exact zaf _|exact zba _ _|refine zaK _ ?_ ?_|(unfold zaX;omega))) (by unfold zaX;omega)).mono ?_;rintro e w' ⟨rfl,rfl⟩)|(go_at_call 200;refine (zcQ _ _ _).mono ?_;rintro e w' ⟨rfl,rfl⟩)|(go_at_call 239;refine (zbM _ _ _ _ (zaf _) (zaf _)).mono ?_;rintro e w' ⟨rfl,rfl⟩));go_ret2;rw [or_comm,or_B ha hm];exact ⟨rfl,Below.refl _ _⟩
theorem do_8 (a m p:Int) (w:World):
  Calls Tryz.prog 201 #[.int .i64 8,.int .i64 a,.int .i64 m,.int .i64 p] w fun e w'=>e=.returned (.tuple #[.int .i64 (doOf 8 (a%256) (m%256) (p%256)).1,.int .i64 (doOf 8 (a%256) (m%256) (p%256)).2])∧Below w.heap.size w w':=by
 have ha:=zaf a;have hm:=zaf m;have hp:=zaf p;go_enter Tryz.func201,Tryz.ntmps201;go_wp2_with (first|(go_at_call 69;refine (zam _ _).mono ?_;rintro e w' ⟨rfl,rfl⟩)|(go_at_call 236;refine (zbA _ _ _ _ (by repeat (first|assumption|exact zaf _|exact zba _ _|refine zaK _ ?_ ?_|(unfold zaX;omega))) (by unfold zaX;omega)).mono ?_;rintro e w' ⟨rfl,rfl⟩)|(go_at_call 200;refine (zcQ _ _ _).mono ?_;rintro e w' ⟨rfl,rfl⟩)|(go_at_call 239;refine (zbM _ _ _ _ (zaf _) (zaf _)).mono ?_;rintro e w' ⟨rfl,rfl⟩));go_ret2;rw [znF hm ha];exact ⟨rfl,Below.refl _ _⟩
theorem do_9 (a m p:Int) (w:World):
  Calls Tryz.prog 201 #[.int .i64 9,.int .i64 a,.int .i64 m,.int .i64 p] w fun e w'=>e=.returned (.tuple #[.int .i64 (doOf 9 (a%256) (m%256) (p%256)).1,.int .i64 (doOf 9 (a%256) (m%256) (p%256)).2])∧Below w.heap.size w w':=by
 have ha:=zaf a;have hm:=zaf m;have hp:=zaf p;go_enter Tryz.func201,Tryz.ntmps201;go_wp2_with (first|(go_at_call 69;refine (zam _ _).mono ?_;rintro e w' ⟨rfl,rfl⟩)|(go_at_call 240;refine (zgh _ (a%256) _ _ _ (by omega) (zaf _) (zaf _)).mono ?_;rintro e w' ⟨rfl,rfl⟩));go_ret2;exact ⟨rfl,Below.refl _ _⟩
theorem do_10 (a m p:Int) (w:World):
  Calls Tryz.prog 201 #[.int .i64 10,.int .i64 a,.int .i64 m,.int .i64 p] w fun e w'=>e=.returned (.tuple #[.int .i64 (doOf 10 (a%256) (m%256) (p%256)).1,.int .i64 (doOf 10 (a%256) (m%256) (p%256)).2])∧Below w.heap.size w w':=by
 have ha:=zaf a;have hm:=zaf m;have hp:=zaf p;go_enter Tryz.func201,Tryz.ntmps201;go_wp2_with (first|(go_at_call 69;refine (zam _ _).mono ?_;rintro e w' ⟨rfl,rfl⟩)|(go_at_call 240;refine (zgh _ (a%256) _ _ _ (by omega) (zaf _) (zaf _)).mono ?_;rintro e w' ⟨rfl,rfl⟩));go_ret2;exact ⟨rfl,Below.refl _ _⟩
theorem do_11 (a m p:Int) (w:World):
  Calls Tryz.prog 201 #[.int .i64 11,.int .i64 a,.int .i64 m,.int .i64 p] w fun e w'=>e=.returned (.tuple #[.int .i64 (doOf 11 (a%256) (m%256) (p%256)).1,.int .i64 (doOf 11 (a%256) (m%256) (p%256)).2])∧Below w.heap.size w w':=by
 have ha:=zaf a;have hm:=zaf m;have hp:=zaf p;go_enter Tryz.func201,Tryz.ntmps201;go_wp2_with (first|(go_at_call 69;refine (zam _ _).mono ?_;rintro e w' ⟨rfl,rfl⟩)|(go_at_call 240;refine (zgh _ (a%256) _ _ _ (by omega) (zaf _) (zaf _)).mono ?_;rintro e w' ⟨rfl,rfl⟩));go_ret2;exact ⟨rfl,Below.refl _ _⟩
theorem do_12 (a m p:Int) (w:World):
  Calls Tryz.prog 201 #[.int .i64 12,.int .i64 a,.int .i64 m,.int .i64 p] w fun e w'=>e=.returned (.tuple #[.int .i64 (doOf 12 (a%256) (m%256) (p%256)).1,.int .i64 (doOf 12 (a%256) (m%256) (p%256)).2])∧Below w.heap.size w w':=by
 have ha:=zaf a;have hm:=zaf m;have hp:=zaf p;go_enter Tryz.func201,Tryz.ntmps201;go_wp2_with (first|(go_at_call 69;refine (zam _ _).mono ?_;rintro e w' ⟨rfl,rfl⟩)|(go_at_call 240;refine (zgh _ (a%256) _ _ _ (by omega) (zaf _) (zaf _)).mono ?_;rintro e w' ⟨rfl,rfl⟩));go_ret2;exact ⟨rfl,Below.refl _ _⟩
theorem do_13 (a m p:Int) (w:World):
  Calls Tryz.prog 201 #[.int .i64 13,.int .i64 a,.int .i64 m,.int .i64 p] w fun e w'=>e=.returned (.tuple #[.int .i64 (doOf 13 (a%256) (m%256) (p%256)).1,.int .i64 (doOf 13 (a%256) (m%256) (p%256)).2])∧Below w.heap.size w w':=by
 have ha:=zaf a;have hm:=zaf m;have hp:=zaf p;go_enter Tryz.func201,Tryz.ntmps201;go_wp2_with (first|(go_at_call 69;refine (zam _ _).mono ?_;rintro e w' ⟨rfl,rfl⟩)|(go_at_call 236;refine (zbA _ _ _ _ (by repeat (first|assumption|exact zaf _|exact zba _ _|refine zaK _ ?_ ?_|(unfold zaX;omega))) (by unfold zaX;omega)).mono ?_;rintro e w' ⟨rfl,rfl⟩)|(go_at_call 200;refine (zcQ _ _ _).mono ?_;rintro e w' ⟨rfl,rfl⟩)|(go_at_call 239;refine (zbM _ _ _ _ (zaf _) (zaf _)).mono ?_;rintro e w' ⟨rfl,rfl⟩));go_ret2;have h13:(m+1)%256=(m%256+1)%256:=by omega
 exact ⟨zdU h13 (by show _=nzOf (p%256) ((m%256+1)%256);rw [znG]),Below.refl _ _⟩
theorem do_14 (a m p:Int) (w:World):
  Calls Tryz.prog 201 #[.int .i64 14,.int .i64 a,.int .i64 m,.int .i64 p] w fun e w'=>e=.returned (.tuple #[.int .i64 (doOf 14 (a%256) (m%256) (p%256)).1,.int .i64 (doOf 14 (a%256) (m%256) (p%256)).2])∧Below w.heap.size w w':=by
 have ha:=zaf a;have hm:=zaf m;have hp:=zaf p;go_enter Tryz.func201,Tryz.ntmps201;go_wp2_with (first|(go_at_call 69;refine (zam _ _).mono ?_;rintro e w' ⟨rfl,rfl⟩)|(go_at_call 236;refine (zbA _ _ _ _ (by repeat (first|assumption|exact zaf _|exact zba _ _|refine zaK _ ?_ ?_|(unfold zaX;omega))) (by unfold zaX;omega)).mono ?_;rintro e w' ⟨rfl,rfl⟩)|(go_at_call 200;refine (zcQ _ _ _).mono ?_;rintro e w' ⟨rfl,rfl⟩)|(go_at_call 239;refine (zbM _ _ _ _ (zaf _) (zaf _)).mono ?_;rintro e w' ⟨rfl,rfl⟩));go_ret2;have h14:(m%256+255)%256=(m%256-1)%256:=by omega
 have h14':(m-1)%256=(m%256+255)%256:=by omega
 exact ⟨zdU h14' (by show _=nzOf (p%256) ((m%256+255)%256);rw [h14,znG]),Below.refl _ _⟩
theorem do_15 (a m p:Int) (w:World):
  Calls Tryz.prog 201 #[.int .i64 15,.int .i64 a,.int .i64 m,.int .i64 p] w fun e w'=>e=.returned (.tuple #[.int .i64 (doOf 15 (a%256) (m%256) (p%256)).1,.int .i64 (doOf 15 (a%256) (m%256) (p%256)).2])∧Below w.heap.size w w':=by
 have ha:=zaf a;have hm:=zaf m;have hp:=zaf p;go_enter Tryz.func201,Tryz.ntmps201;go_wp2_with (first|(go_at_call 69;refine (zam _ _).mono ?_;rintro e w' ⟨rfl,rfl⟩)|(go_at_call 236;refine (zbA _ _ _ _ (by repeat (first|assumption|exact zaf _|exact zba _ _|refine zaK _ ?_ ?_|(unfold zaX;omega))) (by unfold zaX;omega)).mono ?_;rintro e w' ⟨rfl,rfl⟩)|(go_at_call 200;refine (zcQ _ _ _).mono ?_;rintro e w' ⟨rfl,rfl⟩)|(go_at_call 239;refine (zbM _ _ _ _ (zaf _) (zaf _)).mono ?_;rintro e w' ⟨rfl,rfl⟩));go_ret2;exact ⟨rfl,Below.refl _ _⟩
theorem zBK (op a m p:Int) (w:World) (h:op<0):
  Calls Tryz.prog 201 #[.int .i64 op,.int .i64 a,.int .i64 m,.int .i64 p] w fun e w'=>e=.returned (.tuple #[.int .i64 (doOf op (a%256) (m%256) (p%256)).1,.int .i64 (doOf op (a%256) (m%256) (p%256)).2])∧Below w.heap.size w w':=by
 rw [zgj (by omega)];go_enter Tryz.func201,Tryz.ntmps201;go_wp2_with (first|(go_at_call 69;refine (zam _ _).mono ?_;rintro e w' ⟨rfl,rfl⟩));go_ret2;exact ⟨rfl,Below.refl _ _⟩
theorem zyV (op a m p:Int) (w:World) (h:15<op):
  Calls Tryz.prog 201 #[.int .i64 op,.int .i64 a,.int .i64 m,.int .i64 p] w fun e w'=>e=.returned (.tuple #[.int .i64 (doOf op (a%256) (m%256) (p%256)).1,.int .i64 (doOf op (a%256) (m%256) (p%256)).2])∧Below w.heap.size w w':=by
 rw [zgj (by omega)];go_enter Tryz.func201,Tryz.ntmps201;go_wp2_with (first|(go_at_call 69;refine (zam _ _).mono ?_;rintro e w' ⟨rfl,rfl⟩));go_ret2;exact ⟨rfl,Below.refl _ _⟩
theorem zsJ (op:Int):op=0∨op=1∨op=2∨op=3∨op=4∨op=5∨op=6∨op=7∨op=8∨op=9∨op=10∨op=11∨op=12∨op=13∨op=14∨op=15∨op<0∨15<op:=by omega
theorem zBL (op a m p:Int) (w:World):
  Calls Tryz.prog 201 #[.int .i64 op,.int .i64 a,.int .i64 m,.int .i64 p] w fun e w'=>e=.returned (.tuple #[.int .i64 (doOf op (a%256) (m%256) (p%256)).1,.int .i64 (doOf op (a%256) (m%256) (p%256)).2])∧Below w.heap.size w w':=by
 rcases zsJ op with rfl|rfl|rfl|rfl|rfl|rfl|rfl|rfl|rfl|rfl|rfl|rfl|rfl|rfl|rfl|rfl|h|h
 ·exact do_0 a m p w
 ·exact do_1 a m p w
 ·exact do_2 a m p w
 ·exact do_3 a m p w
 ·exact do_4 a m p w
 ·exact do_5 a m p w
 ·exact do_6 a m p w
 ·exact do_7 a m p w
 ·exact do_8 a m p w
 ·exact do_9 a m p w
 ·exact do_10 a m p w
 ·exact do_11 a m p w
 ·exact do_12 a m p w
 ·exact do_13 a m p w
 ·exact do_14 a m p w
 ·exact do_15 a m p w
 ·exact zBK op a m p w h
 ·exact zyV op a m p w h
theorem b0:zao 0:=⟨by decide,by decide⟩
theorem znL (p:Int) (on:Bool):zbG p 1 on%2=b01 on:=by
 unfold zbG b01;cases on<;>simp<;>omega
theorem zsK [Decidable P] (h:P):b01 (decide P)=1:=by simp [b01,h]
theorem zxd [Decidable P] (h:¬P):b01 (decide P)=0:=by simp [b01,h]
def zBM (v:Int):Int:=v*2%512+v/256
def zBN (v:Int):Int:=v/2+v%2*256
theorem rol_step (q:Int) (hx:zao x):∃r s,doOf 10 0 x q=(r,s)∧zao r∧zao s∧r+256*(s%2)=zBM (x+256*(q%2)):=by
 refine ⟨_,_,rfl,?_,zaK _ (zba _ _) f1,?_⟩
 ·obtain ⟨h0,h1⟩:=hx;exact ⟨by omega,by omega⟩
 ·rw [znL];obtain ⟨h0,h1⟩:=hx;unfold zBM
  by_cases h:128≤x
  ·rw [zsK h];omega
  ·rw [zxd h];omega
theorem ror_step (q:Int) (hx:zao x):∃r s,doOf 12 0 x q=(r,s)∧zao r∧zao s∧r+256*(s%2)=zBN (x+256*(q%2)):=by
 refine ⟨_,_,rfl,?_,zaK _ (zba _ _) f1,?_⟩
 ·obtain ⟨h0,h1⟩:=hx;exact ⟨by omega,by omega⟩
 ·rw [znL];obtain ⟨h0,h1⟩:=hx;unfold zBN
  by_cases h:x%2=1
  ·rw [zsK h];omega
  ·rw [zxd h];omega
def zhq (p q:Int):Prop:=zao q∧q/4%16=p/4%16
theorem zbs {q f:Int} (on:Bool) (h:zhq p q) (hf:zaX f):zhq p (zbG q f on):=by
 refine ⟨zaK on h.1 hf,?_⟩;rw [←h.2];unfold zbG;rcases hf with rfl|rfl|rfl|rfl<;>cases on<;>simp<;>omega
theorem zbK {q:Int} (b:Int) (h:zhq p q):zhq p (nzOf q b):=by
 unfold nzOf;rw [zge h.1];exact zbs _ (zbs _ h f128) f2
theorem zin {q:Int} (m:Int) (z:Bool) (h:zhq p q):zhq p (zsC q m z):=zbs _ (zbs _ (zbs _ h f128) f64) f2
theorem zio (x y:Int):zao (x%16*16+y%16):=⟨by omega,by omega⟩
theorem zBO {a m:Int} (hp:zao p):zao (ziT a m p).1∧zhq p (ziT a m p).2:=by
 have hk:zhq p p:=⟨hp,rfl⟩
 unfold ziT;split
 ·exact ⟨zio _ _,zbs _ (zbK _ hk) f1⟩
 ·exact ⟨zaf _,zbs _ (zbs _ (zbK _ hk) f1) f64⟩
theorem zBP {a m:Int} (hp:zao p):zao (ziU a m p).1∧zhq p (ziU a m p).2:=by
 have hk:zhq p p:=⟨hp,rfl⟩
 unfold ziU;split
 ·exact ⟨zio _ _,zbK _ (zbs _ hk f1)⟩
 ·exact ⟨zaf _,zbs _ (zbs _ (zbK _ hk) f1) f64⟩
theorem zBQ (op:Int) {a m:Int} (ha:zao a) (hm:zao m) (hp:zao p):zao (doOf op a m p).1∧zhq p (doOf op a m p).2:=by
 have hk:zhq p p:=⟨hp,rfl⟩
 have m0:=hm.1;have m1:=hm.2;rcases zsJ op with rfl|rfl|rfl|rfl|rfl|rfl|rfl|rfl|rfl|rfl|rfl|rfl|rfl|rfl|rfl|rfl|h|h
 ·exact ⟨znE ha hm,zbK _ hk⟩
 ·exact ⟨zgf hm,zbK _ hk⟩
 ·exact ⟨zcG ha hm,zbK _ hk⟩
 ·exact zBO hp
 ·exact zBP hp
 ·exact ⟨ha,zbs _ (zbK _ hk) f1⟩
 ·exact ⟨ha,zin _ _ hk⟩
 ·exact ⟨znE ha hm,zin _ _ hk⟩
 ·exact ⟨zsz hm ha,zin _ _ hk⟩
 ·exact ⟨zaf _,zbs _ (zbK _ hk) f1⟩
 ·exact ⟨⟨by show 0≤m*2%256+p%2;omega,by show m*2%256+p%2<256;omega⟩,zbs _ (zbK _ hk) f1⟩
 ·exact ⟨⟨by show 0≤m/2;omega,by show m/2<256;omega⟩,zbs _ (zbK _ hk) f1⟩
 ·exact ⟨⟨by show 0≤m/2+p%2*128;omega,by show m/2+p%2*128<256;omega⟩,zbs _ (zbK _ hk) f1⟩
 ·exact ⟨zaf _,zbK _ hk⟩
 ·exact ⟨zaf _,zbK _ hk⟩
 ·exact ⟨hm,zbK _ hk⟩
 ·rw [zgj (.inl h)];exact ⟨ha,hk⟩
 ·rw [zgj (.inr h)];exact ⟨ha,hk⟩
end Go.Proofs.YtdiidjehdginnaaGreatDoor.A2
namespace Go.Proofs.YtdiidjehdginnaaGreatDoor
set_option maxRecDepth 20000
open Go.RowKit
set_option linter.unusedVariables false
variable {a:Act} {nm:ByteArray} {c:Code} {Q:Exit→Act→World→Prop} {ks:List Nat} {N d x:Nat} {P:Program} {w:World}
def AlikeF (ks:List Nat) (a b:Act):Prop:=b.tmps.size=a.tmps.size∧b.defers=a.defers∧∀k,k ∈ ks→b.tmps[k]? = a.tmps[k]?
theorem AlikeF.refl (ks:List Nat) (a:Act):AlikeF ks a a:=⟨rfl,rfl,fun _ _=>rfl⟩
theorem AlikeF.trans {b c:Act} (h:AlikeF ks a b) (k:AlikeF ks b c):AlikeF ks a c:=⟨k.1.trans h.1,k.2.1.trans h.2.1,fun i hi=>(k.2.2 i hi).trans (h.2.2 i hi)⟩
theorem AlikeF.put (a:Act) (e:Nat) (v:Value) (h:¬e ∈ ks):AlikeF ks a (a.put (some e) v):=by
 refine ⟨by simp [Act.put],rfl,fun k hk=>?_⟩;simp only [Act.put];rw [Array.getElem?_setIfInBounds_ne];intro e1;subst e1;exact h hk
def oneT (x:Nat) (ks:List Nat) (N:Nat) (s:List UInt8):Code→Option (Nat×Bool)
 |.region _ ⟨[o1,o2]⟩ false=>
  (match o1.dst,o1.op,o1.guard,o2.dst,o2.op,o2.guard with
   |some e1,.binOp .eql _ (.tmp y) (.const (.string l)) _,none,some d1,.assign (.tmp e2),none=>if (y==x&&e2==e1&&!ks.contains e1&&!ks.contains d1&&decide (e1<N)&&decide (d1<N))=true then some (d1,s==l.data.toList) else none
   |_,_,_,_,_,_=>none)
 |_=>none
theorem zsL {b:Bool} (hc:oneT x ks N nm.data.toList c=some (d,b))
  (hN:a.tmps.size=N) (hx:a.tmps[x]? = some (.string nm)) (h:∀a',AlikeF ks a a'→a'.tmps[d]? = some (.bool b)→Q .normal a' w):c.wp P Q a w:=by
 unfold oneT at hc;split at hc
 ·rename_i i o1 o2;split at hc
  ·rename_i e1 t1 y l r1 d1 e2 q1 q2 q3 q4 q5 q6;split at hc
   ·rename_i hb;simp only [Bool.and_eq_true,beq_iff_eq,decide_eq_true_eq] at hb;obtain ⟨⟨⟨⟨⟨rfl,rfl⟩,k1⟩,k2⟩,k3⟩,k4⟩:=hb;simp only [Option.some.injEq,Prod.mk.injEq] at hc;obtain ⟨rfl,rfl⟩:=hc;have ex:a.eval (.tmp y)=.string nm:=by
     show a.tmps.getD y undef=_;rw [Array.getD_eq_getD_getElem?,hx];rfl
    refine wp_region_list ?_;show wpList P _ Q [o1,o2] a w;refine wpList_plain q3 fun K hK=>?_
    unfold Oper.wp;have r1:(execOp a.eval o1).run P w=.ok (.value (.bool (nm.data.toList==l.data.toList))) w:=by
     unfold execOp;simp only [q2,ex];rw [show a.eval (.const (.string l))=.string l from rfl,show ∀t z z',eqGuard .eql t z z' (.string nm) (.string l)=pure () from fun _ _ _=>rfl];simp [binOp_string_eql,ByteArray.toList_eq]
    rw [r1,Oper.upon_value,q1];refine hK _ _ ?_;refine wpList_plain q6 fun K2 hK2=>?_
    unfold Oper.wp;have r2:(execOp (a.put (some e2) (.bool (nm.data.toList==l.data.toList))).eval o2).run P w=.ok (.value (.bool (nm.data.toList==l.data.toList))) w:=by
     unfold execOp;simp only [q5]
     rw [show (a.put (some e2) (.bool (nm.data.toList==l.data.toList))).eval (.tmp e2)=.bool (nm.data.toList==l.data.toList) from by
      show (a.tmps.setIfInBounds e2 _).getD e2 undef=_;rw [Array.getD_eq_getD_getElem?,Array.getElem?_setIfInBounds_self_of_lt (by rw [hN];exact k3)]
      rfl]
     simp
    rw [r2,Oper.upon_value,q4];refine hK2 _ _ (wpList_nil (h _ ((AlikeF.put _ _ _ (by simpa using k1)).trans (AlikeF.put _ _ _ (by simpa using k2))) ?_));show (((a.tmps.setIfInBounds e2 _).setIfInBounds d1 _))[d1]? = _;rw [Array.getElem?_setIfInBounds_self_of_lt (by rw [Array.size_setIfInBounds,hN];exact k4)]
   ·cases hc
  ·cases hc
 ·cases hc
def tstT (x:Nat) (ks:List Nat) (N:Nat) (s:List UInt8):Code→Option (Nat×Bool)
 |.seq c (.cond (.tmp d1) .skip c2)=>
  (match oneT x ks N s c,tstT x ks N s c2 with
   |some (d,b),some (d',b')=>if (d1==d&&d'==d)=true then some (d,b||b') else none
   |_,_=>none)
 |c=>oneT x ks N s c
theorem zsM (hxk:x ∈ ks):
  ∀(c:Code) (d:Nat) (b:Bool) (Q:Exit→Act→World→Prop) (a:Act),tstT x ks N nm.data.toList c=some (d,b)→a.tmps.size=N→a.tmps[x]? = some (.string nm)→(∀a',AlikeF ks a a'→a'.tmps[d]? = some (.bool b)→Q .normal a' w)→c.wp P Q a w:=by
 intro c
 induction c using tstT.induct x ks N nm.data.toList with
 |case1 c d1 c2 d b d' b' h2 h1 hb ih=>
  intro dd bb Q a hc hN hx h;unfold tstT at hc;rw [h1,h2] at hc;simp only [hb,if_true,Option.some.injEq,Prod.mk.injEq] at hc;obtain ⟨rfl,rfl⟩:=hc;simp only [Bool.and_eq_true,beq_iff_eq] at hb;obtain ⟨rfl,rfl⟩:=hb;refine wp_seq (zsL h1 hN hx fun a1 k1 k2=>?_);have ed:a1.eval (.tmp d')=.bool b:=by
   show a1.tmps.getD d' undef=_;rw [Array.getD_eq_getD_getElem?,k2];rfl
  refine wp_cond_split ed (fun ht=>?_) (fun hf=>?_)
  ·exact wp_skip (h a1 k1 (by rw [k2,ht];rfl))
  ·refine ih _ _ Q a1 h2 (k1.1.trans hN) ((k1.2.2 x hxk).trans hx) fun a2 k3 k4=>h a2 (k1.trans k3) ?_
   rw [k4,hf];rfl
 |case2 c d1 c2 d b d' b' h2 h1 hb ih=>
  intro dd bb Q a hc;unfold tstT at hc;rw [h1,h2] at hc;simp only [hb] at hc;simp at hc
 |case3 c d1 c2 hno ih=>
  intro dd bb Q a hc;unfold tstT at hc;split at hc
  ·rename_i p1 p2;exact (hno _ _ _ _ p1 p2).elim
  ·cases hc
 |case4 c hno=>
  intro dd bb Q a hc hN hx h;rw [tstT] at hc
  ·exact zsL hc hN hx h
  ·exact hno
def zpN (x:Nat) (ks:List Nat) (N:Nat) (s:List UInt8):Nat→Code→Bool
 |0,_=>true
 |k+1,.seq c (.cond (.tmp d) _ c2)=>(tstT x ks N s c==some (d,false))&&zpN x ks N s k c2
 |_+1,_=>false
def zgO:Nat→Code→Code
 |0,c=>c
 |k+1,.seq _ (.cond _ _ c2)=>zgO k c2
 |_+1,c=>c
theorem zyW (hxk:x ∈ ks):
  ∀(k:Nat) (c:Code) (a:Act),zpN x ks N nm.data.toList k c=true→a.tmps.size=N→a.tmps[x]? = some (.string nm)→(∀a',AlikeF ks a a'→(zgO k c).wp P Q a' w)→c.wp P Q a w:=by
 intro k
 induction k with
 |zero=>intro c a _ _ _ h;exact h a (AlikeF.refl _ _)
 |succ k ih=>
  intro c a hc hN hx h;unfold zpN at hc;split at hc
  ·rename_i heq;cases heq
  ·rename_i k' c1 d t c2 heq;obtain rfl:k=k':=by omega
   simp only [Bool.and_eq_true,beq_iff_eq] at hc;refine wp_seq (zsM hxk c1 d false _ a hc.1 hN hx fun a1 k1 k2=>?_);have ed:a1.eval (.tmp d)=.bool false:=by
    show a1.tmps.getD d undef=_;rw [Array.getD_eq_getD_getElem?,k2];rfl
   exact wp_cond_false ed (ih c2 a1 hc.2 (k1.1.trans hN) ((k1.2.2 x hxk).trans hx) fun a2 k3=>h a2 (k1.trans k3))
  ·cases hc
def hitT (x:Nat) (ks:List Nat) (N:Nat) (s:List UInt8):Code→Bool
 |.seq c (.cond (.tmp d) _ _)=>tstT x ks N s c==some (d,true)
 |_=>false
def zkm:Code→Code
 |.seq _ (.cond _ b _)=>b
 |c=>c
theorem zBR (hxk:x ∈ ks) (c:Code) (a:Act) (hc:hitT x ks N nm.data.toList c=true)
  (hN:a.tmps.size=N) (hx:a.tmps[x]? = some (.string nm)) (h:∀a',AlikeF ks a a'→(zkm c).wp P Q a' w):c.wp P Q a w:=by
 unfold hitT at hc;split at hc
 ·rename_i c1 d b c2;simp only [beq_iff_eq] at hc;refine wp_seq (zsM hxk c1 d true _ a hc hN hx fun a1 k1 k2=>?_);have ed:a1.eval (.tmp d)=.bool true:=by
   show a1.tmps.getD d undef=_;rw [Array.getD_eq_getD_getElem?,k2];rfl
  exact wp_cond_true ed (h a1 k1)
 ·cases hc
theorem zlC (ks:List Nat) (nm:ByteArray) (k:Nat)   (hxk:ks.contains x=true) (hc:(zpN x ks N nm.data.toList k c&&hitT x ks N nm.data.toList (zgO k c))=true)
  (hN:a.tmps.size=N) (hx:a.tmps[x]? = some (.string nm)) (h:∀a',AlikeF ks a a'→(zkm (zgO k c)).wp P Q a' w):c.wp P Q a w:=by
 simp only [Bool.and_eq_true] at hc;have hxk':x ∈ ks:=by simpa using hxk
 exact zyW hxk' k c a hc.1 hN hx fun a1 k1=>zBR hxk' _ a1 hc.2 (k1.1.trans hN) ((k1.2.2 x hxk').trans hx) fun a2 k2=>h a2 (k1.trans k2)
theorem zsN (l:Array Value) (h:l.size=N):l=((List.range N).map fun i=>l.getD i undef).toArray:=by
 apply Array.ext
 ·simp [h]
 ·intro i h1 h2;simp only [List.getElem_toArray,List.getElem_map,List.getElem_range];rw [Array.getD_eq_getD_getElem?,Array.getElem?_eq_getElem h1];rfl
def zbP (k:Nat):Code→Option Code
 |.block n c=>if n=k then some c else zbP k c
 |.loop c=>zbP k c
 |.scope c=>zbP k c
 |.seq a b=>match zbP k a with|some c=>some c|none=>zbP k b
 |.cond _ a b=>match zbP k a with|some c=>some c|none=>zbP k b
 |_=>none
def retI:Code→Option (Nat×Int)
 |.seq (.region _ ⟨[o]⟩ false) .ret=>
  (match o.dst,o.op,o.guard with
   |some d,.assign (.const (.int .i64 x)),none=>some (d,x)
   |_,_,_=>none)
 |_=>none
theorem zyX {x:Int} (hc:retI c=some (d,x)) (h:Q .ret (a.put (some d) (.int .i64 x)) w):c.wp P Q a w:=by
 unfold retI at hc;split at hc
 ·rename_i i o;split at hc
  ·rename_i d1 x1 q1 q2 q3;simp only [Option.some.injEq,Prod.mk.injEq] at hc;obtain ⟨rfl,rfl⟩:=hc;refine wp_seq (wp_region_list ?_);show wpList P _ _ [o] a w;refine wpList_plain q3 fun K hK=>?_
   unfold Oper.wp;have r1:(execOp a.eval o).run P w=.ok (.value (.int .i64 x1)) w:=by
    unfold execOp;simp only [q2];rw [show a.eval (.const (.int .i64 x1))=.int .i64 x1 from rfl];simp
   rw [r1,Oper.upon_value,q1];exact hK _ _ (wpList_nil (wp_ret h))
  ·cases hc
 ·cases hc
theorem zvQ (v:Value) (h:d<a.tmps.size):(a.put (some d) v).tmps.getD d undef=v:=by
 show (a.tmps.setIfInBounds d v).getD d undef=v;rw [Array.getD_eq_getD_getElem?,Array.getElem?_setIfInBounds_self_of_lt h];rfl
end Go.Proofs.YtdiidjehdginnaaGreatDoor
namespace Go.Proofs.YtdiidjehdginnaaGreatDoor.L25
set_option maxRecDepth 20000
open A2 B4 C3 G6 I11 J23 K9 L24 M5 N8 O7 P22 R15 T10 V12 W13
open Go.RowKit
set_option linter.unusedVariables false
variable {t:Bool} {nm:ByteArray} {bs:List Int} {B I:Nat→Int} {Z:Nat→Nat→Int} {w:World}
def rgOf (l:Int):Nat:=if l=88 then 1 else if l=89 then 2 else if l=83 then 3 else 0
theorem zyY (l:Int):rgOf l<5∧¬rgOf l=4∧rgOf l<6:=by
 unfold rgOf
 repeat' split
 all_goals omega
theorem zmB (s:Nat) (l:Int) (w:World):Calls Tryz.prog 143 #[.pointer (some ⟨s,0,none⟩),.int .u8 l] w fun e w'=>e=Ending.returned (.pointer (some ⟨s,rgOf l,none⟩))∧w'=w:=by
 by_cases h1:l=88
 ·subst h1;go_enter Tryz.func143,Tryz.ntmps143;go_wp2;go_ret;exact ⟨rfl,rfl⟩
 by_cases h2:l=89
 ·subst h2;go_enter Tryz.func143,Tryz.ntmps143;go_wp2;go_ret;exact ⟨rfl,rfl⟩
 by_cases h3:l=83
 ·subst h3;go_enter Tryz.func143,Tryz.ntmps143;go_wp2;go_ret;exact ⟨rfl,rfl⟩
 rw [show rgOf l=0 by unfold rgOf;rw [if_neg h1,if_neg h2,if_neg h3]];go_enter Tryz.func143,Tryz.ntmps143;go_wp2;go_ret;exact ⟨rfl,rfl⟩
theorem nz_in (p x:Int):zao (nzOf p x):=zba p x
def ldS (Z:Nat→Nat→Int) (k:Nat) (x:Int):Nat→Nat→Int:=setR (setR Z k x) 4 (nzOf (Z 20 4) x)
theorem zyZ {s b v c d:Nat} (h:HasQ w s b v c d bs nm I B t Z) (k:Nat) (hk:k<5) (k4:¬k=4) (x:Int) (hx:zao x):Calls Tryz.prog 142 #[.pointer (some ⟨s,0,none⟩),.pointer (some ⟨s,k,none⟩),.int .i64 x] w fun e w'=>e=Ending.returned (.tuple #[])∧HasQ w' s b v c d bs nm I B t (ldS Z k x)∧OnlyE (EQ s b v) w w':=by
 have ck:=h.reg k (by omega);have zk:=h.frz k;have h1:=h.putR k (by omega) x (zsE (h.good 20) k hk _ hx.1 hx.2);have c4:(w.setCell ⟨s,k,none⟩ (.int .i64 x)).cell? ⟨s,4,none⟩=some (.int .i64 (Z 20 4)):=by
  have q:=h1.reg 4 (by decide);rw [zkh,zbC _ _ _ _ (fun e=>k4 e.symm)] at q;exact q
 have z4:=h1.frz 4;have n4:=nz_in (Z 20 4) x;have H2:=hide (h1.putR 4 (by decide) (nzOf (Z 20 4) x) (zsE (h1.good 20) 4 (by decide) _ n4.1 n4.2));have O2:=hide (zcP (zcP (zet (s:=s) (b:=b) (v:=v) (Below.refl _ w)) k (.int .i64 x)) 4 (.int .i64 (nzOf (Z 20 4) x)));clear h h1 n4 hx;go_enter Tryz.func142,Tryz.ntmps142;go_wp2_with (first|(go_at_call 200;refine (zcQ _ _ _).mono ?_;rintro e w' ⟨rfl,rfl⟩));go_end0;exact ⟨rfl,H2.out,O2.out⟩
def mV (bs:List Int) (I:Nat→Int) (Z:Nat→Nat→Int):Int:=if I 0=2 then I 3 else if I 0=1 then Z 20 0 else rV bs Z (I 6)
def mS (I:Nat→Int) (Z:Nat→Nat→Int):Nat→Nat→Int:=if I 0=2 then Z else if I 0=1 then Z else rS Z (I 6)
theorem mS_20 (I:Nat→Int) (Z:Nat→Nat→Int):mS I Z 20=Z 20:=by
 unfold mS
 repeat' split
 ·rfl
 ·rfl
 ·exact zki _ _ _ (by decide)
theorem m_is {s b v c d:Nat} (h:HasQ w s b v c d bs nm I B t Z):Calls Tryz.prog 144 #[.pointer (some ⟨s,0,none⟩)] w fun e w'=>e=Ending.returned (.int .i64 (mV bs I Z))∧HasQ w' s b v c d bs nm I B t (mS I Z)∧OnlyE (EQ s b v) w w':=by
 have HE:=hide h;have c11:=h.mode;unfold mV mS
 by_cases h2:I 0=2
 ·rw [if_pos h2,if_pos h2];rw [h2] at c11;have c20:=h.oper;clear h h2;go_enter Tryz.func144,Tryz.ntmps144;go_wp2;go_ret;exact ⟨rfl,HE.out,zet (Below.refl _ _)⟩
 by_cases h1:I 0=1
 ·rw [if_neg h2,if_pos h1,if_neg h2,if_pos h1];rw [h1] at c11;have c0:=h.reg 0 (by decide);clear h h1 h2;go_enter Tryz.func144,Tryz.ntmps144;go_wp2;go_ret;exact ⟨rfl,HE.out,zet (Below.refl _ _)⟩
 ·rw [if_neg h2,if_neg h1,if_neg h2,if_neg h1];have c23:=h.plac;clear h;go_enter Tryz.func144,Tryz.ntmps144;go_wp2_with fail;refine (zkl HE.out (I 6)).mono ?_;rintro e w1 ⟨rfl,h1',o1⟩;have H1:=hide h1';have O1:=hide o1;clear h1' o1 HE;go_wp2;go_ret;exact ⟨rfl,H1.out,O1.out⟩
theorem mV_in {s b v c d:Nat} (h:HasQ w s b v c d bs nm I B t Z) (ho:I 0=2→zao (I 3)):zao (mV bs I Z):=by
 unfold mV;split
 ·rename_i e;exact ho e
 split
 ·exact zxb h.good 0 (by decide)
 ·exact zyL h _
theorem zkn (nm:ByteArray) (k:Nat) (r:Int) (hk:(zpN 3 [3] 37 nm.data.toList k ((Tryz.f202.body.bind (zbP 0)).getD .skip)&&hitT 3 [3] 37 nm.data.toList (zgO k ((Tryz.f202.body.bind (zbP 0)).getD .skip))&&(retI (zkm (zgO k ((Tryz.f202.body.bind (zbP 0)).getD .skip)))==some (2,r)))=true) (w:World):Calls Tryz.prog 202 #[.string nm] w fun e w'=>e=Ending.returned (.int .i64 r)∧w'=w:=by
 rw [Bool.and_eq_true] at hk;obtain ⟨k1,k2⟩:=hk;have k3:=eq_of_beq k2;have K1:=hide k1;have K3:=hide k3;clear k1 k2 k3;go_enter Tryz.func202,Tryz.ntmps202;go_upto_block 0 with fail;apply wp_block;refine zlC [3] nm k rfl K1.out rfl rfl fun a' hA=>?_
 refine zyX K3.out ?_;simp only [Exit.inBlock,Exit.then];refine (bodyPost_ret (P:=Tryz.prog) (fn:=Tryz.f202) (v:=.int .i64 r) ?_ ?_ ?_:bodyPost Tryz.prog Tryz.f202 _ .ret _ _)
 ·rw [results_tmp (t:=2) rfl,zvQ _ (by rw [hA.1];show 2<37;decide)]
 ·exact hA.2.1
 ·exact ⟨rfl,rfl⟩
theorem zko (w:World):Calls Tryz.prog 202 #[.string ⟨#[73,78,67]⟩] w fun e w'=>e=Ending.returned (.int .i64 13)∧w'=w:=zkn ⟨#[73,78,67]⟩ 13 13 (by kernel_rfl) w
def rkV (op a m p:Int):Int:=(doOf op (a%256) (m%256) (p%256)).1
def rkP (op a m p:Int):Int:=(doOf op (a%256) (m%256) (p%256)).2
theorem zBS (op a m p:Int):zao (rkV op a m p)∧zao (rkP op a m p):=by
 have k:=zBQ op (zaf a) (zaf m) (zaf p);exact ⟨k.1,k.2.1⟩
def rkS (Z:Nat→Nat→Int) (op a m:Int):Nat→Nat→Int:=setR Z 4 (rkP op a m (Z 20 4))
theorem zsO {s b v c d:Nat} (h:HasQ w s b v c d bs nm I B t Z) (nn:ByteArray) (op a m:Int) (KO:∀w,Calls Tryz.prog 202 #[.string nn] w fun e w'=>e=Ending.returned (.int .i64 op)∧w'=w):Calls Tryz.prog 150 #[.pointer (some ⟨s,0,none⟩),.string nn,.int .i64 a,.int .i64 m] w fun e w'=>e=Ending.returned (.int .i64 (rkV op a m (Z 20 4)))∧HasQ w' s b v c d bs nm I B t (rkS Z op a m)∧OnlyE (EQ s b v) w w':=by
 have HE:=hide h;replace KO:=hide KO;obtain ⟨r,hr⟩:∃r,rkV op a m (Z 20 4)=r:=⟨_,rfl⟩
 obtain ⟨p,hp⟩:∃p,rkP op a m (Z 20 4)=p:=⟨_,rfl⟩
 have PI:=hide (zBS op a m (Z 20 4)).2;have KD:Hid (∀w,Calls Tryz.prog 201 #[.int .i64 op,.int .i64 a,.int .i64 m,.int .i64 (Z 20 4)] w fun e w'=>e=Ending.returned (.tuple #[.int .i64 r,.int .i64 p])∧Below w.heap.size w w'):=hide (fun w=>by rw [←hr,←hp];exact zBL op a m (Z 20 4) w);unfold rkS;rw [hr,hp];rw [hp] at PI;clear h hr hp;go_enter Tryz.func150,Tryz.ntmps150;go_wp2_with fail;refine zaD (zcx [.string nn,.int .i64 op,.int .i64 a,.int .i64 m,.pointer (some ⟨s,0,none⟩),.pointer (some ⟨s,0,none⟩),.pointer (some ⟨s,0,none⟩),.pointer (some ⟨s,0,none⟩),.pointer (some ⟨s,4,none⟩),.int .i64 (Z 20 4),.tuple #[.int .i64 r,.int .i64 p],.tuple #[.int .i64 r,.int .i64 p],.int .i64 r,.int .i64 p,.int .i64 r,.int .i64 p]) (fun dd ww=>(stgs [QA w s b v c d bs nm I B t Z]) (cntD [] dd) ww) _ (fun u=>by simp only [zaA,Act.put,List.setIfInBounds_toArray,List.set_cons_succ,List.set_cons_zero,Nat.reduceAdd];rfl) (by kernel_rfl) (by kernel_rfl) (by kernel_rfl) (fun dn hd=>zbe hd (QA.mk HE.out)) ?_ ?_
 ·repeat' first|refine zaW (fun u dn x hi hc hk hs=>?_) ?_|exact zbb
  ·go_wp2_with fail;exact zad _ rfl rfl (zac rfl hs)
  ·obtain ⟨⟨(h0:u 0=.string nn),t0⟩,_⟩:=hk;simp only [h0];clear h0;have hs1:=hs;have HS:=hide hs;clear hs hs1;go_wp2_with fail;refine (KO.out _).mono ?_;rintro e x2 ⟨rfl,hw⟩;subst x2;go_wp2_with fail;exact zad _ rfl rfl (zac rfl HS.out)
  ·go_wp2_with fail;exact zad _ rfl rfl (zac rfl hs)
  ·go_wp2_with fail;exact zad _ rfl rfl (zac rfl hs)
  ·go_wp2_with fail;exact zad _ rfl rfl (zac rfl hs)
  ·obtain ⟨⟨(h4:u 4=.pointer (some ⟨s,0,none⟩)),t4⟩,_⟩:=hk;simp only [h4];clear h4;go_wp2_with fail;exact zad _ rfl rfl (zac rfl hs)
  ·obtain ⟨⟨(h5:u 5=.pointer (some ⟨s,0,none⟩)),t5⟩,_⟩:=hk;simp only [h5];clear h5;go_wp2_with fail;exact zad _ rfl rfl (zac rfl hs)
  ·obtain ⟨⟨(h6:u 6=.pointer (some ⟨s,0,none⟩)),t6⟩,_⟩:=hk;simp only [h6];clear h6;go_wp2_with fail;exact zad _ rfl rfl (zac rfl hs)
  ·obtain ⟨⟨(h7:u 7=.pointer (some ⟨s,0,none⟩)),t7⟩,_⟩:=hk;simp only [h7];clear h7;go_wp2_with fail;exact zad _ rfl rfl (zac rfl hs)
  ·obtain ⟨⟨(h8:u 8=.pointer (some ⟨s,4,none⟩)),t8⟩,_⟩:=hk;simp only [h8];clear h8;have hs1:=hs;have q:=(show QA w s b v c d bs nm I B t Z x from hs1).1.reg 4 (by decide);go_wp2_with fail;exact zad _ rfl rfl (zac rfl hs)
  ·obtain ⟨⟨(h1:u 1=.int .i64 op),t1⟩,⟨(h2:u 2=.int .i64 a),t2⟩,⟨(h3:u 3=.int .i64 m),t3⟩,⟨(h9:u 9=.int .i64 (Z 20 4)),t9⟩,_,_⟩:=hk;simp only [h1,h2,h3,h9];clear h1 h2 h3 h9;have hs1:=hs;have HS:=hide hs;have HS1:=hide hs1;clear hs hs1;go_wp2_with fail;refine (KD.out _).mono ?_;rintro e x2 ⟨rfl,b2⟩;have H2:=hide (zdj (zyH QA.stab) HS.out b2);clear b2 HS HS1;go_wp2_with fail;exact zad _ rfl rfl (zac rfl H2.out)
  ·obtain ⟨⟨(h10:u 10=.tuple #[.int .i64 r,.int .i64 p]),t10⟩,_⟩:=hk;simp only [h10];clear h10;go_wp2_with fail;exact zad _ rfl rfl (zac rfl hs)
  ·obtain ⟨⟨(h11:u 11=.tuple #[.int .i64 r,.int .i64 p]),t11⟩,_⟩:=hk;simp only [h11];clear h11;go_wp2_with fail;exact zad _ rfl rfl (zac rfl hs)
  ·obtain ⟨⟨(h11:u 11=.tuple #[.int .i64 r,.int .i64 p]),t11⟩,_,_⟩:=hk;simp only [h11];clear h11;go_wp2_with fail;exact zad _ rfl rfl (zac rfl hs)
  ·obtain ⟨⟨(h12:u 12=.int .i64 r),t12⟩,⟨(h10:u 10=.tuple #[.int .i64 r,.int .i64 p]),t10⟩,⟨(h0:u 0=.string nn),t0⟩,⟨(h1:u 1=.int .i64 op),t1⟩,⟨(h2:u 2=.int .i64 a),t2⟩,⟨(h3:u 3=.int .i64 m),t3⟩,⟨(h4:u 4=.pointer (some ⟨s,0,none⟩)),t4⟩,⟨(h5:u 5=.pointer (some ⟨s,0,none⟩)),t5⟩,⟨(h6:u 6=.pointer (some ⟨s,0,none⟩)),t6⟩,⟨(h7:u 7=.pointer (some ⟨s,0,none⟩)),t7⟩,⟨(h8:u 8=.pointer (some ⟨s,4,none⟩)),t8⟩,⟨(h9:u 9=.int .i64 (Z 20 4)),t9⟩,_,⟨(h11:u 11=.tuple #[.int .i64 r,.int .i64 p]),t11⟩,_,_,_⟩:=hk;simp only [h12];clear h12 h10 h0 h1 h2 h3 h4 h5 h6 h7 h8 h9 h11;go_wp2_with fail;exact zad _ rfl rfl (zac rfl hs)
  ·obtain ⟨⟨(h13:u 13=.int .i64 p),t13⟩,⟨(h14:u 14=.int .i64 r),t14⟩,⟨(h0:u 0=.string nn),t0⟩,⟨(h1:u 1=.int .i64 op),t1⟩,⟨(h2:u 2=.int .i64 a),t2⟩,⟨(h3:u 3=.int .i64 m),t3⟩,⟨(h4:u 4=.pointer (some ⟨s,0,none⟩)),t4⟩,⟨(h5:u 5=.pointer (some ⟨s,0,none⟩)),t5⟩,⟨(h6:u 6=.pointer (some ⟨s,0,none⟩)),t6⟩,⟨(h7:u 7=.pointer (some ⟨s,0,none⟩)),t7⟩,⟨(h8:u 8=.pointer (some ⟨s,4,none⟩)),t8⟩,⟨(h9:u 9=.int .i64 (Z 20 4)),t9⟩,⟨(h10:u 10=.tuple #[.int .i64 r,.int .i64 p]),t10⟩,⟨(h11:u 11=.tuple #[.int .i64 r,.int .i64 p]),t11⟩,⟨(h12:u 12=.int .i64 r),t12⟩,_,_,_⟩:=hk;simp only [h13];clear h13 h14 h0 h1 h2 h3 h4 h5 h6 h7 h8 h9 h10 h11 h12;go_wp2_with fail;exact zad _ rfl rfl (zac rfl hs)
 rintro u dn x hall hs hv;obtain ⟨_,_,_,_,_,_,_,_,_,_,_,_,_,_,(h14:u 14=.int .i64 r),(h15:u 15=.int .i64 p),_⟩:=hv;simp only [h14,h15];clear h14 h15;obtain ⟨h1,o1⟩:QA w s b v c d bs nm I B t Z x:=hs;have c4:=h1.reg 4 (by decide);have z4:=h1.frz 4;have H1:=hide (h1.putR 4 (by decide) p (zsE (h1.good 20) 4 (by decide) _ PI.out.1 PI.out.2));have O1:=hide (zcP o1 4 (.int .i64 p));clear h1 o1 hall HE KO KD;go_wp2;go_ret;exact ⟨rfl,H1.out,O1.out⟩
end Go.Proofs.YtdiidjehdginnaaGreatDoor.L25
