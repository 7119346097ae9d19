/- Texts put together. -/
import Derived.Test.YtoijhhbiknhlnaaGreatDoorCpuSpeedsJ02
import Derived.Test.YtoijhhbiknhlnaaGreatDoorCpuSpeedsJ27
import Derived.OpenShut
import Derived.ShutString
import Derived.ChangeOld
import Derived.Below
import Derived.OneCell
namespace Go.Proofs.YtoijhhbiknhlnaaGreatDoor.A2
set_option maxRecDepth 20000
open Go.RowKit
set_option linter.unusedVariables false
theorem zbF (p f:Int) (on:Bool) (w:World) (hp:zad p) (hf:zbf f):
  Calls Tryz.prog 136 #[.int .i64 p,.int .i64 f,.bool on] w fun e w'=>e=.returned (.int .i64 (zbL p f on))∧w'=w:=by
 cases on
 all_goals
  go_enter Tryz.func136,Tryz.ntmps136;go_wp2;go_ret
  first
   |exact ⟨zay (zvw hp hf),rfl⟩
   |exact ⟨zay (zsC hp hf),rfl⟩
theorem zcX (p b:Int) (w:World):
  Calls Tryz.prog 93 #[.int .i64 p,.int .i64 b] w fun e w'=>e=.returned (.int .i64 (nzOf p b))∧w'=w:=by
 go_enter Tryz.func93,Tryz.ntmps93;go_wp2_with (first|(go_at_call 32;refine (zaj _ _).mono ?_;rintro e w' ⟨rfl,rfl⟩)|(go_at_call 136;refine (zbF _ _ _ _ (by repeat (first|assumption|exact zaf _|exact zbn _ _|refine zaO _ ?_ ?_|(unfold zbf;omega))) (by unfold zbf;omega)).mono ?_;rintro e w' ⟨rfl,rfl⟩));go_ret;refine ⟨zay ?_,rfl⟩;have h1:(bits .and .i64 b 128 != 0)=decide (128≤b%256):=by
  rw [zpT,Bool.eq_iff_iff];simp;omega
 have h2:(b%256==0)=decide (b%256=0):=rfl;unfold nzOf;rw [h1];rfl
theorem n_of (m:Int) (hm:zad m):(bits .and .i64 m 128 != 0)=decide (128≤m):=by
 have:=hm.1;have:=hm.2;rw [zpT,Bool.eq_iff_iff];simp;omega
theorem v_of (m:Int):(bits .and .i64 m 64 != 0)=decide (m/64%2=1):=by
 rw [zyY,Bool.eq_iff_iff];simp;omega
theorem c_of (m:Int):(bits .and .i64 m 1 != 0)=decide (m%2=1):=by
 rw [zjf,Bool.eq_iff_iff];simp;omega
theorem zbU (p m o:Int) (w:World) (hp:zad p) (hm:zad m):
  Calls Tryz.prog 139 #[.int .i64 p,.int .i64 m,.int .i64 o] w fun e w'=>e=.returned (.int .i64 (zpU p m (decide (o=0))))∧w'=w:=by
 go_enter Tryz.func139,Tryz.ntmps139;go_wp2_with (first|(go_at_call 136;refine (zbF _ _ _ _ (by repeat (first|assumption|exact zaf _|exact zbn _ _|refine zaO _ ?_ ?_|(unfold zbf;omega))) (by unfold zbf;omega)).mono ?_;rintro e w' ⟨rfl,rfl⟩));go_ret;refine ⟨zay ?_,rfl⟩;rw [n_of m hm,v_of m];rfl
theorem zfB (op a m p:Int) (w:World) (hop:op=9∨op=10∨op=11∨op=12) (hm:zad m) (hp:zad p):
  Calls Tryz.prog 140 #[.int .i64 op,.int .i64 m,.int .i64 p] w fun e w'=>e=.returned (.tuple #[.int .i64 (doOf op a m p).1,.int .i64 (doOf op a m p).2])∧w'=w:=by
 have h0:=hm.1;have h1:=hm.2;have hb:=hide (zjf p);have h2:0≤bits .and .i64 p 1∧bits .and .i64 p 1≤1:=by rw [hb.out];omega
 have s9:bits .or .i64 (m*2%256) 0=m*2%256:=by rw [or_comm,zie _ (by omega) (by omega)]
 have s10:bits .or .i64 (m*2%256) (bits .and .i64 p 1)=m*2%256+p%2:=by rw [hb.out,zgA 1 _ _ (by omega) (by omega) (by omega) (by omega) (by omega) (by omega)]
 have s11:bits .or .i64 (m/2) 0=m/2:=by rw [or_comm,zie _ (by omega) (by omega)]
 have s12:bits .or .i64 (m/2) (bits .and .i64 p 1*128)=m/2+p%2*128:=by rw [hb.out,or_comm,zgA 7 _ _ (by omega) (by omega) (by omega) (by omega) (by omega) (by omega)];omega
 rcases hop with rfl|rfl|rfl|rfl
 all_goals
  go_enter Tryz.func140,Tryz.ntmps140;go_wp2_with (first|(go_at_call 32;refine (zaj _ _).mono ?_;rintro e w' ⟨rfl,rfl⟩)|(go_at_call 136;refine (zbF _ _ _ _ (by repeat (first|assumption|exact zaf _|exact zbn _ _|refine zaO _ ?_ ?_|(unfold zbf;omega))) (by unfold zbf;omega)).mono ?_;rintro e w' ⟨rfl,rfl⟩)|(go_at_call 93;refine (zcX _ _ _).mono ?_;rintro e w' ⟨rfl,rfl⟩));go_ret2
  first
   |exact ⟨zdL rfl (by rw [n_of m hm,zdv _ _ hp (.inl rfl)];rfl),rfl⟩
   |exact ⟨zdL rfl (by rw [c_of m,zdv _ _ hp (.inl rfl)];rfl),rfl⟩
theorem zpZ {s:Int} (h:s≤9):zdT s=s∧zcS s=0:=by
 have e:zdT s=s:=by unfold zdT;rw [if_neg (by omega)]
 exact ⟨e,by unfold zcS;rw [e,if_neg (by omega)]⟩
theorem znv {s:Int} (h:9<s):zdT s=s+6∧zcS s=1:=by
 have e:zdT s=s+6:=by unfold zdT;rw [if_pos h]
 exact ⟨e,by unfold zcS;rw [e,if_pos (by omega)]⟩
theorem zjR {s:Int} (h:0≤s):zcD s=s∧zbT s=0:=
 ⟨by unfold zcD;rw [if_neg (by omega)],by unfold zbT;rw [if_neg (by omega)]⟩
theorem zkQ {s:Int} (h:s<0):zcD s=s-6∧zbT s=1:=
 ⟨by unfold zcD;rw [if_pos h],by unfold zbT;rw [if_pos h]⟩
theorem znw (s:Int):0≤zcS s∧zcS s≤1:=by unfold zcS;split<;>omega
theorem znx (s:Int):(zcS s==1)=decide (15<zdT s):=by
 unfold zcS;by_cases h:15<zdT s
 ·rw [if_pos h];simp [h]
 ·rw [if_neg h];simp [h]
theorem zjS (s:Int):(zbT s==0)=decide (0≤s):=by
 unfold zbT;by_cases h:s<0
 ·have:¬0≤s:=by omega
  rw [if_pos h];simp [this]
 ·have:0≤s:=by omega
  rw [if_neg h];simp [this]
theorem zjT (s:Int):0≤zbT s∧zbT s≤1:=by unfold zbT;split<;>omega
theorem zhi (x y c:Int) (b:Nat) (w:World) (h0:0≤c) (h1:c≤1) (hv:w.heap[b]? = some (.cells #[.int .i64 c] 3 (0,0))):
  Calls Tryz.prog 192 #[.int .i64 x,.int .i64 y,.pointer (some ⟨b,0,none⟩)] w fun e w'=>
   e=.returned (.int .i64 (zdT (x%16+y%16+c)%16))∧w'.heap[b]? = some (.cells #[.int .i64 (zcS (x%16+y%16+c))] 3 (0,0))∧Below b w w':=by
 have hx:=hide (zeb x);have hy:=hide (zeb y);have bx:0≤bits .and .i64 x 15∧bits .and .i64 x 15≤15:=by rw [hx.out];omega
 have by':0≤bits .and .i64 y 15∧bits .and .i64 y 15≤15:=by rw [hy.out];omega
 rw [←hx.out,←hy.out];have cell:=cell_of_one hv;have free:=free_of_one hv;have up:bits .and .i64 x 15+bits .and .i64 y 15+c≤9∨9<bits .and .i64 x 15+bits .and .i64 y 15+c:=by omega
 rcases up with up|up
 ·have e:=hide (zpZ up);go_enter Tryz.func192,Tryz.ntmps192;go_wp2;go_ret;exact ⟨zay (by rw [e.out.1,zeb]),by rw [e.out.2];exact one_setCell hv,(Below.refl b w).setCell (Nat.le_refl _) _⟩
 ·have e:=hide (znv up);go_enter Tryz.func192,Tryz.ntmps192;go_wp2;go_ret;exact ⟨zay (by rw [e.out.1,zeb]),by rw [e.out.2];exact one_setCell (one_setCell hv),((Below.refl b w).setCell (Nat.le_refl _) _).setCell (Nat.le_refl _) _⟩
theorem zfC (x y c:Int) (b:Nat) (w:World) (h0:0≤c) (h1:c≤1) (hv:w.heap[b]? = some (.cells #[.int .i64 c] 3 (0,0))):
  Calls Tryz.prog 193 #[.int .i64 x,.int .i64 y,.pointer (some ⟨b,0,none⟩)] w fun e w'=>
   e=.returned (.int .i64 (zcD (x%16-y%16-c)%16))∧w'.heap[b]? = some (.cells #[.int .i64 (zbT (x%16-y%16-c))] 3 (0,0))∧Below b w w':=by
 have hx:=hide (zeb x);have hy:=hide (zeb y);have bx:0≤bits .and .i64 x 15∧bits .and .i64 x 15≤15:=by rw [hx.out];omega
 have by':0≤bits .and .i64 y 15∧bits .and .i64 y 15≤15:=by rw [hy.out];omega
 rw [←hx.out,←hy.out];have cell:=cell_of_one hv;have free:=free_of_one hv;have up:0≤bits .and .i64 x 15-bits .and .i64 y 15-c∨bits .and .i64 x 15-bits .and .i64 y 15-c<0:=by omega
 rcases up with up|up
 ·have e:=hide (zjR up);go_enter Tryz.func193,Tryz.ntmps193;go_wp2;go_ret;exact ⟨zay (by rw [e.out.1,zeb]),by rw [e.out.2];exact one_setCell hv,(Below.refl b w).setCell (Nat.le_refl _) _⟩
 ·have e:=hide (zkQ up);go_enter Tryz.func193,Tryz.ntmps193;go_wp2;go_ret;exact ⟨zay (by rw [e.out.1,zeb]),by rw [e.out.2];exact one_setCell (one_setCell hv),((Below.refl b w).setCell (Nat.le_refl _) _).setCell (Nat.le_refl _) _⟩
theorem zny (a m p:Int) (w:World) (ha:zad a) (hm:zad m) (hp:zad p):
  Calls Tryz.prog 169 #[.int .i64 a,.int .i64 m,.int .i64 p] w fun e w'=>e=.returned (.tuple #[.int .i64 (zhV a m p).1,.int .i64 (zhV a m p).2])∧Below w.heap.size w w':=by
 have a0:=ha.1;have a1:=ha.2;have m0:=hm.1;have m1:=hm.2;have hb:=hide (zjf p);go_enter Tryz.func169,Tryz.ntmps169;go_wp2_with fail;have h1:0≤bits .and .i64 p 1∧bits .and .i64 p 1≤1:=by rw [hb.out];omega
 refine (zhi a m _ _ _ h1.1 h1.2 (heap_alloc_new _ _)).mono ?_;rintro e w1 ⟨rfl,hv,b1⟩;rw [hb.out] at hv b1 ⊢;have B1:Below w.heap.size w w1:=((Below.refl _ w).alloc (Nat.le_refl _) _).trans b1;generalize hl:a%16+m%16+p%2=l at *;have hc:=znw l;have HL:=hide hl;clear hl b1;go_wp2_with fail;refine (zhi _ _ _ _ _ hc.1 hc.2 hv).mono ?_;rintro e w2 ⟨rfl,hv2,b2⟩;have B2:Below w.heap.size w w2:=B1.trans b2;have ea:a/16%16=a/16:=by omega
 have em:m/16%16=m/16:=by omega
 rw [ea,em] at hv2 ⊢;generalize hh:a/16+m/16+zcS l=h at *;have HH:=hide hh;clear hh b2 B1 hv ea em;have cell:=cell_of_one hv2;have r1:0≤zdT l%16∧zdT l%16≤15:=by omega
 have r2:0≤zdT h%16∧zdT h%16≤15:=by omega
 have er:=hide (zgA 4 (zdT h%16*16) (zdT l%16) (by omega) (by omega) (by omega) (by omega) (by omega) (by omega));have ec:=hide (znx h);go_wp2_with (first|(go_at_call 136;refine (zbF _ _ _ _ (by repeat (first|assumption|exact zaf _|exact zbn _ _|refine zaO _ ?_ ?_|(unfold zbf;omega))) (by unfold zbf;omega)).mono ?_;rintro e w' ⟨rfl,rfl⟩)|(go_at_call 93;refine (zcX _ _ _).mono ?_;rintro e w' ⟨rfl,rfl⟩));go_ret2;refine ⟨zdL ?_ ?_,B2⟩
 ·rw [er.out];unfold zhV;simp only [HL.out,HH.out]
 ·rw [er.out,ec.out,zdv _ _ hp (.inl rfl)];unfold zhV;simp only [HL.out,HH.out]
theorem znz (a m p:Int) (w:World) (ha:zad a) (hm:zad m) (hp:zad p):
  Calls Tryz.prog 170 #[.int .i64 a,.int .i64 m,.int .i64 p] w fun e w'=>e=.returned (.tuple #[.int .i64 (zhW a m p).1,.int .i64 (zhW a m p).2])∧Below w.heap.size w w':=by
 have a0:=ha.1;have a1:=ha.2;have m0:=hm.1;have m1:=hm.2;have hb:=hide (zjf p);have h0:0≤bits .and .i64 p 1∧bits .and .i64 p 1≤1:=by rw [hb.out];omega
 have h1:0≤1-bits .and .i64 p 1∧1-bits .and .i64 p 1≤1:=by rw [hb.out];omega
 have hl0:a%16-m%16-(1-p%2)=a%16-m%16-1+p%2:=by omega
 have HL0:=hide hl0;clear hl0;go_enter Tryz.func170,Tryz.ntmps170;go_wp2_with fail;refine (zfC a m _ _ _ h1.1 h1.2 (heap_alloc_new _ _)).mono ?_;rintro e w1 ⟨rfl,hv,b1⟩;rw [hb.out] at hv b1 ⊢;rw [HL0.out] at hv ⊢;have B1:Below w.heap.size w w1:=((Below.refl _ w).alloc (Nat.le_refl _) _).trans b1;generalize hl:a%16-m%16-1+p%2=l at *;have hc:=zjT l;have HL:=hide hl;clear hl b1 h0 h1;go_wp2_with fail;refine (zfC _ _ _ _ _ hc.1 hc.2 hv).mono ?_;rintro e w2 ⟨rfl,hv2,b2⟩;have B2:Below w.heap.size w w2:=B1.trans b2;have ea:a/16%16=a/16:=by omega
 have em:m/16%16=m/16:=by omega
 rw [ea,em] at hv2 ⊢;generalize hh:a/16-m/16-zbT l=h at *;have HH:=hide hh;clear hh b2 B1 hv ea em;have cell:=cell_of_one hv2;have r1:0≤zcD l%16∧zcD l%16≤15:=by omega
 have r2:0≤zcD h%16∧zcD h%16≤15:=by omega
 have er:=hide (zgA 4 (zcD h%16*16) (zcD l%16) (by omega) (by omega) (by omega) (by omega) (by omega) (by omega));have ec:=hide (zjS h);go_wp2_with (first|(go_at_call 136;refine (zbF _ _ _ _ (by repeat (first|assumption|exact zaf _|exact zbn _ _|refine zaO _ ?_ ?_|(unfold zbf;omega))) (by unfold zbf;omega)).mono ?_;rintro e w' ⟨rfl,rfl⟩)|(go_at_call 93;refine (zcX _ _ _).mono ?_;rintro e w' ⟨rfl,rfl⟩));go_ret2;refine ⟨zdL ?_ ?_,B2⟩
 ·rw [er.out];unfold zhW;simp only [HL.out,HH.out]
 ·rw [er.out,ec.out];unfold zhW;simp only [HL.out,HH.out]
theorem d_of (p:Int):(bits .and .i64 p 8 != 0)=decide (p/8%2=1):=by
 rw [and_8,Bool.eq_iff_iff];simp;omega
theorem zvO (a m p:Int) (w:World) (ha:zad a) (hm:zad m) (hp:zad p):
  Calls Tryz.prog 137 #[.int .i64 a,.int .i64 m,.int .i64 p] w fun e w'=>e=.returned (.tuple #[.int .i64 (zhA a m p).1,.int .i64 (zhA a m p).2])∧Below w.heap.size w w':=by
 have hd:=d_of p
 by_cases h:p/8%2=1
 ·have e:zhA a m p=zhV a m p:=by unfold zhA;rw [if_pos h]
  rw [e];simp only [h,decide_true] at hd;clear h e;go_enter Tryz.func137,Tryz.ntmps137;go_wp2_with (first|(go_at_call 169;refine (zny _ _ _ _ ha hm hp).mono ?_;rintro e w' ⟨rfl,b1⟩));go_ret2;exact ⟨rfl,b1⟩
 ·have e:zhA a m p=zud a m p:=by unfold zhA;rw [if_neg h]
  rw [e];simp only [h,decide_false] at hd;clear h e;have a0:=ha.1;have a1:=ha.2;have m0:=hm.1;have m1:=hm.2;have hb:=hide (zjf p);have h1:0≤bits .and .i64 p 1∧bits .and .i64 p 1≤1:=by rw [hb.out];omega
  go_enter Tryz.func137,Tryz.ntmps137;go_wp2_with (first|(go_at_call 32;refine (zaj _ _).mono ?_;rintro e w' ⟨rfl,rfl⟩)|(go_at_call 136;refine (zbF _ _ _ _ (by repeat (first|assumption|exact zaf _|exact zbn _ _|refine zaO _ ?_ ?_|(unfold zbf;omega))) (by unfold zbf;omega)).mono ?_;rintro e w' ⟨rfl,rfl⟩)|(go_at_call 93;refine (zcX _ _ _).mono ?_;rintro e w' ⟨rfl,rfl⟩));go_ret2;rw [hb.out];have hr:=zaf (a+m+p%2);have hc:decide ((a+m+p%2)%256<a+m+p%2)=decide (255<a+m+p%2):=by rw [Bool.eq_iff_iff];simp;omega
  refine ⟨zdL rfl ?_,Below.refl _ _⟩;rw [hc,v_add ha hm hr,zdv _ _ (zaO _ hp f1) (.inr rfl),zdv _ _ hp (.inl rfl)];rfl
theorem zvP (a m p:Int) (w:World) (ha:zad a) (hm:zad m) (hp:zad p):
  Calls Tryz.prog 138 #[.int .i64 a,.int .i64 m,.int .i64 p] w fun e w'=>e=.returned (.tuple #[.int .i64 (zhB a m p).1,.int .i64 (zhB a m p).2])∧Below w.heap.size w w':=by
 have hd:=d_of p
 by_cases h:p/8%2=1
 ·have e:zhB a m p=zhW a m p:=by unfold zhB;rw [if_pos h]
  rw [e];simp only [h,decide_true] at hd;clear h e;go_enter Tryz.func138,Tryz.ntmps138;go_wp2_with (first|(go_at_call 170;refine (znz _ _ _ _ ha hm hp).mono ?_;rintro e w' ⟨rfl,b1⟩));go_ret2;exact ⟨rfl,b1⟩
 ·have e:zhB a m p=zue a m p:=by unfold zhB;rw [if_neg h]
  rw [e];simp only [h,decide_false] at hd;clear h e;have a0:=ha.1;have a1:=ha.2;have m0:=hm.1;have m1:=hm.2;have hb:=hide (zjf p);have h1:0≤bits .and .i64 p 1∧bits .and .i64 p 1≤1:=by rw [hb.out];omega
  go_enter Tryz.func138,Tryz.ntmps138;go_wp2_with (first|(go_at_call 32;refine (zaj _ _).mono ?_;rintro e w' ⟨rfl,rfl⟩)|(go_at_call 136;refine (zbF _ _ _ _ (by repeat (first|assumption|exact zaf _|exact zbn _ _|refine zaO _ ?_ ?_|(unfold zbf;omega))) (by unfold zbf;omega)).mono ?_;rintro e w' ⟨rfl,rfl⟩)|(go_at_call 93;refine (zcX _ _ _).mono ?_;rintro e w' ⟨rfl,rfl⟩));go_ret2;rw [hb.out];have hr:=zaf (a-m-1+p%2);refine ⟨zdL rfl ?_,Below.refl _ _⟩;rw [v_sub ha hm hr,zdv _ _ (zaO _ hp f1) (.inr rfl),zdv _ _ hp (.inl rfl)];rfl
theorem zfD {op:Int} (h:op<0∨15<op) (a m p:Int):doOf op a m p=(a,p):=by
 unfold doOf
 iterate 16 rw [if_neg (by omega)]
theorem do_0 (a m p:Int) (w:World):
  Calls Tryz.prog 94 #[.int .i64 0,.int .i64 a,.int .i64 m,.int .i64 p] w fun e w'=>e=.returned (.tuple #[.int .i64 (doOf 0 (a%256) (m%256) (p%256)).1,.int .i64 (doOf 0 (a%256) (m%256) (p%256)).2])∧Below w.heap.size w w':=by
 have ha:=zaf a;have hm:=zaf m;have hp:=zaf p;go_enter Tryz.func94,Tryz.ntmps94;go_wp2_with (first|(go_at_call 32;refine (zaj _ _).mono ?_;rintro e w' ⟨rfl,rfl⟩)|(go_at_call 136;refine (zbF _ _ _ _ (by repeat (first|assumption|exact zaf _|exact zbn _ _|refine zaO _ ?_ ?_|(unfold zbf;omega))) (by unfold zbf;omega)).mono ?_;rintro e w' ⟨rfl,rfl⟩)|(go_at_call 93;refine (zcX _ _ _).mono ?_;rintro e w' ⟨rfl,rfl⟩)|(go_at_call 139;refine (zbU _ _ _ _ (zaf _) (zaf _)).mono ?_;rintro e w' ⟨rfl,rfl⟩));go_ret2;rw [or_B ha hm];exact ⟨rfl,Below.refl _ _⟩
theorem do_1 (a m p:Int) (w:World):
  Calls Tryz.prog 94 #[.int .i64 1,.int .i64 a,.int .i64 m,.int .i64 p] w fun e w'=>e=.returned (.tuple #[.int .i64 (doOf 1 (a%256) (m%256) (p%256)).1,.int .i64 (doOf 1 (a%256) (m%256) (p%256)).2])∧Below w.heap.size w w':=by
 have ha:=zaf a;have hm:=zaf m;have hp:=zaf p;go_enter Tryz.func94,Tryz.ntmps94;go_wp2_with (first|(go_at_call 32;refine (zaj _ _).mono ?_;rintro e w' ⟨rfl,rfl⟩)|(go_at_call 136;refine (zbF _ _ _ _ (by repeat (first|assumption|exact zaf _|exact zbn _ _|refine zaO _ ?_ ?_|(unfold zbf;omega))) (by unfold zbf;omega)).mono ?_;rintro e w' ⟨rfl,rfl⟩)|(go_at_call 93;refine (zcX _ _ _).mono ?_;rintro e w' ⟨rfl,rfl⟩)|(go_at_call 139;refine (zbU _ _ _ _ (zaf _) (zaf _)).mono ?_;rintro e w' ⟨rfl,rfl⟩));go_ret2;rw [znu ha hm];exact ⟨rfl,Below.refl _ _⟩
theorem do_2 (a m p:Int) (w:World):
  Calls Tryz.prog 94 #[.int .i64 2,.int .i64 a,.int .i64 m,.int .i64 p] w fun e w'=>e=.returned (.tuple #[.int .i64 (doOf 2 (a%256) (m%256) (p%256)).1,.int .i64 (doOf 2 (a%256) (m%256) (p%256)).2])∧Below w.heap.size w w':=by
 have ha:=zaf a;have hm:=zaf m;have hp:=zaf p;go_enter Tryz.func94,Tryz.ntmps94;go_wp2_with (first|(go_at_call 32;refine (zaj _ _).mono ?_;rintro e w' ⟨rfl,rfl⟩)|(go_at_call 136;refine (zbF _ _ _ _ (by repeat (first|assumption|exact zaf _|exact zbn _ _|refine zaO _ ?_ ?_|(unfold zbf;omega))) (by unfold zbf;omega)).mono ?_;rintro e w' ⟨rfl,rfl⟩)|(go_at_call 93;refine (zcX _ _ _).mono ?_;rintro e w' ⟨rfl,rfl⟩)|(go_at_call 139;refine (zbU _ _ _ _ (zaf _) (zaf _)).mono ?_;rintro e w' ⟨rfl,rfl⟩));go_ret2;rw [zpS ha hm];exact ⟨rfl,Below.refl _ _⟩
theorem do_3 (a m p:Int) (w:World):
  Calls Tryz.prog 94 #[.int .i64 3,.int .i64 a,.int .i64 m,.int .i64 p] w fun e w'=>e=.returned (.tuple #[.int .i64 (doOf 3 (a%256) (m%256) (p%256)).1,.int .i64 (doOf 3 (a%256) (m%256) (p%256)).2])∧Below w.heap.size w w':=by
 have ha:=zaf a;have hm:=zaf m;have hp:=zaf p;go_enter Tryz.func94,Tryz.ntmps94;go_wp2_with (first|(go_at_call 32;refine (zaj _ _).mono ?_;rintro e w' ⟨rfl,rfl⟩)|(go_at_call 137;refine (zvO _ _ _ _ (zaf _) (zaf _) (zaf _)).mono ?_;rintro e w' ⟨rfl,b1⟩));go_ret2;exact ⟨rfl,b1⟩
theorem do_4 (a m p:Int) (w:World):
  Calls Tryz.prog 94 #[.int .i64 4,.int .i64 a,.int .i64 m,.int .i64 p] w fun e w'=>e=.returned (.tuple #[.int .i64 (doOf 4 (a%256) (m%256) (p%256)).1,.int .i64 (doOf 4 (a%256) (m%256) (p%256)).2])∧Below w.heap.size w w':=by
 have ha:=zaf a;have hm:=zaf m;have hp:=zaf p;go_enter Tryz.func94,Tryz.ntmps94;go_wp2_with (first|(go_at_call 32;refine (zaj _ _).mono ?_;rintro e w' ⟨rfl,rfl⟩)|(go_at_call 138;refine (zvP _ _ _ _ (zaf _) (zaf _) (zaf _)).mono ?_;rintro e w' ⟨rfl,b1⟩));go_ret2;exact ⟨rfl,b1⟩
theorem do_5 (a m p:Int) (w:World):
  Calls Tryz.prog 94 #[.int .i64 5,.int .i64 a,.int .i64 m,.int .i64 p] w fun e w'=>e=.returned (.tuple #[.int .i64 (doOf 5 (a%256) (m%256) (p%256)).1,.int .i64 (doOf 5 (a%256) (m%256) (p%256)).2])∧Below w.heap.size w w':=by
 have ha:=zaf a;have hm:=zaf m;have hp:=zaf p;go_enter Tryz.func94,Tryz.ntmps94;go_wp2_with (first|(go_at_call 32;refine (zaj _ _).mono ?_;rintro e w' ⟨rfl,rfl⟩)|(go_at_call 136;refine (zbF _ _ _ _ (by repeat (first|assumption|exact zaf _|exact zbn _ _|refine zaO _ ?_ ?_|(unfold zbf;omega))) (by unfold zbf;omega)).mono ?_;rintro e w' ⟨rfl,rfl⟩)|(go_at_call 93;refine (zcX _ _ _).mono ?_;rintro e w' ⟨rfl,rfl⟩)|(go_at_call 139;refine (zbU _ _ _ _ (zaf _) (zaf _)).mono ?_;rintro e w' ⟨rfl,rfl⟩));go_ret2;exact ⟨zdL rfl (zdv _ _ hp (.inl rfl)),Below.refl _ _⟩
theorem do_6 (a m p:Int) (w:World):
  Calls Tryz.prog 94 #[.int .i64 6,.int .i64 a,.int .i64 m,.int .i64 p] w fun e w'=>e=.returned (.tuple #[.int .i64 (doOf 6 (a%256) (m%256) (p%256)).1,.int .i64 (doOf 6 (a%256) (m%256) (p%256)).2])∧Below w.heap.size w w':=by
 have ha:=zaf a;have hm:=zaf m;have hp:=zaf p;go_enter Tryz.func94,Tryz.ntmps94;go_wp2_with (first|(go_at_call 32;refine (zaj _ _).mono ?_;rintro e w' ⟨rfl,rfl⟩)|(go_at_call 136;refine (zbF _ _ _ _ (by repeat (first|assumption|exact zaf _|exact zbn _ _|refine zaO _ ?_ ?_|(unfold zbf;omega))) (by unfold zbf;omega)).mono ?_;rintro e w' ⟨rfl,rfl⟩)|(go_at_call 93;refine (zcX _ _ _).mono ?_;rintro e w' ⟨rfl,rfl⟩)|(go_at_call 139;refine (zbU _ _ _ _ (zaf _) (zaf _)).mono ?_;rintro e w' ⟨rfl,rfl⟩));go_ret2;rw [znu ha hm];exact ⟨rfl,Below.refl _ _⟩
theorem do_7 (a m p:Int) (w:World):
  Calls Tryz.prog 94 #[.int .i64 7,.int .i64 a,.int .i64 m,.int .i64 p] w fun e w'=>e=.returned (.tuple #[.int .i64 (doOf 7 (a%256) (m%256) (p%256)).1,.int .i64 (doOf 7 (a%256) (m%256) (p%256)).2])∧Below w.heap.size w w':=by
 have ha:=zaf a;have hm:=zaf m;have hp:=zaf p;go_enter Tryz.func94,Tryz.ntmps94;go_wp2_with (first|(go_at_call 32;refine (zaj _ _).mono ?_;rintro e w' ⟨rfl,rfl⟩)|(go_at_call 136;refine (zbF _ _ _ _ (by repeat (first|assumption|exact zaf _|exact zbn _ _|refine zaO _ ?_ ?_|(unfold zbf;omega))) (by unfold zbf;omega)).mono ?_;rintro e w' ⟨rfl,rfl⟩)|(go_at_call 93;refine (zcX _ _ _).mono ?_;rintro e w' ⟨rfl,rfl⟩)|(go_at_call 139;refine (zbU _ _ _ _ (zaf _) (zaf _)).mono ?_;rintro e w' ⟨rfl,rfl⟩));go_ret2;rw [or_comm,or_B ha hm];exact ⟨rfl,Below.refl _ _⟩
theorem do_8 (a m p:Int) (w:World):
  Calls Tryz.prog 94 #[.int .i64 8,.int .i64 a,.int .i64 m,.int .i64 p] w fun e w'=>e=.returned (.tuple #[.int .i64 (doOf 8 (a%256) (m%256) (p%256)).1,.int .i64 (doOf 8 (a%256) (m%256) (p%256)).2])∧Below w.heap.size w w':=by
 have ha:=zaf a;have hm:=zaf m;have hp:=zaf p;go_enter Tryz.func94,Tryz.ntmps94;go_wp2_with (first|(go_at_call 32;refine (zaj _ _).mono ?_;rintro e w' ⟨rfl,rfl⟩)|(go_at_call 136;refine (zbF _ _ _ _ (by repeat (first|assumption|exact zaf _|exact zbn _ _|refine zaO _ ?_ ?_|(unfold zbf;omega))) (by unfold zbf;omega)).mono ?_;rintro e w' ⟨rfl,rfl⟩)|(go_at_call 93;refine (zcX _ _ _).mono ?_;rintro e w' ⟨rfl,rfl⟩)|(go_at_call 139;refine (zbU _ _ _ _ (zaf _) (zaf _)).mono ?_;rintro e w' ⟨rfl,rfl⟩));go_ret2;rw [zlL hm ha];exact ⟨rfl,Below.refl _ _⟩
theorem do_9 (a m p:Int) (w:World):
  Calls Tryz.prog 94 #[.int .i64 9,.int .i64 a,.int .i64 m,.int .i64 p] w fun e w'=>e=.returned (.tuple #[.int .i64 (doOf 9 (a%256) (m%256) (p%256)).1,.int .i64 (doOf 9 (a%256) (m%256) (p%256)).2])∧Below w.heap.size w w':=by
 have ha:=zaf a;have hm:=zaf m;have hp:=zaf p;go_enter Tryz.func94,Tryz.ntmps94;go_wp2_with (first|(go_at_call 32;refine (zaj _ _).mono ?_;rintro e w' ⟨rfl,rfl⟩)|(go_at_call 140;refine (zfB _ (a%256) _ _ _ (by omega) (zaf _) (zaf _)).mono ?_;rintro e w' ⟨rfl,rfl⟩));go_ret2;exact ⟨rfl,Below.refl _ _⟩
theorem do_10 (a m p:Int) (w:World):
  Calls Tryz.prog 94 #[.int .i64 10,.int .i64 a,.int .i64 m,.int .i64 p] w fun e w'=>e=.returned (.tuple #[.int .i64 (doOf 10 (a%256) (m%256) (p%256)).1,.int .i64 (doOf 10 (a%256) (m%256) (p%256)).2])∧Below w.heap.size w w':=by
 have ha:=zaf a;have hm:=zaf m;have hp:=zaf p;go_enter Tryz.func94,Tryz.ntmps94;go_wp2_with (first|(go_at_call 32;refine (zaj _ _).mono ?_;rintro e w' ⟨rfl,rfl⟩)|(go_at_call 140;refine (zfB _ (a%256) _ _ _ (by omega) (zaf _) (zaf _)).mono ?_;rintro e w' ⟨rfl,rfl⟩));go_ret2;exact ⟨rfl,Below.refl _ _⟩
theorem do_11 (a m p:Int) (w:World):
  Calls Tryz.prog 94 #[.int .i64 11,.int .i64 a,.int .i64 m,.int .i64 p] w fun e w'=>e=.returned (.tuple #[.int .i64 (doOf 11 (a%256) (m%256) (p%256)).1,.int .i64 (doOf 11 (a%256) (m%256) (p%256)).2])∧Below w.heap.size w w':=by
 have ha:=zaf a;have hm:=zaf m;have hp:=zaf p;go_enter Tryz.func94,Tryz.ntmps94;go_wp2_with (first|(go_at_call 32;refine (zaj _ _).mono ?_;rintro e w' ⟨rfl,rfl⟩)|(go_at_call 140;refine (zfB _ (a%256) _ _ _ (by omega) (zaf _) (zaf _)).mono ?_;rintro e w' ⟨rfl,rfl⟩));go_ret2;exact ⟨rfl,Below.refl _ _⟩
theorem do_12 (a m p:Int) (w:World):
  Calls Tryz.prog 94 #[.int .i64 12,.int .i64 a,.int .i64 m,.int .i64 p] w fun e w'=>e=.returned (.tuple #[.int .i64 (doOf 12 (a%256) (m%256) (p%256)).1,.int .i64 (doOf 12 (a%256) (m%256) (p%256)).2])∧Below w.heap.size w w':=by
 have ha:=zaf a;have hm:=zaf m;have hp:=zaf p;go_enter Tryz.func94,Tryz.ntmps94;go_wp2_with (first|(go_at_call 32;refine (zaj _ _).mono ?_;rintro e w' ⟨rfl,rfl⟩)|(go_at_call 140;refine (zfB _ (a%256) _ _ _ (by omega) (zaf _) (zaf _)).mono ?_;rintro e w' ⟨rfl,rfl⟩));go_ret2;exact ⟨rfl,Below.refl _ _⟩
theorem do_13 (a m p:Int) (w:World):
  Calls Tryz.prog 94 #[.int .i64 13,.int .i64 a,.int .i64 m,.int .i64 p] w fun e w'=>e=.returned (.tuple #[.int .i64 (doOf 13 (a%256) (m%256) (p%256)).1,.int .i64 (doOf 13 (a%256) (m%256) (p%256)).2])∧Below w.heap.size w w':=by
 have ha:=zaf a;have hm:=zaf m;have hp:=zaf p;go_enter Tryz.func94,Tryz.ntmps94;go_wp2_with (first|(go_at_call 32;refine (zaj _ _).mono ?_;rintro e w' ⟨rfl,rfl⟩)|(go_at_call 136;refine (zbF _ _ _ _ (by repeat (first|assumption|exact zaf _|exact zbn _ _|refine zaO _ ?_ ?_|(unfold zbf;omega))) (by unfold zbf;omega)).mono ?_;rintro e w' ⟨rfl,rfl⟩)|(go_at_call 93;refine (zcX _ _ _).mono ?_;rintro e w' ⟨rfl,rfl⟩)|(go_at_call 139;refine (zbU _ _ _ _ (zaf _) (zaf _)).mono ?_;rintro e w' ⟨rfl,rfl⟩));go_ret2;have h13:(m+1)%256=(m%256+1)%256:=by omega
 exact ⟨zdL h13 (by show _=nzOf (p%256) ((m%256+1)%256);rw [zlM]),Below.refl _ _⟩
theorem do_14 (a m p:Int) (w:World):
  Calls Tryz.prog 94 #[.int .i64 14,.int .i64 a,.int .i64 m,.int .i64 p] w fun e w'=>e=.returned (.tuple #[.int .i64 (doOf 14 (a%256) (m%256) (p%256)).1,.int .i64 (doOf 14 (a%256) (m%256) (p%256)).2])∧Below w.heap.size w w':=by
 have ha:=zaf a;have hm:=zaf m;have hp:=zaf p;go_enter Tryz.func94,Tryz.ntmps94;go_wp2_with (first|(go_at_call 32;refine (zaj _ _).mono ?_;rintro e w' ⟨rfl,rfl⟩)|(go_at_call 136;refine (zbF _ _ _ _ (by repeat (first|assumption|exact zaf _|exact zbn _ _|refine zaO _ ?_ ?_|(unfold zbf;omega))) (by unfold zbf;omega)).mono ?_;rintro e w' ⟨rfl,rfl⟩)|(go_at_call 93;refine (zcX _ _ _).mono ?_;rintro e w' ⟨rfl,rfl⟩)|(go_at_call 139;refine (zbU _ _ _ _ (zaf _) (zaf _)).mono ?_;rintro e w' ⟨rfl,rfl⟩));go_ret2;have h14:(m%256+255)%256=(m%256-1)%256:=by omega
 have h14':(m-1)%256=(m%256+255)%256:=by omega
 exact ⟨zdL h14' (by show _=nzOf (p%256) ((m%256+255)%256);rw [h14,zlM]),Below.refl _ _⟩
theorem do_15 (a m p:Int) (w:World):
  Calls Tryz.prog 94 #[.int .i64 15,.int .i64 a,.int .i64 m,.int .i64 p] w fun e w'=>e=.returned (.tuple #[.int .i64 (doOf 15 (a%256) (m%256) (p%256)).1,.int .i64 (doOf 15 (a%256) (m%256) (p%256)).2])∧Below w.heap.size w w':=by
 have ha:=zaf a;have hm:=zaf m;have hp:=zaf p;go_enter Tryz.func94,Tryz.ntmps94;go_wp2_with (first|(go_at_call 32;refine (zaj _ _).mono ?_;rintro e w' ⟨rfl,rfl⟩)|(go_at_call 136;refine (zbF _ _ _ _ (by repeat (first|assumption|exact zaf _|exact zbn _ _|refine zaO _ ?_ ?_|(unfold zbf;omega))) (by unfold zbf;omega)).mono ?_;rintro e w' ⟨rfl,rfl⟩)|(go_at_call 93;refine (zcX _ _ _).mono ?_;rintro e w' ⟨rfl,rfl⟩)|(go_at_call 139;refine (zbU _ _ _ _ (zaf _) (zaf _)).mono ?_;rintro e w' ⟨rfl,rfl⟩));go_ret2;exact ⟨rfl,Below.refl _ _⟩
theorem zzd (op a m p:Int) (w:World) (h:op<0):
  Calls Tryz.prog 94 #[.int .i64 op,.int .i64 a,.int .i64 m,.int .i64 p] w fun e w'=>e=.returned (.tuple #[.int .i64 (doOf op (a%256) (m%256) (p%256)).1,.int .i64 (doOf op (a%256) (m%256) (p%256)).2])∧Below w.heap.size w w':=by
 rw [zfD (by omega)];go_enter Tryz.func94,Tryz.ntmps94;go_wp2_with (first|(go_at_call 32;refine (zaj _ _).mono ?_;rintro e w' ⟨rfl,rfl⟩));go_ret2;exact ⟨rfl,Below.refl _ _⟩
theorem zvQ (op a m p:Int) (w:World) (h:15<op):
  Calls Tryz.prog 94 #[.int .i64 op,.int .i64 a,.int .i64 m,.int .i64 p] w fun e w'=>e=.returned (.tuple #[.int .i64 (doOf op (a%256) (m%256) (p%256)).1,.int .i64 (doOf op (a%256) (m%256) (p%256)).2])∧Below w.heap.size w w':=by
 rw [zfD (by omega)];go_enter Tryz.func94,Tryz.ntmps94;go_wp2_with (first|(go_at_call 32;refine (zaj _ _).mono ?_;rintro e w' ⟨rfl,rfl⟩));go_ret2;exact ⟨rfl,Below.refl _ _⟩
theorem zqa (op:Int):op=0∨op=1∨op=2∨op=3∨op=4∨op=5∨op=6∨op=7∨op=8∨op=9∨op=10∨op=11∨op=12∨op=13∨op=14∨op=15∨op<0∨15<op:=by omega
theorem zze (op a m p:Int) (w:World):
  Calls Tryz.prog 94 #[.int .i64 op,.int .i64 a,.int .i64 m,.int .i64 p] w fun e w'=>e=.returned (.tuple #[.int .i64 (doOf op (a%256) (m%256) (p%256)).1,.int .i64 (doOf op (a%256) (m%256) (p%256)).2])∧Below w.heap.size w w':=by
 rcases zqa op with rfl|rfl|rfl|rfl|rfl|rfl|rfl|rfl|rfl|rfl|rfl|rfl|rfl|rfl|rfl|rfl|h|h
 ·exact do_0 a m p w
 ·exact do_1 a m p w
 ·exact do_2 a m p w
 ·exact do_3 a m p w
 ·exact do_4 a m p w
 ·exact do_5 a m p w
 ·exact do_6 a m p w
 ·exact do_7 a m p w
 ·exact do_8 a m p w
 ·exact do_9 a m p w
 ·exact do_10 a m p w
 ·exact do_11 a m p w
 ·exact do_12 a m p w
 ·exact do_13 a m p w
 ·exact do_14 a m p w
 ·exact do_15 a m p w
 ·exact zzd op a m p w h
 ·exact zvQ op a m p w h
end Go.Proofs.YtoijhhbiknhlnaaGreatDoor.A2
