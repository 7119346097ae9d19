/- Texts put together. -/
import Derived.Test.YtoijhhbiknhlnaaGreatDoorProg
import Derived.Test.YtoijhhbiknhlnaaGreatDoorCpuSpeedsJ01
import Derived.Test.YtoijhhbiknhlnaaGreatDoorCpuSpeedsJ02
import Derived.WalkMore
import Derived.WalkKit
import Derived.Below
import Derived.OneCell
import Derived.Handy
import Derived.Test.YtoijhhbiknhlnaaGreatDoorCpuSpeedsJ06
import Derived.Test.YtoijhhbiknhlnaaGreatDoorCpuSpeedsJ05
namespace Go.Proofs.YtoijhhbiknhlnaaGreatDoor.B4
set_option maxHeartbeats 1000000
set_option maxRecDepth 20000
open C3
open Go.RowKit
set_option linter.unusedVariables false
def zdi (k n:Int):Int:=if k=1 then n/3*2 else if k=2 then 64 else n
def zdj (k n l:Int):Int:=if k=1 then n/3*2 else if k=2 then 64+64*(l%4) else 0
def zem (k n:Int):Int:=if k=1 then n/3 else if k=2 then 64 else n
def zdH (n l p:Int):Int:=
 if zdh n=true∧0≤p then
  if p<64 then p%zdi (zdg n) n else if p<128 then zdj (zdg n) n l+p%zem (zdg n) n else -1
 else -1
def zfN (n l a:Int):Int:=if n=320∧8176≤a∧a<8180 then a-8176 else l
theorem zlt {n:Int} (h:zdh n=true):1≤n∧n≤320:=by
 unfold zdh at h;rw [decide_eq_true_eq] at h;omega
theorem zfO {n:Int} (h:zdh n=true):(zdg n=0∧n≤128)∨(zdg n=1∧(n=48∨n=96))∨(zdg n=2∧n=320):=by
 unfold zdh at h;rw [decide_eq_true_eq] at h;unfold zdg;rcases h with h|h|h|h|h|h|h|h|h|h|h<;>subst h<;>decide
theorem zok (k n:Int) (w:World) (n0:0≤n) (n1:n≤320):Calls Tryz.prog 161 #[.int .i64 k,.int .i64 n] w fun e w'=>e=.returned (.agg #[.int .i64 64,.int .i64 0,.int .i64 (zdi k n)])∧Below w.heap.size w w':=by
 unfold zdi
 by_cases h1:k=1
 ·subst h1;rw [if_pos rfl];go_enter Tryz.func161,Tryz.ntmps161;go_wp2;go_returns;exact ⟨rfl,(Below.refl _ w).alloc (Nat.le_refl _) _⟩
 ·rw [if_neg h1]
  by_cases h2:k=2
  ·subst h2;rw [if_pos rfl];go_enter Tryz.func161,Tryz.ntmps161;go_wp2;go_returns;exact ⟨rfl,(Below.refl _ w).alloc (Nat.le_refl _) _⟩
  ·rw [if_neg h2];go_enter Tryz.func161,Tryz.ntmps161;go_wp2;go_returns;exact ⟨rfl,(Below.refl _ w).alloc (Nat.le_refl _) _⟩
theorem zrt (l:Int) (w:World):Calls Tryz.prog 188 #[.int .i64 l] w fun e w'=>e=.returned (.int .i64 (l%4))∧w'=w:=by
 go_enter Tryz.func188,Tryz.ntmps188;go_wp2;go_ret;exact ⟨zay (and_3 l),rfl⟩
theorem zol (k n l:Int) (w:World) (n0:0≤n) (n1:n≤320):Calls Tryz.prog 162 #[.int .i64 k,.int .i64 n,.int .i64 l] w fun e w'=>e=.returned (.agg #[.int .i64 128,.int .i64 (zdj k n l),.int .i64 (zem k n)])∧Below w.heap.size w w':=by
 unfold zdj zem
 by_cases h1:k=1
 ·subst h1;rw [if_pos rfl,if_pos rfl];go_enter Tryz.func162,Tryz.ntmps162;go_wp2;go_returns;exact ⟨rfl,(Below.refl _ w).alloc (Nat.le_refl _) _⟩
 ·rw [if_neg h1,if_neg h1]
  by_cases h2:k=2
  ·subst h2;rw [if_pos rfl,if_pos rfl];have c:=hide (zrt l);go_enter Tryz.func162,Tryz.ntmps162;go_wp2_with fail;refine (c.out _).mono ?_;rintro e w1 ⟨rfl,hw⟩;subst w1;go_wp2_with fail;go_returns;exact ⟨rfl,(Below.refl _ w).alloc (Nat.le_refl _) _⟩
  ·rw [if_neg h2,if_neg h2];go_enter Tryz.func162,Tryz.ntmps162;go_wp2;go_returns;exact ⟨rfl,(Below.refl _ w).alloc (Nat.le_refl _) _⟩
theorem zom (n l a:Int) (w:World) (hT:HasTab w):Calls Tryz.prog 102 #[.int .i64 n,.int .i64 l,.int .i64 a] w fun e w'=>e=.returned (.int .i64 (zfN n l a))∧Below w.heap.size w w':=by
 have c:=hide (zgL n w hT);have kn:zdh n=true∧zdg n=2↔n=320:=by
  constructor
  ·rintro ⟨h1,h2⟩;have:=zfO h1;omega
  ·rintro rfl;decide
 obtain ⟨q,hq⟩:∃q,q=zfN n l a:=⟨_,rfl⟩
 rw [←hq];unfold zfN at hq;generalize hk:zdh n=kw at *;generalize hd:zdg n=kd at *;go_enter Tryz.func102,Tryz.ntmps102;go_wp2_with fail;refine c.out.mono ?_;rintro e w1 ⟨rfl,b1⟩;cases kw with
 |false=>
  rw [if_neg (by intro h;exact Bool.noConfusion (kn.2 h.1).1)] at hq;go_wp2_with fail;go_ret;exact ⟨zay (by first|rfl|exact hq.symm),b1⟩
 |true=>
  by_cases h2:kd=2
  ·have hn:=kn.1 ⟨rfl,h2⟩
   by_cases h3:8176≤a
   ·by_cases h4:a<8180
    ·rw [if_pos ⟨hn,h3,h4⟩] at hq;go_wp2_with fail;go_ret;exact ⟨zay (by first|rfl|exact hq.symm),b1⟩
    ·rw [if_neg (by omega)] at hq;go_wp2_with fail;go_ret;exact ⟨zay (by first|rfl|exact hq.symm),b1⟩
   ·rw [if_neg (by omega)] at hq;go_wp2_with fail;go_ret;exact ⟨zay (by first|rfl|exact hq.symm),b1⟩
  ·rw [if_neg (by intro h;exact h2 (kn.2 h.1).2)] at hq;go_wp2_with fail;go_ret;exact ⟨zay (by first|rfl|exact hq.symm),b1⟩
def zkt (i:Nat):Int:=if i=0 then 64 else if i=1 then 128 else 0
def zgQ (k n l:Int) (i:Nat):Int:=if i=0 then 0 else if i=1 then zdj k n l else 0
def ziq (k n:Int) (i:Nat):Int:=if i=0 then zdi k n else if i=1 then zem k n else 0
theorem zru (k n l:Int) (a b c:Nat) (i:Nat) (w:World) (n0:0≤n) (n1:n≤320) (hi:i≤2) (hk:Box 3 w a k) (hn:Box 3 w b n) (hl:Box 3 w c l):
  Calls Tryz.prog 160 #[.int .i64 (i:Int),.pointer (some ⟨a,0,none⟩),.pointer (some ⟨b,0,none⟩),.pointer (some ⟨c,0,none⟩)] w fun e w'=>
   e=.returned (.tuple #[.agg #[.int .i64 (zkt i),.int .i64 (zgQ k n l i),.int .i64 (ziq k n i)],.bool (decide (i<2))])∧Below w.heap.size w w':=by
 have kc:=hk.cell;have nc:=hn.cell;have lc:=hl.cell;have ka:=hk.lt;have na:=hn.lt;have la:=hl.lt;clear hk hn hl;rcases i with _|_|_|i
 ·have C:=hide (fun w=>zok k n w n0 n1);go_enter Tryz.func160,Tryz.ntmps160;go_wp2_with fail;refine (C.out _).mono ?_;rintro e w1 ⟨rfl,b1⟩;have r0:=b1.block w.heap.size (by simp);rw [heap_alloc_new] at r0;have B1:=hide (((Below.refl w.heap.size w).alloc (Nat.le_refl _) _).trans (b1.mono (by simp)));have R0:=hide r0;clear r0 b1;go_wp2_with (first|(refine wpList_store_row rfl 226 (.tmp 5) (.tmp 12) rfl w.heap.size _ rfl rfl 226 _ R0.out (by kernel_rfl) rfl (by kernel_rfl) ?_))
  (try simp only [Exit.inBlock,Exit.then])
  refine bodyPost_ret (zaH rfl _ _ w.heap.size 226 _ (0,0) _ rfl (setRow_heap _ _ _ _ _ _ R0.out) Tryz.underlying226 rfl (by kernel_rfl)) rfl ?_;exact ⟨rfl,below_setRow B1.out (Nat.le_refl _) _⟩
 ·have C:=hide (fun w=>zol k n l w n0 n1);go_enter Tryz.func160,Tryz.ntmps160;go_wp2_with fail;refine (C.out _).mono ?_;rintro e w1 ⟨rfl,b1⟩;have r0:=b1.block w.heap.size (by simp);rw [heap_alloc_new] at r0;have B1:=hide (((Below.refl w.heap.size w).alloc (Nat.le_refl _) _).trans (b1.mono (by simp)));have R0:=hide r0;clear r0 b1;go_wp2_with (first|(refine wpList_store_row rfl 226 (.tmp 5) (.tmp 18) rfl w.heap.size _ rfl rfl 226 _ R0.out (by kernel_rfl) rfl (by kernel_rfl) ?_))
  (try simp only [Exit.inBlock,Exit.then])
  refine bodyPost_ret (zaH rfl _ _ w.heap.size 226 _ (0,0) _ rfl (setRow_heap _ _ _ _ _ _ R0.out) Tryz.underlying226 rfl (by kernel_rfl)) rfl ?_;exact ⟨rfl,below_setRow B1.out (Nat.le_refl _) _⟩
 ·go_enter Tryz.func160,Tryz.ntmps160;go_wp2_with fail
  (try simp only [Exit.inBlock,Exit.then])
  refine bodyPost_ret (zaH rfl _ _ w.heap.size 226 _ (0,0) _ rfl (heap_alloc_new _ _) Tryz.underlying226 rfl (by kernel_rfl)) rfl ?_;exact ⟨rfl,(Below.refl _ w).alloc (Nat.le_refl _) _⟩
 ·omega
theorem zrv (n l p:Int) (w:World) (hT:HasTab w):Calls Tryz.prog 125 #[.int .i64 n,.int .i64 l,.int .i64 p] w fun e w'=>e=.returned (.int .i64 (zdH n l p))∧Below w.heap.size w w':=by
 obtain ⟨q,hq⟩:∃q,q=zdH n l p:=⟨_,rfl⟩
 rw [←hq];have HQ:=hide hq;have HT:=hide hT;clear hq hT;go_enter Tryz.func125,Tryz.ntmps125;go_wp2_with fail;go_step3;go_wp2_with fail;have wi:=w.alloc (.cells #[.int .i64 n] 3);obtain ⟨wa,hwa⟩:∃wa,wa=(w.alloc (.cells #[.int .i64 n] 3)).alloc (.cells #[.int .i64 l] 3):=⟨_,rfl⟩
 rw [←hwa];have ba:Below w.heap.size w wa:=by rw [hwa];exact ((Below.refl _ w).alloc (Nat.le_refl _) _).alloc (by simp) _
 have xn:Box 3 wa w.heap.size n:=by rw [hwa];exact heap_alloc2_old _ _ _
 have xl:Box 3 wa (w.heap.size+1) l:=by rw [hwa];exact heap_alloc2_new _ _ _
 refine (zgL n wa (HT.out.next ba)).mono ?_;rintro e w1 ⟨rfl,b1⟩;have BA:=hide (zar ba b1);have XN:=hide (xn.next b1);have XL:=hide (xl.next b1);clear ba xn xl b1 hwa;obtain ⟨kw,hkw⟩:∃kw,kw=zdh n:=⟨_,rfl⟩
 obtain ⟨kd,hkd⟩:∃kd,kd=zdg n:=⟨_,rfl⟩
 rw [←hkw,←hkd];have HKD:=hide hkd;clear hkd;cases kw with
 |false=>
  have hq:q = -1:=by rw [HQ.out];unfold zdH;rw [←hkw];simp
  have HQ2:=hide hq;clear hq hkw;go_wp2_with fail
  try rw [Exit.noGoto_ret]
  go_ret;exact ⟨zay HQ2.out.symm,BA.out.alloc BA.out.size _⟩
 |true=>
  by_cases hp:p<0
  ·have hq:q = -1:=by rw [HQ.out];unfold zdH;rw [if_neg (by omega)]
   have HQ2:=hide hq;clear hq hkw;go_wp2_with fail
   try rw [Exit.noGoto_ret]
   go_ret;exact ⟨zay HQ2.out.symm,BA.out.alloc BA.out.size _⟩
  ·have hq:q=if p<64 then p%zdi kd n else if p<128 then zdj kd n l+p%zem kd n else -1:=by
    rw [HQ.out];unfold zdH;rw [if_pos ⟨hkw.symm,by omega⟩,←HKD.out]
   have hn:=zlt hkw.symm;have HQ2:=hide hq;have HN:=hide hn;have HKC:=hide (by have:=zfO hkw.symm;rw [←HKD.out] at this;exact this:(kd=0∧n≤128)∨(kd=1∧(n=48∨n=96))∨(kd=2∧n=320));clear hq hkw;go_wp2_with fail;go_step3;go_wp2_with fail;obtain ⟨wb,hwb⟩:∃wb,wb=w1.alloc (.cells #[.int .i64 kd] 3):=⟨_,rfl⟩
   rw [←hwb];have xb:Box 3 wb w1.heap.size kd:=by rw [hwb];exact heap_alloc_new _ _
   have bb:Below w1.heap.size w1 wb:=by rw [hwb];exact (Below.refl _ w1).alloc (Nat.le_refl _) _
   have xn:=XN.out.next bb;have xl:=XL.out.next bb;have BB:=hide (zar BA.out bb);have le1:=BA.out.size;clear bb hwb XN XL BA;generalize w1.heap.size=g1 at *;go_loopw [10] (fun si wr=>∃j:Nat,j≤2∧si=.int .i64 (j:Int)∧(0<j→64≤p)∧(1<j→128≤p)∧Box 3 wr g1 kd∧Box 3 wr w.heap.size n∧Box 3 wr (w.heap.size+1) l∧Below w.heap.size w wr) (fun si _=>2-(intOf si).toNat)
   case atStart=>exact ⟨0,by omega,rfl,fun h=>absurd h (by omega),fun h=>absurd h (by omega),xb,xn,xl,BB.out⟩
   case round=>
    obtain ⟨j,hj,rfl,h0,h1,xb,xn,xl,bl⟩:=hrel;have BL:=hide bl;have C:=hide (zru kd n l _ _ _ j _ (by omega) (by omega) hj xb xn xl);have XB:=hide xb;have XN:=hide xn;have XL:=hide xl;clear xb xn xl bl;go_wp2_with fail;refine C.out.mono ?_;rintro e w2 ⟨rfl,b2⟩;have BL2:=hide (zar BL.out b2);have XB2:=hide (XB.out.next b2);have XN2:=hide (XN.out.next b2);have XL2:=hide (XL.out.next b2);clear b2 XB XN XL BL C;rcases j with _|_|_|j
    ·obtain ⟨sz,hsz⟩:∃sz,sz=zdi kd n:=⟨_,rfl⟩
     have es:ziq kd n 0=sz:=hsz.symm;have s0:0<sz∧sz≤320:=by rw [hsz];unfold zdi;have:=HKC.out;split;omega;split<;>omega
     rw [es,show zkt 0=64 from rfl,show zgQ kd n l 0=0 from rfl,show decide (0<2)=true from rfl];have m0:=Int.emod_nonneg p (show sz≠0 by omega);have m1:=Int.emod_lt_of_pos p s0.1;have et:Int.tmod p sz=p%sz:=Int.tmod_eq_emod_of_nonneg (by omega);have HZ:=hide hsz;clear es hsz h0 h1
     by_cases hp2:p<64
     ·go_wp2_with fail;go_region
      all_goals (try go_wp2)
      try rw [Exit.noGoto_ret]
      go_ret;exact ⟨zay (by rw [HQ2.out,if_pos hp2,HZ.out]),(BL2.out.alloc BL2.out.size _).drew⟩
     ·go_wp2_with fail;go_roundw
      case rel=>exact ⟨0+1,by omega,by go_num,fun _=>by omega,fun _=>by omega,XB2.out.next ((Below.refl _ _).alloc (Nat.le_refl _) _),XN2.out.next ((Below.refl _ _).alloc (Nat.le_refl _) _),XL2.out.next ((Below.refl _ _).alloc (Nat.le_refl _) _),BL2.out.alloc BL2.out.size _⟩
      case measure=>simp [intOf]
    ·obtain ⟨sz,hsz⟩:∃sz,sz=zem kd n:=⟨_,rfl⟩
     obtain ⟨fs,hfs⟩:∃fs,fs=zdj kd n l:=⟨_,rfl⟩
     have es:ziq kd n 1=sz:=hsz.symm;have ef:zgQ kd n l 1=fs:=hfs.symm;have s0:0<sz∧sz≤320:=by rw [hsz];unfold zem;have:=HKC.out;split;omega;split<;>omega
     have f0:0≤fs∧fs≤320:=by rw [hfs];unfold zdj;have:=HKC.out;split;omega;split<;>omega
     rw [es,ef,show zkt 1=128 from rfl,show decide (1<2)=true from rfl];have m0:=Int.emod_nonneg p (show sz≠0 by omega);have m1:=Int.emod_lt_of_pos p s0.1;have et:Int.tmod p sz=p%sz:=Int.tmod_eq_emod_of_nonneg (by omega);have HZ:=hide hsz;have HF:=hide hfs;have hp1:=h0 (by omega);clear es ef hsz hfs h0 h1
     by_cases hp2:p<128
     ·go_wp2_with fail;go_region
      all_goals (try go_wp2)
      try rw [Exit.noGoto_ret]
      go_ret;exact ⟨zay (by rw [HQ2.out,if_neg (by omega),if_pos hp2,HZ.out,HF.out]),(BL2.out.alloc BL2.out.size _).drew⟩
     ·go_wp2_with fail;go_roundw
      case rel=>exact ⟨1+1,by omega,by go_num,fun _=>by omega,fun _=>by omega,XB2.out.next ((Below.refl _ _).alloc (Nat.le_refl _) _),XN2.out.next ((Below.refl _ _).alloc (Nat.le_refl _) _),XL2.out.next ((Below.refl _ _).alloc (Nat.le_refl _) _),BL2.out.alloc BL2.out.size _⟩
      case measure=>simp [intOf]
    ·have hp1:=h1 (by omega);clear h0 h1;rw [show decide (2<2)=false from rfl];go_wp2_with fail
     try rw [Exit.noGoto_ret]
     go_ret;exact ⟨zay (by rw [HQ2.out,if_neg (by omega),if_neg (by omega)]),BL2.out.alloc BL2.out.size _⟩
    ·omega
end Go.Proofs.YtoijhhbiknhlnaaGreatDoor.B4
namespace Go.Proofs.YtoijhhbiknhlnaaGreatDoor.L24
set_option maxHeartbeats 1000000
set_option maxRecDepth 20000
open B4 C3 G6 R15 W13
open Go.RowKit
set_option linter.unusedVariables false
def bv (ram:Nat→Int):Nat→Value:=fun j=>.int .u8 (ram j)
theorem zku {w:World} {b:Nat} (k g a:Int):Calls Tryz.prog 71 #[.pointer (some ⟨b,0,none⟩),.agg #[.int .i64 k,.int .i64 g,.int .i64 a]] w fun e w'=>e=Ending.returned (.int .i64 255)∧Below w.heap.size w w':=by
 go_enter Tryz.func71,Tryz.ntmps71;go_wp2;go_ret;exact ⟨rfl,(Below.refl _ _).alloc (Nat.le_refl _) _⟩
theorem zkv {w:World} {b v c d:Nat} {L:List (Nat×(Nat→Value))} {bs:List Int} {f:Nat→Int} {wr rd st lo bu:Int} (h:HasX w b v c d L bs f wr rd st lo bu) (k g a:Int) {x:Int} (h16:L[16]? = some (1,fun _=>Value.int .i64 x)):Calls Tryz.prog 76 #[.pointer (some ⟨b,0,none⟩),.agg #[.int .i64 k,.int .i64 g,.int .i64 a]] w fun e w'=>e=Ending.returned (.int .i64 x)∧HasX w' b v c d L bs f wr rd st lo bu∧OnlyE (EX b v) w w':=by
 have c16:=h.1.get1 16 h16 (a:=9261) (h.isB.off 16 rfl) (by decide);have HL:=h.1.lt;have HE:=hide h;clear h h16;go_enter Tryz.func76,Tryz.ntmps76;go_wp2;go_ret;have B:=(Below.refl _ w).alloc (Nat.le_refl _) (.cells #[.int .i64 k,.int .i64 g,.int .i64 a] 143);exact ⟨rfl,HE.out.next B,zaB B⟩
theorem zmv {w:World} {b v c d:Nat} {L:List (Nat×(Nat→Value))} {bs:List Int} {f:Nat→Int} {wr rd st lo bu:Int} (h:HasX w b v c d L bs f wr rd st lo bu) (k g a:Int) {x:Int} (j:Nat) (ha:a=(j:Int)) (hj:j<8192) {m:Nat→Value} (h8:L[8]? = some (8192,m)) (hm:m j=.int .u8 x) (x0:0≤x) (x1:x<256):Calls Tryz.prog 73 #[.pointer (some ⟨b,0,none⟩),.agg #[.int .i64 k,.int .i64 g,.int .i64 a]] w fun e w'=>e=Ending.returned (.int .i64 x)∧HasX w' b v c d L bs f wr rd st lo bu∧OnlyE (EX b v) w w':=by
 have c8:=h.1.get 8 h8 j hj (a:=283+j) (by rw [h.isB.off 8 (a:=283) rfl]) (by omega);rw [hm] at c8;have HL:=h.1.lt;have HE:=hide h;subst ha;clear h h8 hm;go_enter Tryz.func73,Tryz.ntmps73;go_wp2_with fail;refine under_name fun w0 hw0=>?_
 have b0:Below w.heap.size w w0:=by rw [hw0];exact (Below.refl _ w).alloc (Nat.le_refl _) _
 have p2:w0.cell? ⟨w.heap.size,2,none⟩=some (.int .i64 (j:Int)):=by rw [hw0];exact (cell_of_row _ _ 2 _ _ _ (heap_alloc_new _ _)).trans rfl
 have lz:w.heap.size<w0.heap.size:=by rw [hw0];simp
 have i8:=zac ((b0.cell (p:=⟨b,283+j,none⟩) HL).trans c8) (Nat.lt_of_lt_of_le HL b0.size);have i2:=zac p2 lz;have X0:=hide (HE.out.next b0);have B0:=hide b0;clear hw0 b0 p2 c8 lz;haveI:=zal w0;refine zan (by kernel_rfl) (by kernel_rfl) ?_
 repeat (go_big_quiet_step (fail))
 refine wpQuiet_nil ?_;rintro _ ⟨wk,rfl⟩;go_wp2;go_ret;exact ⟨by first|rfl|exact zay (by omega),X0.out.next wk.below,zaB (zar B0.out wk.below)⟩
theorem zmw {w:World} {b v c d:Nat} {L:List (Nat×(Nat→Value))} {bs:List Int} {f:Nat→Int} {wr rd st lo bu:Int} (h:HasX w b v c d L bs f wr rd st lo bu) (k g a:Int) {x lt pg:Int} (h7:L[7]? = some (1,fun _=>Value.int .i64 lt)) (hp:zdH ((bs.length/8192:Nat):Int) lt g=pg)
  (KB:∀w,HasCard w c d bs→Calls Tryz.prog 124 #[.pointer (some ⟨c,0,none⟩),.int .i64 pg,.int .i64 a] w fun e w'=>e=Ending.returned (.int .i64 x)∧w'=w):Calls Tryz.prog 72 #[.pointer (some ⟨b,0,none⟩),.agg #[.int .i64 k,.int .i64 g,.int .i64 a]] w fun e w'=>e=Ending.returned (.int .i64 x)∧HasX w' b v c d L bs f wr rd st lo bu∧OnlyE (EX b v) w w':=by
 have c7:=h.1.get1 7 h7 (a:=282) (h.isB.off 7 rfl) (by decide);have c6:=h.1.get1 6 h.2.2.2.2.2.2.1 (a:=281) (h.isB.off 6 rfl) (by decide);have hn:=h.2.2.2.2.2.2.2.2.1.2;have HL:=h.1.lt;have HE:=hide h;clear h h7;go_enter Tryz.func72,Tryz.ntmps72;go_wp2_with fail;refine under_name fun w0 hw0=>?_
 have b0:Below w.heap.size w w0:=by rw [hw0];exact (Below.refl _ w).alloc (Nat.le_refl _) _
 have p1:w0.cell? ⟨w.heap.size,1,none⟩=some (.int .i64 g):=by rw [hw0];exact (cell_of_row _ _ 1 _ _ _ (heap_alloc_new _ _)).trans rfl
 have p2:w0.cell? ⟨w.heap.size,2,none⟩=some (.int .i64 a):=by rw [hw0];exact (cell_of_row _ _ 2 _ _ _ (heap_alloc_new _ _)).trans rfl
 have lz:w.heap.size<w0.heap.size:=by rw [hw0];simp
 have i7:=zac ((b0.cell (p:=⟨b,282,none⟩) HL).trans c7) (Nat.lt_of_lt_of_le HL b0.size);have i6:=zac ((b0.cell (p:=⟨b,281,none⟩) HL).trans c6) (Nat.lt_of_lt_of_le HL b0.size);have i1:=zac p1 lz;have i2:=zac p2 lz;have X0:=hide (HE.out.next b0);have B0:=hide b0;have KP:=hide (fun x:Kept w0=>zfj ⟨c,0,none⟩ (some ⟨d,0,none⟩) bs.length bs.length x.val (by omega) (X0.out.next x.below).2.2.1.1);have KG:=hide (fun x:Kept w0=>zrv ((bs.length/8192:Nat):Int) lt g x.val (X0.out.next x.below).2.2.2.1.1);rw [hp] at KG;have KY:=hide (fun x:Kept w0=>KB x.val (X0.out.next x.below).2.2.1);generalize ((bs.length/8192:Nat):Int)=n at *;clear hw0 b0 p1 p2 c7 c6 lz KB hp;haveI:=zal w0;refine zan (by kernel_rfl) (by kernel_rfl) ?_
 repeat (go_big_quiet_step ((first
  |(go_at_call 80;exact zap (KP.out _))
  |(go_at_call 125;exact zaU (KG.out _))
  |(go_at_call 124;exact zap (KY.out _)))))
 refine wpQuiet_nil ?_;rintro _ ⟨wk,rfl⟩;go_wp2;go_ret;exact ⟨rfl,X0.out.next wk.below,zaB (zar B0.out wk.below)⟩
theorem zon {w:World} {b v c d:Nat} {L:List (Nat×(Nat→Value))} {bs:List Int} {f:Nat→Int} {wr rd st lo bu:Int} (h:HasX w b v c d L bs f wr rd st lo bu) (k g a:Int) (ha:a=0) {x:Int} {R:World→Prop} (KT:∀w1,Below w.heap.size w w1→Calls Tryz.prog 126 #[.pointer (some ⟨b,0,none⟩)] w1 fun e w'=>e=Ending.returned (.int .i64 x)∧R w'):Calls Tryz.prog 74 #[.pointer (some ⟨b,0,none⟩),.agg #[.int .i64 k,.int .i64 g,.int .i64 a]] w fun e w'=>e=Ending.returned (.int .i64 x)∧R w':=by
 have b0:=(Below.refl _ w).alloc (Nat.le_refl _) (.cells #[.int .i64 k,.int .i64 g,.int .i64 a] 143);have K0:=hide (KT _ b0);subst ha;clear h KT b0;go_enter Tryz.func74,Tryz.ntmps74;go_wp2_with fail;refine K0.out.mono ?_;rintro e w2 ⟨rfl,h2⟩;have H2:=hide h2;clear h2;go_wp2;go_ret;exact ⟨rfl,H2.out⟩
theorem zoo {w:World} {b v c d:Nat} {L:List (Nat×(Nat→Value))} {bs:List Int} {f:Nat→Int} {wr rd st lo bu:Int} (h:HasX w b v c d L bs f wr rd st lo bu) (k g a:Int) (ha:a=2) {x:Int} (hx:bu%256=x):Calls Tryz.prog 74 #[.pointer (some ⟨b,0,none⟩),.agg #[.int .i64 k,.int .i64 g,.int .i64 a]] w fun e w'=>e=Ending.returned (.int .i64 x)∧HasX w' b v c d L bs f wr rd st lo bu∧OnlyE (EX b v) w w':=by
 have b0:=(Below.refl _ w).alloc (Nat.le_refl _) (.cells #[.int .i64 k,.int .i64 g,.int .i64 a] 143);have X0:=hide (h.next b0);have B0:=hide b0;have c1:=h.1.get1 1 h.2.2.2.2.2.1 (a:=21) (h.isB.off 1 rfl) (by decide);have HL:=h.1.lt;subst ha;have K0:=hide (zoh v f wr rd st lo bu _ X0.out.2.1);rw [hx] at K0;clear h b0 hx;go_enter Tryz.func74,Tryz.ntmps74;go_wp2_with fail;refine K0.out.mono ?_;rintro e w2 ⟨rfl,hw⟩;subst w2;go_wp2;go_ret;exact ⟨rfl,X0.out,zaB B0.out⟩
theorem zop {w:World} {b v c d:Nat} {L:List (Nat×(Nat→Value))} {bs:List Int} {f:Nat→Int} {wr rd st lo bu:Int} (h:HasX w b v c d L bs f wr rd st lo bu) (k g a:Int) (ha:a=3) {x y z:Int} (r0:0≤rd) (r1:rd<65536) (s0:0≤st) (s1:st<65536) (hx:bu/256%256=x) (hy:(rd+st)%65536=y) (hz:zcV f y=z):Calls Tryz.prog 74 #[.pointer (some ⟨b,0,none⟩),.agg #[.int .i64 k,.int .i64 g,.int .i64 a]] w fun e w'=>e=Ending.returned (.int .i64 x)∧HasX w' b v c d L bs f wr y st lo z∧OnlyE (EX b v) w w':=by
 have b0:=(Below.refl _ w).alloc (Nat.le_refl _) (.cells #[.int .i64 k,.int .i64 g,.int .i64 a] 143);have X0:=hide (h.next b0);have B0:=hide b0;have c1:=h.1.get1 1 h.2.2.2.2.2.1 (a:=21) (h.isB.off 1 rfl) (by decide);have HL:=h.1.lt;subst ha;have K0:=hide (zmu v f wr rd st lo bu _ X0.out.2.1 y z r0 r1 s0 s1 hy hz);rw [hx] at K0;have S0:=hide h.2.2.2.2.2.2.2.2.2;clear h b0 hx hy hz;go_enter Tryz.func74,Tryz.ntmps74;go_wp2_with fail;refine K0.out.mono ?_;rintro e w2 ⟨rfl,h2,o2⟩;have X2:=hide (X0.out.vram o2 h2 S0.out);have O2:=hide ((zaB (b:=b) (v:=v) B0.out).trans (zeT o2));clear h2 o2 K0;go_wp2;go_ret;exact ⟨rfl,X2.out,O2.out⟩
theorem zmx {w:World} {b:Nat} (k g a:Int) (a0:¬a=0) (a2:¬a=2) (a3:¬a=3):Calls Tryz.prog 74 #[.pointer (some ⟨b,0,none⟩),.agg #[.int .i64 k,.int .i64 g,.int .i64 a]] w fun e w'=>e=Ending.returned (.int .i64 0)∧Below w.heap.size w w':=by
 have e0:(a==0)=false:=by simp [a0]
 have e2:(a==2)=false:=by simp [a2]
 have e3:(a==3)=false:=by simp [a3]
 go_enter Tryz.func74,Tryz.ntmps74;go_wp2;go_ret;exact ⟨rfl,(Below.refl _ _).alloc (Nat.le_refl _) _⟩
end Go.Proofs.YtoijhhbiknhlnaaGreatDoor.L24
