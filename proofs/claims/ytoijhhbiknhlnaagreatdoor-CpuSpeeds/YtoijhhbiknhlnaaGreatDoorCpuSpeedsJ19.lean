/- Texts put together. -/
import Derived.Test.YtoijhhbiknhlnaaGreatDoorCpuSpeedsJ18
import Derived.Test.YtoijhhbiknhlnaaGreatDoorCpuSpeedsJ04
import Derived.Test.YtoijhhbiknhlnaaGreatDoorCpuSpeedsJ07
import Derived.Test.YtoijhhbiknhlnaaGreatDoorCpuSpeedsJ05
import Derived.Test.YtoijhhbiknhlnaaGreatDoorCpuSpeedsJ01
namespace Go.Proofs.YtoijhhbiknhlnaaGreatDoor.L24
set_option maxHeartbeats 1000000
set_option maxRecDepth 20000
open B4 C3 G6 I11 J23 M5 P22 R15 T10 V12 W13
open Go.RowKit
set_option linter.unusedVariables false
def gF (s:Int) (R:Nat→Int):Nat→Int:=fun j=>if j=0 then s else R (j-1)
theorem zjD (s:Int) (R:Nat→Int):rowF (iv (gF s R)) 21=R15.rowG s R:=by
 apply Array.ext_getElem?;intro j
 by_cases h:j<21
 ·rw [zbP _ _ _ h];unfold iv gF;rcases j with _|j
  ·exact (R15.rowG_0 s R).symm
  ·rw [if_neg (by omega),show j+1=1+j by omega,R15.rowG_at s R j (by omega),show 1+j-1=j by omega]
 ·rw [zed _ _ _ h,Array.getElem?_eq_none (by rw [R15.rowG_size];omega)]
theorem zyx {w:World} {b v c d:Nat} {L:List (Nat×(Nat→Value))} {bs:List Int} {f:Nat→Int} {wr rd st lo bu:Int} (h:HasX w b v c d L bs f wr rd st lo bu) (p g:Int) (hk:zaI p=2) (hg:zcJ p=g) (ha:atW p=2) {x:Int} (hx:bu%256=x):Calls Tryz.prog 28 #[.pointer (some ⟨b,0,none⟩),.int .i64 p] w fun e w'=>e=Ending.returned (.int .i64 x)∧HasX w' b v c d L bs f wr rd st lo bu∧OnlyE (EX b v) w w':=by
 refine zgs h p g 2 (zbB p 2 g 2 hk hg ha) (R:=fun w'=>HasX w' b v c d L bs f wr rd st lo bu∧OnlyE (EX b v) w w') fun w1 b1=>?_
 exact (zoo (h.next b1) 2 g 2 rfl hx).mono fun e w' ⟨e1,x2,o2⟩=>⟨e1,x2,(zaB b1).trans o2⟩
theorem zvh {w:World} {b v c d:Nat} {L:List (Nat×(Nat→Value))} {bs:List Int} {f:Nat→Int} {wr rd st lo bu:Int} (h:HasX w b v c d L bs f wr rd st lo bu) (p g:Int) (hk:zaI p=2) (hg:zcJ p=g) (ha:atW p=3) {x y z:Int} (r0:0≤rd) (r1:rd<65536) (s0:0≤st) (s1:st<65536) (hx:bu/256%256=x) (hy:(rd+st)%65536=y) (hz:zcV f y=z):Calls Tryz.prog 28 #[.pointer (some ⟨b,0,none⟩),.int .i64 p] w fun e w'=>e=Ending.returned (.int .i64 x)∧HasX w' b v c d L bs f wr y st lo z∧OnlyE (EX b v) w w':=by
 refine zgs h p g 3 (zbB p 2 g 3 hk hg ha) (R:=fun w'=>HasX w' b v c d L bs f wr y st lo z∧OnlyE (EX b v) w w') fun w1 b1=>?_
 exact (zop (h.next b1) 2 g 3 rfl r0 r1 s0 s1 hx hy hz).mono fun e w' ⟨e1,x2,o2⟩=>⟨e1,x2,(zaB b1).trans o2⟩
end Go.Proofs.YtoijhhbiknhlnaaGreatDoor.L24
namespace Go.Proofs.YtoijhhbiknhlnaaGreatDoor.B4
set_option maxHeartbeats 1000000
set_option maxRecDepth 20000
open C3
open Go.RowKit
set_option linter.unusedVariables false
theorem zvi {n:Int} (hn:zdh n=true) (l:Int) (p:Nat) (hp:p<128):0≤zdH n l p∧zdH n l p<n:=by
 have hk:=zfO hn;have h0:=zlt hn;unfold zdH;rw [if_pos ⟨hn,by omega⟩];generalize zdg n=k at *;have lo:0<zdi k n∧zdi k n≤n:=by unfold zdi;split;omega;split<;>omega
 have up:0<zem k n∧0≤zdj k n l∧zdj k n l+zem k n≤n:=by
  unfold zem zdj;split;omega;split<;>omega
 generalize zdi k n=s at *;generalize zem k n=t at *;generalize zdj k n l=f at *;have m0:=Int.emod_nonneg (p:Int) (show s≠0 by omega);have m1:=Int.emod_lt_of_pos (p:Int) lo.1;have m2:=Int.emod_nonneg (p:Int) (show t≠0 by omega);have m3:=Int.emod_lt_of_pos (p:Int) up.1;split
 ·omega
 ·rw [if_pos (by omega)];omega
end Go.Proofs.YtoijhhbiknhlnaaGreatDoor.B4
namespace Go.Proofs.YtoijhhbiknhlnaaGreatDoor.W13
set_option maxHeartbeats 1000000
set_option maxRecDepth 20000
open Go.RowKit
set_option linter.unusedVariables false
def mvTo (f:Nat→Int) (A S B T:Int):Nat→Nat→Int
 |0=>f
 |k+1=>zek (mvTo f A S B T k) (zbr B T k) (zcV (mvTo f A S B T k) (zbr A S k))
theorem zpf (f:Nat→Int) (A S B T:Int) (k:Nat):zek (mvTo f A S B T k) (zbr B T k) (zcV (mvTo f A S B T k) (zbr A S k))=mvTo f A S B T (k+1):=rfl
def farOf (c k:Int):Int:=1-2*zaP c k
theorem zjE (c k:Int):zaP c k=0∨zaP c k=1:=by
 unfold zaP;split<;>omega
theorem zjF (c k:Int):farOf c k=1∨farOf c k = -1:=by
 unfold farOf;rcases zjE c k with h|h<;>rw [h]<;>simp
theorem zjG (c k:Int) (w:World):Calls Tryz.prog 201 #[.int .i64 c,.int .i64 k] w fun e w'=>e=.returned (.func (.func 202) #[] #[.pointer (some ⟨w.heap.size,0,none⟩)])∧Box 3 w' w.heap.size (farOf c k)∧Below w.heap.size w w':=by
 have hb:=zjE c k;have HF:=hide (show farOf c k=1-2*zaP c k from rfl);have HB:=hide (zaM c k);generalize zaP c k=q at hb HF HB;go_enter Tryz.func201,Tryz.ntmps201;go_wp2_with (first|(go_at_call 56;refine (HB.out _).mono ?_;rintro e w' ⟨rfl,hw⟩;subst w'));go_ret;exact ⟨rfl,by rw [HF.out];exact heap_alloc_new _ _,(Below.refl _ w).alloc (Nat.le_refl _) _⟩
theorem zpg (S r x:Int) (hS:S=1∨S = -1) (h0:0≤r) (h1:r<65536) (hx:(r+S)%65536=x) (b:Nat) (w:World) (h:Box 3 w b S):Calls Tryz.prog 202 #[.int .i64 r,.pointer (some ⟨b,0,none⟩)] w fun e w'=>e=.returned (.int .i64 x)∧w'=w:=by
 have c:=h.cell;clear h;subst hx;go_enter Tryz.func202,Tryz.ntmps202;go_wp2_with (first|(go_at_call 33;refine (zbd _ _).mono ?_;rintro e w' ⟨rfl,hw⟩;subst w'));go_ret;exact ⟨rfl,rfl⟩
theorem OnlyE.box {E:Nat→Prop} {w w':World} {t:TypeId} {c:Nat} {v:Int} (h:OnlyE E w w') (k:Box t w c v) (hc:¬E c):Box t w' c v:=h.obj k hc
theorem under_name {P:Program} {c:Code} {Q:Exit→Act→World→Prop} {a:Act} {w:World} (h:∀wa,wa=w→Code.wp P c Q a wa):Code.wp P c Q a w:=h w rfl
theorem two_named {w wa:World} {o0 o1:Obj} (h:wa=(w.alloc o0).alloc o1):
  wa.heap[w.heap.size]? = some o0∧wa.heap[w.heap.size+1]? = some o1∧w.heap.size+1<wa.heap.size∧Below w.heap.size w wa:=by
 have e:wa.heap=(w.heap.push o0).push o1:=by rw [h];rfl
 refine ⟨?_,?_,?_,?_⟩
 ·rw [e,Array.getElem?_push,if_neg (by simp),Array.getElem?_push,if_pos rfl]
 ·rw [e,Array.getElem?_push,if_pos (by simp)]
 ·rw [e];simp
 ·rw [h];exact ((Below.refl _ w).alloc (Nat.le_refl _) _).alloc (by simp) _
theorem zsk (q:Option Addr) (e0 e1 n c A S B T:Int) (N:Nat) (x:Nat→Int) (E:Nat→Prop) (R:Nat→World→Prop) (w:World) (hA:e0%65536=A) (hB:e1%65536=B) (hS:farOf c 2=S) (hT:farOf c 3=T) (hN:n%65536+1=(N:Int))
  (hE:∀k,E k→k<w.heap.size) (h0:R 0 w) (hR:∀k w w',R k w→Below w.heap.size w w'→R k w') (hQ:∀w' g cs,w.heap.size≤g→R N w'→R N (w'.setRow g cs))
  (hw:∀k w,k<N→R k w→Calls Tryz.prog 189 #[.pointer q,.int .i64 (zbr A S k)] w fun e w'=>e=.returned (.int .i64 (x k))∧w'=w)
  (hp:∀k w,k<N→R k w→Calls Tryz.prog 194 #[.pointer q,.int .i64 (zbr B T k),.int .i64 (x k)] w fun e w'=>e=.returned (.tuple #[])∧R (k+1) w'∧OnlyE E w w'):
  Calls Tryz.prog 196 #[.pointer q,.agg #[.int .i64 e0,.int .i64 e1],.int .i64 n,.int .i64 c] w fun e w'=>e=.returned (.agg #[.int .i64 (zbr A S N),.int .i64 (zbr B T N)])∧R N w'∧OnlyE E w w':=by
 have hS2:=hide (show S=1∨S = -1 by rw [←hS];exact zjF c 2);have hT2:=hide (show T=1∨T = -1 by rw [←hT];exact zjF c 3);have GS:=hide (zjG c 2);have GT:=hide (zjG c 3);rw [hS] at GS;rw [hT] at GT;have HN:=hide hN;have hN1:(N:Int)≤65536:=by omega
 have A0:0≤A:=by omega
 have A1:A<65536:=by omega
 have B0:0≤B:=by omega
 have B1:B<65536:=by omega
 have HE:=hide hE;have HR:=hide hR;have HQ:=hide hQ;have HW:=hide hw;have HP:=hide hp;have R0:=hide h0;clear hS hT hE hR hQ hw hp h0;go_enter Tryz.func196,Tryz.ntmps196;go_wp2_with fail;refine under_name fun wa hwa=>?_
 obtain ⟨b0,b1,hs,BB⟩:=two_named hwa;have BA:=hide BB;clear hwa BB;obtain ⟨z,hz⟩:∃z,w.heap.size=z:=⟨_,rfl⟩
 rw [hz] at b0 b1 hs ⊢;have HZ:=hide hz;clear hz;have k0:=zac ((cell_of_row wa z 0 _ _ _ b0).trans rfl) (show z<wa.heap.size by omega);have k1:=zac ((cell_of_row wa z 1 _ _ _ b0).trans rfl) (show z<wa.heap.size by omega);haveI:=zal wa;refine zan (by kernel_rfl) (by kernel_rfl) ?_
 repeat (go_big_quiet_step ((first|(go_at_call 33;exact zap (zbd _ _)))))
 refine wpQuiet_nil ?_;rintro _ ⟨wk,rfl⟩;clear k0 k1;rw [hA,hB];clear hA hB;obtain ⟨w1,hw1⟩:∃w1,w1=wk.val:=⟨_,rfl⟩
 rw [←hw1];have KB:Below wa.heap.size wa w1:=by rw [hw1];exact wk.below
 clear hw1 wk;have W1:=hide ((KB.block (z+1) hs).trans b1);have B1':=hide (zar BA.out KB);have S1:=hide (Nat.lt_of_lt_of_le hs KB.size);clear BA KB b0 b1 hs;go_wp2_with fail;refine (GS.out _).mono ?_;rintro e w2 ⟨rfl,x2,n2⟩;have W2:=hide ((n2.block (z+1) S1.out).trans W1.out);have B2:=hide (zar B1'.out n2);have X2:=hide x2;have G2:=hide (show z+1<w1.heap.size from S1.out);have S2:=hide (Nat.lt_of_lt_of_le S1.out n2.size);clear x2 n2 W1 B1' S1;obtain ⟨g1,hg1⟩:∃g1,w1.heap.size=g1:=⟨_,rfl⟩
 rw [hg1] at X2 G2 ⊢;clear hg1;go_wp2_with fail;refine (GT.out _).mono ?_;rintro e w3 ⟨rfl,x3,n3⟩;have W3:=hide ((n3.block (z+1) S2.out).trans W2.out);have B3:=hide (zar B2.out n3);have X3:=hide (X2.out.next n3);have Y3:=hide x3;have G3:=hide (show z+1<w2.heap.size from S2.out);clear x3 n3 W2 B2 X2 S2;obtain ⟨g2,hg2⟩:∃g2,w2.heap.size=g2:=⟨_,rfl⟩
 rw [hg2] at Y3 G3 ⊢;clear hg2;go_wp2_with (first|(go_at_call 33;refine (zbd _ _).mono ?_;rintro e w' ⟨rfl,hw⟩;subst w'));have P0:=zga A S A0 A1;have Q0:=zga B T B0 B1;go_loopw [9,10,26] (fun s9 s10 si wr=>∃(k:Nat),k≤N∧si=.int .i64 (k:Int)∧s9=.int .i64 (zbr A S k)∧s10=.int .i64 (zbr B T k)∧R k wr∧Box 3 wr g1 S∧Box 3 wr g2 T∧wr.heap[z+1]? = some (.cells #[.int .i64 0,.int .i64 0] 157 (0,0))∧OnlyE E w wr) (fun _ _ si _=>N-(intOf si).toNat)
 case atStart=>exact ⟨0,Nat.zero_le _,rfl,by rw [P0],by rw [Q0],HR.out 0 _ _ R0.out B3.out,X3.out,Y3.out,W3.out,OnlyE.of B3.out⟩
 case round=>
  obtain ⟨k,hk,rfl,rfl,rfl,hr,hx,hy,hrow,ho⟩:=hrel;have RK:=hide hr;have XK:=hide hx;have YK:=hide hy;have WK:=hide hrow;have OK:=hide ho;clear hr hx hy hrow ho W3 B3 X3 Y3 R0 P0 Q0;have E1:=hide (show ¬E g1 from fun h=>by have:=HE.out g1 h;have:=HZ.out;have:=G2.out;omega);have E2:=hide (show ¬E g2 from fun h=>by have:=HE.out g2 h;have:=HZ.out;have:=G3.out;omega);have E3:=hide (show ¬E (z+1) from fun h=>by have:=HE.out (z+1) h;have:=HZ.out;omega)
  by_cases hlt:k<N
  ·have HN1:=hide (zfZ A S k);have HN2:=hide (zfZ B T k);have pa0:=zeB A S k;have pa1:=zeC A S k;have pb0:=zeB B T k;have pb1:=zeC B T k;have CW:=hide (HW.out k · hlt);have CP:=hide (HP.out k · hlt);obtain ⟨a,ha⟩:∃a,zbr A S k=a:=⟨_,rfl⟩
   obtain ⟨b,hb⟩:∃b,zbr B T k=b:=⟨_,rfl⟩
   rw [ha] at HN1 pa0 pa1 CW ⊢;rw [hb] at HN2 pb0 pb1 CP ⊢;clear ha hb;go_wp2_with fail;refine (CW.out _ RK.out).mono ?_;rintro e w' ⟨rfl,hw⟩;subst w';go_wp2_with fail;refine (CP.out _ RK.out).mono ?_;rintro e w4 ⟨rfl,r4,o4⟩;have R4:=hide r4;have X4:=hide (o4.box XK.out E1.out);have Y4:=hide (o4.box YK.out E2.out);have W4:=hide (o4.obj WK.out E3.out);have O4:=hide (OK.out.trans o4);clear r4 o4 RK XK YK WK OK;go_wp2_with fail;refine (zpg S a _ hS2.out pa0 pa1 HN1.out g1 _ X4.out).mono ?_;rintro e w' ⟨rfl,hw⟩;subst w';go_wp2_with fail;refine (zpg T b _ hT2.out pb0 pb1 HN2.out g2 _ Y4.out).mono ?_;rintro e w' ⟨rfl,hw⟩;subst w';go_wp2_with fail;go_roundw
   case rel=>exact ⟨k+1,by omega,by go_num,rfl,rfl,R4.out,X4.out,Y4.out,W4.out,O4.out⟩
   case measure=>simp [intOf];omega
  ·obtain rfl:k=N:=by omega
   go_wp2_with (first|(refine wpList_store_row rfl 157 (.tmp 8) (.tmp 43) rfl (z+1) _ rfl rfl 157 _ WK.out (by kernel_rfl) rfl (by kernel_rfl) ?_));refine bodyPost_ret (results_cell_row rfl _ _ (z+1) 157 _ (0,0) _ rfl (setRow_heap _ _ _ _ _ _ WK.out) Tryz.underlying157 rfl (by kernel_rfl)) rfl ?_;exact ⟨rfl,HQ.out _ _ _ (by have:=HZ.out;omega) RK.out,OK.out.setRow (z+1) (by have:=HZ.out;omega) _⟩
theorem move_is (b:Nat) (f:Nat→Int) (wr rd st lo bu:Int) (w:World) (h:HasM w b true f wr rd st lo bu) (e0 e1 n c A S B T X Y:Int) (N:Nat) (F:Nat→Int) (hA:e0%65536=A) (hB:e1%65536=B) (hS:farOf c 2=S) (hT:farOf c 3=T) (hN:n%65536+1=(N:Int)) (hX:zbr A S N=X) (hY:zbr B T N=Y) (hF:mvTo f A S B T N=F):
  Calls Tryz.prog 196 #[.pointer (some ⟨b,0,none⟩),.agg #[.int .i64 e0,.int .i64 e1],.int .i64 n,.int .i64 c] w fun e w'=>e=.returned (.agg #[.int .i64 X,.int .i64 Y])∧HasM w' b true F wr rd st lo bu∧Only b w w':=by
 subst hX hY hF;exact zsk (some ⟨b,0,none⟩) e0 e1 n c A S B T N (fun k=>zcV (mvTo f A S B T k) (zbr A S k)) (fun k=>k=b) (fun k w=>HasM w b true (mvTo f A S B T k) wr rd st lo bu) w hA hB hS hT hN (fun k hk=>by rw [hk];exact h.lt) h (fun k w w' hh hb=>hh.next hb)
  (fun w' g cs hg hh=>(setRow_other w' g b cs (by have:=h.lt;omega)).trans hh)
  (fun k w hk hh=>zoe b _ wr rd st lo bu w hh _ _ rfl)
  (fun k w hk hh=>(zof b _ wr rd st lo bu w hh _ _ _ (zpf f A S B T k)).mono fun e w' hh=>⟨hh.1,hh.2.1,hh.2.2⟩)
end Go.Proofs.YtoijhhbiknhlnaaGreatDoor.W13
namespace Go.Proofs.YtoijhhbiknhlnaaGreatDoor.L24
set_option maxHeartbeats 1000000
set_option maxRecDepth 20000
open B4 C3 G6 I11 J23 M5 P22 R15 T10 V12 W13
open Go.RowKit
set_option linter.unusedVariables false
def upZ (Z:Nat→Nat→Int) (k:Nat) (g:Nat→Int):Nat→Nat→Int:=fun i=>if i=k then g else Z i
theorem zdd (Z:Nat→Nat→Int) (k:Nat) (g:Nat→Int):upZ Z k g k=g:=by simp [upZ]
theorem zbc (Z:Nat→Nat→Int) (k i:Nat) (g:Nat→Int) (h:i≠k):upZ Z k g i=Z i:=by simp [upZ,h]
theorem zhP (Z:Nat→Nat→Int) (k:Nat):upZ Z k (Z k)=Z:=funext fun i=>by
 unfold upZ;split
 ·rename_i h;rw [h]
 ·rfl
def oneV (x:Int):Nat→Int:=fun _=>x
def twoV (x y:Int):Nat→Int:=fun j=>if j=0 then x else y
def isB (x:Int):Bool:=x==1
def b2i (b:Bool):Int:=if b then 1 else 0
theorem zgW (b:Bool):isB (b2i b)=b:=by cases b<;>rfl
def tvZ (g:Nat→Int):Nat→Value:=tv (g 0) (g 1) (isB (g 2)) (g 3)
def pvZ (g:Nat→Int):Nat→Value:=pv (isB (g 0)) (isB (g 1)) (isB (g 2)) (g 3)
def pcZ (g:Nat→Int):Nat→Value:=J23.pc (fun n=>g (2*n)) (fun n=>isB (g (2*n+1)))
def XP (v c:Nat) (Z:Nat→Nat→Int):List (Nat×(Nat→Value)):=
 [(21,iv (Z 0)),(1,fun _=>.pointer (some ⟨v,0,none⟩)),(256,iv (Z 2)),(1,fun _=>Value.int .i64 (Z 3 0)),(1,fun _=>.bool (isB (Z 4 0))),(1,fun _=>.bool (isB (Z 5 0))),(1,fun _=>.pointer (some ⟨c,0,none⟩)),(1,fun _=>Value.int .i64 (Z 7 0)),(8192,bv (Z 8)),(8,iv (Z 9)),(514,iv (Z 10)),(244,iv (Z 11)),(4,tvZ (Z 12)),(2,sv (Z 13 0) (Z 13 1)),(4,pvZ (Z 14)),(10,pcZ (Z 15)),(1,fun _=>Value.int .i64 (Z 16 0)),(1,fun _=>Value.int .i64 (Z 17 0))]
def advG (g:Nat→Int) (t:Int):Nat→Int:=fun j=>if j=1 then cT (g 0) (g 1) (isB (g 2)) (g 3) t else if j=3 then pT (g 0) (g 1) (isB (g 2)) (g 3) t else g j
def rndG (g:Nat→Int) (t:Int):Int:=kT (g 0) (g 1) (isB (g 2)) (g 3) t
def setZ (Z:Nat→Nat→Int):Nat→Nat→Int:=upZ (upZ (upZ Z 12 (advG (Z 12) (Z 17 0))) 13 (twoV (mT (Z 13 0) (rndG (Z 12) (Z 17 0))) (lT (Z 13 1) (rndG (Z 12) (Z 17 0))))) 17 (oneV 0)
theorem zph (g:Nat→Int):advG g 0=g:=funext fun j=>by
 unfold advG cT pT goT;simp;split
 ·rename_i h;rw [h]
 ·split
  ·rename_i h;rw [h]
  ·rfl
theorem zpi (g:Nat→Int):rndG g 0=0:=by
 unfold rndG kT goT;simp
def zdm (Z:Nat→Nat→Int):Prop:=
 (0≤Z 0 0∧Z 0 0<32)∧(∀i,i<20→0≤Z 0 (i+1)∧Z 0 (i+1)<65536)∧(0≤Z 3 0∧Z 3 0<128)∧(∀j,0≤Z 8 j∧Z 8 j<256)∧(0≤Z 10 1∧Z 10 1<512)∧(∀j,0≤Z 10 (j+2)∧Z 10 (j+2)<512)∧P22.okP (Z 11)∧okT (Z 12 0) (Z 12 1) (isB (Z 12 2)) (Z 12 3)=true∧((0≤Z 13 0∧Z 13 0<8)∧0≤Z 13 1∧Z 13 1<8)∧(0≤Z 16 0∧Z 16 0<256)∧(0≤Z 17 0∧Z 17 0≤8388608) ∧
 (∀j,0≤Z 18 j∧Z 18 j<65536)∧(0≤Z 19 0∧Z 19 0<65536)∧(0≤Z 19 1∧Z 19 1<65536)∧(1≤Z 19 2∧Z 19 2<65536)∧(0≤Z 19 3∧Z 19 3<256)∧(0≤Z 19 4∧Z 19 4<65536)∧Z 13=twoV (Z 13 0) (Z 13 1)∧Z 17=oneV (Z 17 0)
def HasP (w:World) (b v c d:Nat) (bs:List Int) (Z:Nat→Nat→Int):Prop:=HasX w b v c d (XP v c Z) bs (Z 18) (Z 19 0) (Z 19 1) (Z 19 2) (Z 19 3) (Z 19 4)
theorem HasP.next {w w':World} {b v c d:Nat} {bs:List Int} {Z:Nat→Nat→Int} (h:HasP w b v c d bs Z) (k:Below w.heap.size w w'):HasP w' b v c d bs Z:=HasX.next h k
theorem HasP.only {E:Nat→Prop} {w w':World} {b v c d:Nat} {bs:List Int} {Z:Nat→Nat→Int} (h:HasP w b v c d bs Z) (k:OnlyE E w w') (hb:¬E b) (hv:¬E v) (hc:¬E c) (hd:¬E d) (hE:∀i,E i→High i):HasP w' b v c d bs Z:=by
 obtain ⟨q1,q2,q3,q4,q5⟩:=h;exact ⟨k.obj q1 hb,k.obj q2 hv,q3.only k hc hd,q4.only k hE,q5⟩
theorem zjH (g:Nat→Int):vF (g 0) (g 1) (fun j=>g (j+2))=g:=funext fun j=>by
 unfold vF;rcases j with _|_|j
 ·rfl
 ·rfl
 ·rw [if_neg (by omega),if_neg (by omega)];rfl
theorem zpj (g:Nat→Int):gF (g 0) (fun j=>g (j+1))=g:=funext fun j=>by
 unfold gF;rcases j with _|j
 ·rfl
 ·rw [if_neg (by omega)];rfl
theorem zfR (Z:Nat→Nat→Int) (k:Nat) (g:Nat→Int) (h:k≠12∧k≠13∧k≠17):setZ (upZ Z k g)=upZ (setZ Z) k g:=by
 have h12:upZ Z k g 12=Z 12:=zbc _ _ _ _ (fun e=>h.1 e.symm);have h13:upZ Z k g 13=Z 13:=zbc _ _ _ _ (fun e=>h.2.1 e.symm);have h17:upZ Z k g 17=Z 17:=zbc _ _ _ _ (fun e=>h.2.2 e.symm);unfold setZ;rw [h12,h13,h17];funext i;unfold upZ
 by_cases e1:i=17
 ·subst e1;rw [if_pos rfl,if_neg (fun e=>h.2.2 e.symm),if_pos rfl]
 ·rw [if_neg e1]
  by_cases e2:i=13
  ·subst e2;rw [if_pos rfl,if_neg (fun e=>h.2.1 e.symm),if_neg e1,if_pos rfl]
  ·rw [if_neg e2]
   by_cases e3:i=12
   ·subst e3;rw [if_pos rfl,if_neg (fun e=>h.1 e.symm),if_neg e1,if_neg e2,if_pos rfl]
   ·rw [if_neg e3]
    by_cases e4:i=k
    ·rw [if_pos e4,if_pos e4]
    ·rw [if_neg e4,if_neg e4,if_neg e1,if_neg e2,if_neg e3]
theorem zjI (Y:Nat→Nat→Int) (h13:Y 13=twoV (Y 13 0) (Y 13 1)) (h17:Y 17=oneV 0):setZ Y=Y:=by
 have e:Y 17 0=0:=by rw [h17];rfl
 unfold setZ;rw [e,zph,zpi,show mT (Y 13 0) 0=Y 13 0 from rfl,show lT (Y 13 1) 0=Y 13 1 from rfl,←h13,←h17,zhP,zhP,zhP]
theorem zpk (Z:Nat→Nat→Int) (i:Nat) (h:i≠12∧i≠13∧i≠17):setZ Z i=Z i:=by
 unfold setZ;rw [zbc _ _ _ _ h.2.2,zbc _ _ _ _ h.2.1,zbc _ _ _ _ h.1]
def romB (bs:List Int) (Z:Nat→Nat→Int) (p:Int):Int:=bs.getD (zdH ((bs.length/8192:Nat):Int) (Z 7 0) (p/8192)*8192+p%8192).toNat 0
def zcw (Z:Nat→Nat→Int) (x:Int):Nat→Nat→Int:=upZ Z 16 (oneV x)
def zmU (Z:Nat→Nat→Int):Nat→Nat→Int:=upZ (upZ Z 3 (oneV 0)) 13 (twoV (Z 13 0%8) (bic3 (Z 13 1) 2))
def zmV (a b c d e:Int):Nat→Int:=fun j=>if j=0 then a else if j=1 then b else if j=2 then c else if j=3 then d else e
def zmW (Z:Nat→Nat→Int):Nat→Nat→Int:=upZ Z 19 (zmV (Z 19 0) ((Z 19 1+Z 19 2)%65536) (Z 19 2) (Z 19 3) (zcV (Z 18) ((Z 19 1+Z 19 2)%65536)))
def vceW (g:Nat→Int) (a y:Int):Nat→Int:=
 if a=0 then vF y (g 1) (fun j=>g (j+2)) else if a=2 then vF (g 0) (g 1/256*256+y) (fun j=>g (j+2)) else if a=3 then vF (g 0) (g 1%256+y%2*256) (fun j=>g (j+2))
 else if a=4 then vF (g 0) (g 1) (V12.upd (fun j=>g (j+2)) (g 1).toNat (g ((g 1).toNat+2)/256*256+y)) else if a=5 then vF (g 0) ((g 1+1)%512) (V12.upd (fun j=>g (j+2)) (g 1).toNat (g ((g 1).toNat+2)%256+y%2*256)) else g
def vceR (g:Nat→Int) (a:Int):Int:=if a=4 then g ((g 1).toNat+2)%256 else if a=5 then 254+g ((g 1).toNat+2)/256 else 255
def vceN (g:Nat→Int) (a:Int):Nat→Int:=if a=5 then vF (g 0) ((g 1+1)%512) (fun j=>g (j+2)) else g
def timW (g:Nat→Int) (a y:Int):Nat→Int:=
 if a=0 then fun j=>if j=0 then y%128 else g j else fun j=>if j=1 then ctlC (g 0) (g 1) (isB (g 2)) (isB (y%2)) else if j=2 then y%2 else if j=3 then ctlP (g 3) (isB (g 2)) (isB (y%2)) else g j
theorem zsl {p:Int} (hk:zaI p=5):atW p=0∨atW p=1:=by
 unfold atW;rw [hk];simp;omega
def padW (g:Nat→Int) (y:Int):Nat→Int:=fun j=>if j=0 then zaP y 0 else if j=1 then zaP y 1 else if j=2 then b2i (J23.nxD (isB (g 1)) (isB (g 2)) (J23.clrB y)) else J23.nxI (isB (g 0)) (J23.selB y) (J23.clrB y) (g 3)
theorem zvj (g:Nat→Int) (y:Int):pvZ (padW g y)=pv (J23.selB y) (J23.clrB y) (J23.nxD (isB (g 1)) (isB (g 2)) (J23.clrB y)) (J23.nxI (isB (g 0)) (J23.selB y) (J23.clrB y) (g 3)):=by
 unfold pvZ;rw [show isB (padW g y 2)=J23.nxD (isB (g 1)) (isB (g 2)) (J23.clrB y) from zgW _];rfl
def irqM (m l a y:Int):Int:=if a=2 then y%8 else if a=3 then m%8 else m
def irqL (m l a y:Int):Int:=if a=2 then l%8 else if a=3 then bic3 l 4 else l
def zkG (Z:Nat→Nat→Int) (n:Int) (may:Bool):Nat→Nat→Int:=upZ (upZ Z 3 (oneV (bits .or .i64 (Z 3 0) n))) 13 (if may=true then twoV (Z 13 0%8) (or3 (Z 13 1) 2) else Z 13)
theorem zyy (s n:Int) (s0:0≤s) (s1:s<128) (hn:n=1∨n=2∨n=4∨n=8∨n=16∨n=32):(if s/n%2=0 then s+n else s)=bits .or .i64 s n∧0≤bits .or .i64 s n∧bits .or .i64 s n<128:=by
 obtain ⟨k,rfl⟩:∃k:Nat,s=(k:Int):=⟨s.toNat,by omega⟩
 have hk:k<128:=by omega
 have q:∀x:Fin 128,∀n ∈ [(1:Int),2,4,8,16,32],(if (x.val:Int)/n%2=0 then (x.val:Int)+n else (x.val:Int))=bits .or .i64 (x.val:Int) n∧0≤bits .or .i64 (x.val:Int) n∧bits .or .i64 (x.val:Int) n<128:=by decide +kernel
 exact q ⟨k,hk⟩ n (by rcases hn with rfl|rfl|rfl|rfl|rfl|rfl<;>simp)
def gW (g:Nat→Int) (a y:Int):Nat→Int:=
 if a=0 then gF (y%32) (fun j=>g (j+1)) else if (a=2∨a=3)∧g 0<20 then gF (g 0) (R15.upd (fun j=>g (j+1)) (g 0).toNat (bits .and .i64 (R15.halfOf (g ((g 0).toNat+1)) a y) (R15.mk (g 0).toNat))) else g
def effW (g:Nat→Int) (a:Int):Int:=if a=0 then 0 else if (a=2∨a=3)∧g 0<20 then R15.bringsOf (g 0) a else 0
theorem zsm (g:Nat→Int) (a y:Int) (g0:0≤g 0) (w:World) (hM:HasMask w):Calls Tryz.prog 143 #[.agg (rowF (iv g) 21),.int .i64 a,.int .i64 y] w fun e w'=>e=Ending.returned (.tuple #[.agg (rowF (iv (gW g a y)) 21),.int .i64 (effW g a)])∧Below w.heap.size w w':=by
 unfold gW effW
 conv=>arg 3;rw [←zpj g,zjD]
 by_cases a0:a=0
 ·subst a0;rw [if_pos rfl,if_pos rfl,zjD];exact R15.write_sel (g 0) y (y%32) (fun j=>g (j+1)) rfl w
 rw [if_neg a0,if_neg a0]
 by_cases ha:(a=2∨a=3)∧g 0<20
 ·rw [if_pos ha,if_pos ha,zjD];obtain ⟨i,hi⟩:∃i:Nat,g 0=(i:Int):=⟨(g 0).toNat,by omega⟩
  rw [hi,Int.toNat_natCast];exact R15.write_at i (by omega) a y _ _ _ _ (fun j=>g (j+1)) ha.1 rfl rfl rfl rfl w hM
 ·rw [if_neg ha,if_neg ha]
  conv=>arg 5;rw [←zpj g,zjD]
  exact R15.write_no a (g 0) y (fun j=>g (j+1)) ⟨a0,fun h=>.inr (by omega)⟩ w
def zgk (Z:Nat→Nat→Int) (a y:Int):Nat→Nat→Int:=upZ (upZ Z 0 (gW (Z 0) a y)) 5 (oneV (b2i (mvB (isB (Z 5 0)) (gW (Z 0) a y 0) a)))
def zpl (Z:Nat→Nat→Int):Nat→Nat→Int:=upZ (upZ Z 18 (mvTo (Z 18) (Z 0 17%65536) (W13.farOf (Z 0 16) 2) (Z 0 18%65536) (W13.farOf (Z 0 16) 3) (Z 0 19%65536+1).toNat)) 0 (up (up (up (Z 0) 17 (zbr (Z 0 17%65536) (W13.farOf (Z 0 16) 2) (Z 0 19%65536+1).toNat)) 18 (zbr (Z 0 18%65536) (W13.farOf (Z 0 16) 3) (Z 0 19%65536+1).toNat)) 19 65535)
def zsn (Z:Nat→Nat→Int):Nat→Nat→Int:=zkG (zpl Z) 16 (isB (Z 0 16/2%2))
def effZ (Z:Nat→Nat→Int) (e y:Int):Nat→Nat→Int:=
 if e=1 then upZ Z 19 (zmV (Z 0 1) (Z 19 1) (Z 19 2) (Z 19 3) (Z 19 4))
 else if e=2 then upZ Z 19 (zmV (Z 19 0) (Z 0 2) (Z 19 2) (Z 19 3) (zcV (Z 18) (Z 0 2)))
 else if e=3 then upZ Z 19 (zmV (Z 19 0) (Z 19 1) (Z 19 2) y (Z 19 4))
 else if e=4 then upZ (upZ Z 18 (zek (Z 18) (Z 19 0) (Z 19 3+256*y))) 19 (zmV ((Z 19 0+Z 19 2)%65536) (Z 19 1) (Z 19 2) (Z 19 3) (Z 19 4))
 else if e=5 then upZ Z 19 (zmV (Z 19 0) (Z 19 1) (R15.farOf (R15.pairOf (Z 0 6) 11)) (Z 19 3) (Z 19 4))
 else if e=6 then zsn Z
 else if e=7 then upZ Z 4 (oneV 1)
 else Z
theorem zyz (g:Nat→Int) (a:Int):0≤effW g a∧effW g a≤7:=by
 unfold effW;split
 ·omega
 split
 ·unfold R15.bringsOf;split
  ·omega
  split
  ·split<;>omega
  split
  ·omega
  split
  ·omega
  split
  ·omega
  split
  ·omega
  split<;>omega
 ·omega
end Go.Proofs.YtoijhhbiknhlnaaGreatDoor.L24
