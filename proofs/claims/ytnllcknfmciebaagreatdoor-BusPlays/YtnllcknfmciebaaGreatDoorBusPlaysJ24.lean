/- Texts put together. -/
import Derived.Test.YtnllcknfmciebaaGreatDoorBusPlaysJ23
import Derived.Test.YtnllcknfmciebaaGreatDoorBusPlaysJ05
import Derived.Test.YtnllcknfmciebaaGreatDoorBusPlaysJ09
import Derived.Test.YtnllcknfmciebaaGreatDoorBusPlaysJ06
import Derived.Test.YtnllcknfmciebaaGreatDoorBusPlaysJ01
namespace Go.Proofs.YtnllcknfmciebaaGreatDoor.L24
set_option maxRecDepth 20000
open B4 C3 G6 I11 J23 M5 P22 R15 T10 V12 W13
open Go.RowKit
set_option linter.unusedVariables false
def gF (s:Int) (R:Nat→Int):Nat→Int:=fun j=>if j=0 then s else R (j-1)
theorem gF_row (s:Int) (R:Nat→Int):rowF (iv (gF s R)) 21=R15.rowG s R:=by
 apply Array.ext_getElem?
 intro j
 by_cases h:j<21
 ·rw [rowF_at _ _ _ h]
  unfold iv gF
  rcases j with _|j
  ·exact (R15.rowG_0 s R).symm
  ·rw [if_neg (by omega),show j+1=1+j by omega,R15.rowG_at s R j (by omega),show 1+j-1=j by omega]
 ·rw [rowF_none _ _ _ h,Array.getElem?_eq_none (by rw [R15.rowG_size];omega)]
theorem rd_low {w:World} {b v c d:Nat} {L:List (Nat×(Nat→Value))} {bs:List Int} {f:Nat→Int} {wr rd st lo bu:Int} (h:HasX w b v c d L bs f wr rd st lo bu) (p g:Int) (hk:kindW p=2) (hg:pageW p=g) (ha:atW p=2) {x:Int} (hx:bu%256=x):Calls Tryz.prog 6 #[.pointer (some ⟨b,0,none⟩),.int .i64 p] w fun e w'=>e=Ending.returned (.int .i64 x)∧HasX w' b v c d L bs f wr rd st lo bu∧OnlyE (EX b v) w w':=by
 refine read_vdc h p g 2 (where_at p 2 g 2 hk hg ha) (R:=fun w'=>HasX w' b v c d L bs f wr rd st lo bu∧OnlyE (EX b v) w w') fun w1 b1=>?_
 exact (readVdc_2 (h.next b1) 2 g 2 rfl hx).mono fun e w' ⟨e1,x2,o2⟩=>⟨e1,x2,(ex_below b1).trans o2⟩
theorem rd_high {w:World} {b v c d:Nat} {L:List (Nat×(Nat→Value))} {bs:List Int} {f:Nat→Int} {wr rd st lo bu:Int} (h:HasX w b v c d L bs f wr rd st lo bu) (p g:Int) (hk:kindW p=2) (hg:pageW p=g) (ha:atW p=3) {x y z:Int} (r0:0≤rd) (r1:rd<65536) (s0:0≤st) (s1:st<65536) (hx:bu/256%256=x) (hy:(rd+st)%65536=y) (hz:wordAt f y=z):Calls Tryz.prog 6 #[.pointer (some ⟨b,0,none⟩),.int .i64 p] w fun e w'=>e=Ending.returned (.int .i64 x)∧HasX w' b v c d L bs f wr y st lo z∧OnlyE (EX b v) w w':=by
 refine read_vdc h p g 3 (where_at p 2 g 3 hk hg ha) (R:=fun w'=>HasX w' b v c d L bs f wr y st lo z∧OnlyE (EX b v) w w') fun w1 b1=>?_
 exact (readVdc_3 (h.next b1) 2 g 3 rfl r0 r1 s0 s1 hx hy hz).mono fun e w' ⟨e1,x2,o2⟩=>⟨e1,x2,(ex_below b1).trans o2⟩
end Go.Proofs.YtnllcknfmciebaaGreatDoor.L24
namespace Go.Proofs.YtnllcknfmciebaaGreatDoor.B4
set_option maxRecDepth 20000
open C3
open Go.RowKit
set_option linter.unusedVariables false
theorem page_in {n:Int} (hn:known n=true) (l:Int) (p:Nat) (hp:p<128):0≤pageOf n l p∧pageOf n l p<n:=by
 have hk:=kind_cases hn
 have h0:=known_le hn
 unfold pageOf
 rw [if_pos ⟨hn,by omega⟩]
 generalize kindOf n=k at *
 have lo:0<lowSize k n∧lowSize k n≤n:=by unfold lowSize;split;omega;split<;>omega
 have up:0<upSize k n∧0≤upFirst k n l∧upFirst k n l+upSize k n≤n:=by
  unfold upSize upFirst;split;omega;split<;>omega
 generalize lowSize k n=s at *
 generalize upSize k n=t at *
 generalize upFirst k n l=f at *
 have m0:=Int.emod_nonneg (p:Int) (show s≠0 by omega)
 have m1:=Int.emod_lt_of_pos (p:Int) lo.1
 have m2:=Int.emod_nonneg (p:Int) (show t≠0 by omega)
 have m3:=Int.emod_lt_of_pos (p:Int) up.1
 split
 ·omega
 ·rw [if_pos (by omega)];omega
end Go.Proofs.YtnllcknfmciebaaGreatDoor.B4
namespace Go.Proofs.YtnllcknfmciebaaGreatDoor.W13
set_option maxRecDepth 20000
open Go.RowKit
set_option linter.unusedVariables false
def mvTo (f:Nat→Int) (A S B T:Int):Nat→Nat→Int
 |0=>f
 |k+1=>pokeAt (mvTo f A S B T k) (placeAt B T k) (wordAt (mvTo f A S B T k) (placeAt A S k))
theorem mvTo_next (f:Nat→Int) (A S B T:Int) (k:Nat):pokeAt (mvTo f A S B T k) (placeAt B T k) (wordAt (mvTo f A S B T k) (placeAt A S k))=mvTo f A S B T (k+1):=rfl
end Go.Proofs.YtnllcknfmciebaaGreatDoor.W13
namespace Go.Proofs.YtnllcknfmciebaaGreatDoor.W13
set_option maxRecDepth 20000
open Go.RowKit
set_option linter.unusedVariables false
def farOf (c k:Int):Int:=1-2*bitOf c k
theorem bitOf_two (c k:Int):bitOf c k=0∨bitOf c k=1:=by
 unfold bitOf
 split<;>omega
theorem farOf_two (c k:Int):farOf c k=1∨farOf c k = -1:=by
 unfold farOf
 rcases bitOf_two c k with h|h<;>rw [h]<;>simp
theorem going_any (c k:Int) (w:World):Calls Tryz.prog 163 #[.int .i64 c,.int .i64 k] w fun e w'=>e=.returned (.func (.func 165) #[] #[.pointer (some ⟨w.heap.size,0,none⟩)])∧Box 3 w' w.heap.size (farOf c k)∧Below w.heap.size w w':=by
 have hb:=bitOf_two c k
 have HF:=hide (show farOf c k=1-2*bitOf c k from rfl)
 have HB:=hide (bit_any c k)
 generalize bitOf c k=q at hb HF HB
 go_enter Tryz.func163,Tryz.ntmps163
 go_wp2_with (first|(go_at_call 97;refine (HB.out _).mono ?_;rintro e w' ⟨rfl,hw⟩;subst w'))
 go_ret
 exact ⟨rfl,by rw [HF.out];exact heap_alloc_new _ _,(Below.refl _ w).alloc (Nat.le_refl _) _⟩
theorem goes_is (S r x:Int) (hS:S=1∨S = -1) (h0:0≤r) (h1:r<65536) (hx:(r+S)%65536=x) (b:Nat) (w:World) (h:Box 3 w b S):Calls Tryz.prog 165 #[.int .i64 r,.pointer (some ⟨b,0,none⟩)] w fun e w'=>e=.returned (.int .i64 x)∧w'=w:=by
 have c:=h.cell
 clear h
 subst hx
 go_enter Tryz.func165,Tryz.ntmps165
 go_wp2_with (first|(go_at_call 60;refine (word_any _ _).mono ?_;rintro e w' ⟨rfl,hw⟩;subst w'))
 go_ret
 exact ⟨rfl,rfl⟩
theorem OnlyE.box {E:Nat→Prop} {w w':World} {t:TypeId} {c:Nat} {v:Int} (h:OnlyE E w w') (k:Box t w c v) (hc:¬E c):Box t w' c v:=h.obj k hc
theorem under_name {P:Program} {c:Code} {Q:Exit→Act→World→Prop} {a:Act} {w:World} (h:∀wa,wa=w→Code.wp P c Q a wa):Code.wp P c Q a w:=h w rfl
theorem two_named {w wa:World} {o0 o1:Obj} (h:wa=(w.alloc o0).alloc o1):
  wa.heap[w.heap.size]? = some o0∧wa.heap[w.heap.size+1]? = some o1∧w.heap.size+1<wa.heap.size∧Below w.heap.size w wa:=by
 have e:wa.heap=(w.heap.push o0).push o1:=by rw [h];rfl
 refine ⟨?_,?_,?_,?_⟩
 ·rw [e,Array.getElem?_push,if_neg (by simp),Array.getElem?_push,if_pos rfl]
 ·rw [e,Array.getElem?_push,if_pos (by simp)]
 ·rw [e];simp
 ·rw [h]
  exact ((Below.refl _ w).alloc (Nat.le_refl _) _).alloc (by simp) _
set_option maxHeartbeats 1000000 in
theorem move_gen (q:Option Addr) (e0 e1 n c A S B T:Int) (N:Nat) (x:Nat→Int) (E:Nat→Prop) (R:Nat→World→Prop) (w:World) (hA:e0%65536=A) (hB:e1%65536=B) (hS:farOf c 2=S) (hT:farOf c 3=T) (hN:n%65536+1=(N:Int))
  (hE:∀k,E k→k<w.heap.size) (h0:R 0 w) (hR:∀k w w',R k w→Below w.heap.size w w'→R k w') (hQ:∀w' g cs,w.heap.size≤g→R N w'→R N (w'.setRow g cs))
  (hw:∀k w,k<N→R k w→Calls Tryz.prog 13 #[.pointer q,.int .i64 (placeAt A S k)] w fun e w'=>e=.returned (.int .i64 (x k))∧w'=w)
  (hp:∀k w,k<N→R k w→Calls Tryz.prog 156 #[.pointer q,.int .i64 (placeAt B T k),.int .i64 (x k)] w fun e w'=>e=.returned (.tuple #[])∧R (k+1) w'∧OnlyE E w w'):
  Calls Tryz.prog 158 #[.pointer q,.agg #[.int .i64 e0,.int .i64 e1],.int .i64 n,.int .i64 c] w fun e w'=>e=.returned (.agg #[.int .i64 (placeAt A S N),.int .i64 (placeAt B T N)])∧R N w'∧OnlyE E w w':=by
 have hS2:=hide (show S=1∨S = -1 by rw [←hS];exact farOf_two c 2)
 have hT2:=hide (show T=1∨T = -1 by rw [←hT];exact farOf_two c 3)
 have GS:=hide (going_any c 2)
 have GT:=hide (going_any c 3)
 rw [hS] at GS
 rw [hT] at GT
 have HN:=hide hN
 have hN1:(N:Int)≤65536:=by omega
 have A0:0≤A:=by omega
 have A1:A<65536:=by omega
 have B0:0≤B:=by omega
 have B1:B<65536:=by omega
 have HE:=hide hE
 have HR:=hide hR
 have HQ:=hide hQ
 have HW:=hide hw
 have HP:=hide hp
 have R0:=hide h0
 clear hS hT hE hR hQ hw hp h0
 go_enter Tryz.func158,Tryz.ntmps158
 go_wp2_with fail
 refine under_name fun wa hwa=>?_
 obtain ⟨b0,b1,hs,BB⟩:=two_named hwa
 have BA:=hide BB
 clear hwa BB
 obtain ⟨z,hz⟩:∃z,w.heap.size=z:=⟨_,rfl⟩
 rw [hz] at b0 b1 hs ⊢
 have HZ:=hide hz
 clear hz
 have k0:=kept_cell ((cell_of_row wa z 0 _ _ _ b0).trans rfl) (show z<wa.heap.size by omega)
 have k1:=kept_cell ((cell_of_row wa z 1 _ _ _ b0).trans rfl) (show z<wa.heap.size by omega)
 haveI:=kept_some wa
 refine wp_region_kept (by kernel_rfl) (by kernel_rfl) ?_
 repeat (go_big_quiet_step ((first|(go_at_call 60;exact kept_same (word_any _ _)))))
 refine wpQuiet_nil ?_
 rintro _ ⟨wk,rfl⟩
 clear k0 k1
 rw [hA,hB]
 clear hA hB
 obtain ⟨w1,hw1⟩:∃w1,w1=wk.val:=⟨_,rfl⟩
 rw [←hw1]
 have KB:Below wa.heap.size wa w1:=by rw [hw1];exact wk.below
 clear hw1 wk
 have W1:=hide ((KB.block (z+1) hs).trans b1)
 have B1':=hide (bnext BA.out KB)
 have S1:=hide (Nat.lt_of_lt_of_le hs KB.size)
 clear BA KB b0 b1 hs
 go_wp2_with fail
 refine (GS.out _).mono ?_
 rintro e w2 ⟨rfl,x2,n2⟩
 have W2:=hide ((n2.block (z+1) S1.out).trans W1.out)
 have B2:=hide (bnext B1'.out n2)
 have X2:=hide x2
 have G2:=hide (show z+1<w1.heap.size from S1.out)
 have S2:=hide (Nat.lt_of_lt_of_le S1.out n2.size)
 clear x2 n2 W1 B1' S1
 obtain ⟨g1,hg1⟩:∃g1,w1.heap.size=g1:=⟨_,rfl⟩
 rw [hg1] at X2 G2 ⊢
 clear hg1
 go_wp2_with fail
 refine (GT.out _).mono ?_
 rintro e w3 ⟨rfl,x3,n3⟩
 have W3:=hide ((n3.block (z+1) S2.out).trans W2.out)
 have B3:=hide (bnext B2.out n3)
 have X3:=hide (X2.out.next n3)
 have Y3:=hide x3
 have G3:=hide (show z+1<w2.heap.size from S2.out)
 clear x3 n3 W2 B2 X2 S2
 obtain ⟨g2,hg2⟩:∃g2,w2.heap.size=g2:=⟨_,rfl⟩
 rw [hg2] at Y3 G3 ⊢
 clear hg2
 go_wp2_with (first|(go_at_call 60;refine (word_any _ _).mono ?_;rintro e w' ⟨rfl,hw⟩;subst w'))
 have P0:=placeAt_zero A S A0 A1
 have Q0:=placeAt_zero B T B0 B1
 go_loopw [9,10,26] (fun s9 s10 si wr=>∃(k:Nat),k≤N∧si=.int .i64 (k:Int)∧s9=.int .i64 (placeAt A S k)∧s10=.int .i64 (placeAt B T k)∧R k wr∧Box 3 wr g1 S∧Box 3 wr g2 T∧wr.heap[z+1]? = some (.cells #[.int .i64 0,.int .i64 0] 222 (0,0))∧OnlyE E w wr) (fun _ _ si _=>N-(intOf si).toNat)
 case atStart=>exact ⟨0,Nat.zero_le _,rfl,by rw [P0],by rw [Q0],HR.out 0 _ _ R0.out B3.out,X3.out,Y3.out,W3.out,OnlyE.of B3.out⟩
 case round=>
  obtain ⟨k,hk,rfl,rfl,rfl,hr,hx,hy,hrow,ho⟩:=hrel
  have RK:=hide hr
  have XK:=hide hx
  have YK:=hide hy
  have WK:=hide hrow
  have OK:=hide ho
  clear hr hx hy hrow ho W3 B3 X3 Y3 R0 P0 Q0
  have E1:=hide (show ¬E g1 from fun h=>by have:=HE.out g1 h;have:=HZ.out;have:=G2.out;omega)
  have E2:=hide (show ¬E g2 from fun h=>by have:=HE.out g2 h;have:=HZ.out;have:=G3.out;omega)
  have E3:=hide (show ¬E (z+1) from fun h=>by have:=HE.out (z+1) h;have:=HZ.out;omega)
  by_cases hlt:k<N
  ·have HN1:=hide (placeAt_next A S k)
   have HN2:=hide (placeAt_next B T k)
   have pa0:=placeAt_ge A S k
   have pa1:=placeAt_lt A S k
   have pb0:=placeAt_ge B T k
   have pb1:=placeAt_lt B T k
   have CW:=hide (HW.out k · hlt)
   have CP:=hide (HP.out k · hlt)
   obtain ⟨a,ha⟩:∃a,placeAt A S k=a:=⟨_,rfl⟩
   obtain ⟨b,hb⟩:∃b,placeAt B T k=b:=⟨_,rfl⟩
   rw [ha] at HN1 pa0 pa1 CW ⊢
   rw [hb] at HN2 pb0 pb1 CP ⊢
   clear ha hb
   go_wp2_with fail
   refine (CW.out _ RK.out).mono ?_
   rintro e w' ⟨rfl,hw⟩
   subst w'
   go_wp2_with fail
   refine (CP.out _ RK.out).mono ?_
   rintro e w4 ⟨rfl,r4,o4⟩
   have R4:=hide r4
   have X4:=hide (o4.box XK.out E1.out)
   have Y4:=hide (o4.box YK.out E2.out)
   have W4:=hide (o4.obj WK.out E3.out)
   have O4:=hide (OK.out.trans o4)
   clear r4 o4 RK XK YK WK OK
   go_wp2_with fail
   refine (goes_is S a _ hS2.out pa0 pa1 HN1.out g1 _ X4.out).mono ?_
   rintro e w' ⟨rfl,hw⟩
   subst w'
   go_wp2_with fail
   refine (goes_is T b _ hT2.out pb0 pb1 HN2.out g2 _ Y4.out).mono ?_
   rintro e w' ⟨rfl,hw⟩
   subst w'
   go_wp2_with fail
   go_roundw
   case rel=>exact ⟨k+1,by omega,by go_num,rfl,rfl,R4.out,X4.out,Y4.out,W4.out,O4.out⟩
   case measure=>simp [intOf];omega
  ·obtain rfl:k=N:=by omega
   go_wp2_with (first|(refine wpList_store_row rfl 222 (.tmp 8) (.tmp 43) rfl (z+1) _ rfl rfl 222 _ WK.out (by kernel_rfl) rfl (by kernel_rfl) ?_))
   refine bodyPost_ret (results_cell_row rfl _ _ (z+1) 222 _ (0,0) _ rfl (setRow_heap _ _ _ _ _ _ WK.out) Tryz.underlying222 rfl (by kernel_rfl)) rfl ?_
   exact ⟨rfl,HQ.out _ _ _ (by have:=HZ.out;omega) RK.out,OK.out.setRow (z+1) (by have:=HZ.out;omega) _⟩
theorem move_is (b:Nat) (f:Nat→Int) (wr rd st lo bu:Int) (w:World) (h:HasM w b true f wr rd st lo bu) (e0 e1 n c A S B T X Y:Int) (N:Nat) (F:Nat→Int) (hA:e0%65536=A) (hB:e1%65536=B) (hS:farOf c 2=S) (hT:farOf c 3=T) (hN:n%65536+1=(N:Int)) (hX:placeAt A S N=X) (hY:placeAt B T N=Y) (hF:mvTo f A S B T N=F):
  Calls Tryz.prog 158 #[.pointer (some ⟨b,0,none⟩),.agg #[.int .i64 e0,.int .i64 e1],.int .i64 n,.int .i64 c] w fun e w'=>e=.returned (.agg #[.int .i64 X,.int .i64 Y])∧HasM w' b true F wr rd st lo bu∧Only b w w':=by
 subst hX hY hF
 exact move_gen (some ⟨b,0,none⟩) e0 e1 n c A S B T N (fun k=>wordAt (mvTo f A S B T k) (placeAt A S k)) (fun k=>k=b) (fun k w=>HasM w b true (mvTo f A S B T k) wr rd st lo bu) w hA hB hS hT hN (fun k hk=>by rw [hk];exact h.lt) h (fun k w w' hh hb=>hh.next hb)
  (fun w' g cs hg hh=>(setRow_other w' g b cs (by have:=h.lt;omega)).trans hh)
  (fun k w hk hh=>word_is b _ wr rd st lo bu w hh _ _ rfl)
  (fun k w hk hh=>(poke_is b _ wr rd st lo bu w hh _ _ _ (mvTo_next f A S B T k)).mono fun e w' hh=>⟨hh.1,hh.2.1,hh.2.2⟩)
end Go.Proofs.YtnllcknfmciebaaGreatDoor.W13
