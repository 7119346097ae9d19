/- Texts put together. -/
import Derived.Test.YtnllcknfmciebaaGreatDoorBusPlaysJ46
import Derived.Test.YtnllcknfmciebaaGreatDoorBusPlaysJ46b
import Derived.Test.YtnllcknfmciebaaGreatDoorBusPlaysJ13
import Derived.Test.YtnllcknfmciebaaGreatDoorBusPlaysJ44
import Derived.Test.YtnllcknfmciebaaGreatDoorBusPlaysJ18
import Derived.Test.YtnllcknfmciebaaGreatDoorBusPlaysJ06
import Derived.Test.YtnllcknfmciebaaGreatDoorBusPlaysJ24
namespace Go.Proofs.YtnllcknfmciebaaGreatDoor.P22
set_option maxRecDepth 20000
open Go.RowKit
set_option linter.unusedVariables false
theorem rwrite_any (f:Nat→Int) (at_ b:Int) (ok:okP f) (w:World):Calls Tryz.prog 53 #[.agg (rowF (iv f) 244),.int .i64 at_,.int .i64 b] w fun e w'=>e=Ending.returned (.agg (rowF (iv (wrF f at_ b)) 244))∧Below w.heap.size w w':=by
 have KV:=hide (fun w=>rvalid_any f w)
 rw [(vB_iff f).1 ok] at KV
 have h0:=ok.1
 by_cases a0:at_=0
 ·subst a0;exact rwrite_0 f b w KV
 by_cases a1:at_=1
 ·subst a1;exact rwrite_1 f b w KV
 by_cases a8:at_=8
 ·subst a8;exact rwrite_8 f b w KV
 by_cases a9:at_=9
 ·subst a9;exact rwrite_9 f b w KV
 by_cases hs:f 0<6
 ·have e:wrF f at_ b=chW f (f 0).toNat at_ (b%256):=by unfold wrF;rw [if_neg a0,if_neg a1,if_neg a8,if_neg a9,if_pos hs]
  by_cases hn:at_<2∨7<at_
  ·exact rwrite_none f b w KV at_ a0 a1 a8 a9 (.inr hn) (by rw [e,chW_none f _ at_ _ hn])
  ·rw [e]
   obtain ⟨k,hk⟩:∃k:Nat,f 0=(k:Int):=⟨(f 0).toNat,by omega⟩
   rw [show (f 0).toNat=k by omega]
   have hk6:k<6:=by omega
   have KB:=hide (fun w=>rbyte_any b w)
   have oc:=okP_at ok hk6
   have b0:0≤b%256:=by omega
   have b1:b%256≤255:=by omega
   rcases (show at_=2∨at_=3∨at_=4∨at_=5∨at_=6∨at_=7 by omega) with rfl|rfl|rfl|rfl|rfl|rfl
   ·exact rch_2 f b _ w KV KB b0 b1 k hk hk6 oc
   ·exact rch_3 f b _ w KV KB b0 b1 k hk hk6 oc
   ·by_cases h:b%256/64=1
    ·exact rch_4z f b _ w KV KB b0 b1 k hk hk6 oc h
    ·exact rch_4 f b _ w KV KB b0 b1 k hk hk6 oc h
   ·exact rch_5 f b _ w KV KB b0 b1 k hk hk6 oc
   ·by_cases h:ch f k 1/64%2=1
    ·exact rch_6d f b _ w KV KB b0 b1 k hk hk6 oc h
    ·exact rch_6 f b _ w KV KB b0 b1 k hk hk6 oc h
   ·by_cases h:4≤k
    ·exact rch_7 f b _ w KV KB b0 b1 k hk hk6 oc h
    ·exact rch_7n f b _ w KV KB b0 b1 k hk hk6 oc h
 ·exact rwrite_none f b w KV at_ a0 a1 a8 a9 (.inl (by omega)) (by unfold wrF;rw [if_neg a0,if_neg a1,if_neg a8,if_neg a9,if_neg hs])
end Go.Proofs.YtnllcknfmciebaaGreatDoor.P22
namespace Go.Proofs.YtnllcknfmciebaaGreatDoor.L24
set_option maxRecDepth 20000
open B4 C3 D24 G6 I11 J23 M5 P22 R15 T10 V12 W13
open Go.RowKit
set_option linter.unusedVariables false
theorem rvce_any (g:Nat→Int) (a y:Int) (g0:0≤g 1∧g 1<512) (g1:∀j,0≤g (j+2)∧g (j+2)<512) (y0:0≤y∧y<256) (w:World):Calls Tryz.prog 52 #[.agg (rowF (iv g) 514),.int .i64 a,.int .i64 y] w fun e w'=>e=Ending.returned (.agg (rowF (iv (vceW g a y)) 514))∧Below w.heap.size w w':=by
 have hi:g 1%512=((g 1).toNat:Int):=by omega
 have hf:=g1 (g 1).toNat
 unfold vceW
 conv=>arg 3;rw [←vF_eta g,vF_row]
 by_cases a0:a=0
 ·subst a0
  rw [if_pos rfl,vF_row]
  have k:=V12.rwrite_0 (g 0) (g 1) y (fun j=>g (j+2)) _ hi w
  rw [show y%256=y by omega] at k
  exact k
 rw [if_neg a0]
 by_cases a2:a=2
 ·subst a2
  rw [if_pos rfl,vF_row]
  have k:=V12.rwrite_2 (g 0) (g 1) y (fun j=>g (j+2)) _ hi w
  rw [show y%256=y by omega,show (((g 1).toNat:Nat):Int)=g 1 by omega] at k
  exact k
 rw [if_neg a2]
 by_cases a3:a=3
 ·subst a3
  rw [if_pos rfl,vF_row]
  have k:=V12.rwrite_3 (g 0) (g 1) y (fun j=>g (j+2)) _ hi w
  rw [show (((g 1).toNat:Nat):Int)=g 1 by omega] at k
  exact k
 rw [if_neg a3]
 by_cases a4:a=4
 ·subst a4
  rw [if_pos rfl,vF_row]
  have k:=V12.rwrite_4 (g 0) (g 1) y (fun j=>g (j+2)) _ hi w
  rw [show y%256=y by omega,show (((g 1).toNat:Nat):Int)=g 1 by omega,show g ((g 1).toNat+2)%512=g ((g 1).toNat+2) by omega] at k
  exact k
 rw [if_neg a4]
 by_cases a5:a=5
 ·subst a5
  rw [if_pos rfl,vF_row]
  have k:=V12.rwrite_5 (g 0) (g 1) y (fun j=>g (j+2)) _ hi w
  rw [show (((g 1).toNat:Nat):Int)=g 1 by omega,show g ((g 1).toNat+2)%512=g ((g 1).toNat+2) by omega] at k
  exact k
 rw [if_neg a5,←vF_eta g,vF_row]
 exact V12.rwrite_no a (g 0) (g 1) y (fun j=>g (j+2)) _ hi w a0 a2 a3 a4 a5
theorem rvceR_any (g:Nat→Int) (a:Int) (g0:0≤g 1∧g 1<512) (g1:∀j,0≤g (j+2)∧g (j+2)<512) (w:World):Calls Tryz.prog 36 #[.agg (rowF (iv g) 514),.int .i64 a] w fun e w'=>e=Ending.returned (.tuple #[.int .i64 (vceR g a),.agg (rowF (iv (vceN g a)) 514)])∧Below w.heap.size w w':=by
 have hi:g 1%512=((g 1).toNat:Int):=by omega
 have hf:=g1 (g 1).toNat
 unfold vceR vceN
 conv=>arg 3;rw [←vF_eta g,vF_row]
 by_cases a4:a=4
 ·subst a4
  rw [if_pos rfl,if_neg (by decide)]
  conv=>arg 5;rw [←vF_eta g,vF_row]
  have k:=V12.rread_4 (g 0) (g 1) (fun j=>g (j+2)) _ hi w
  rw [show (((g 1).toNat:Nat):Int)=g 1 by omega] at k
  exact k
 rw [if_neg a4]
 by_cases a5:a=5
 ·subst a5
  rw [if_pos rfl,if_pos rfl,vF_row]
  have k:=V12.rread_5 (g 0) (g 1) (fun j=>g (j+2)) _ hi w
  rw [show (((g 1).toNat:Nat):Int)=g 1 by omega,show g ((g 1).toNat+2)%512=g ((g 1).toNat+2) by omega] at k
  exact k
 rw [if_neg a5,if_neg a5]
 conv=>arg 5;rw [←vF_eta g,vF_row]
 exact V12.rread_no a (g 0) (g 1) (fun j=>g (j+2)) _ hi w a4 a5
theorem d_vceR {w:World} {b c d r:Nat} {P:Int} {sl:Value} {Z:Nat→Nat→Int} (h:HasD w b c d r P sl Z) (g:GoodZ Z) (p:Int) (hk:kindW p=3):Calls Tryz.prog 7 #[.pointer (some ⟨b,0,none⟩),.int .i64 p] w fun e w'=>e=Ending.returned (.int .i64 (vceR (Z 10) (atW p)))∧HasD w' b c d r P sl (upZ Z 10 (vceN (Z 10) (atW p)))∧OnlyE (D24.EY b c d r) w w':=
 D24.yread_vce h p _ _ (rwhere_at p 3 _ _ hk rfl rfl) (v:=iv (Z 10)) (v':=iv (vceN (Z 10) (atW p))) rfl (fun w=>rvceR_any _ _ g.2.2.2.2.1 g.2.2.2.2.2.1 w) (fun _ _=>rfl)
theorem dw_rom {w:World} {b c d r:Nat} {P:Int} {sl:Value} {Z:Nat→Nat→Int} (h:HasD w b c d r P sl Z) (g:GoodZ Z) (p n y:Int) (hy:n%256=y) (hk:kindW p=0) (hP:P≠320):Calls Tryz.prog 9 #[.pointer (some ⟨b,0,none⟩),.int .i64 p,.int .i64 n] w fun e w'=>e=Ending.returned (.tuple #[])∧HasD w' b c d r P sl Z∧OnlyE (D24.EY b c d r) w w':=by
 have k:=D24.ywrite_rom h p n _ _ (rwhere_at p 0 _ _ hk rfl rfl) y hy (P:=P) (lt:=Z 7 0) (x:=Z 7 0) rfl rfl (fun w=>by have:=rlatch_any P (Z 7 0) p w;rw [show latchOf P (Z 7 0) p=Z 7 0 by unfold latchOf;rw [if_neg (fun e=>hP e.1)]] at this;exact this)
 exact k
theorem dw_open {w:World} {b c d r:Nat} {P:Int} {sl:Value} {Z:Nat→Nat→Int} (h:HasD w b c d r P sl Z) (g:GoodZ Z) (p n y:Int) (hy:n%256=y) (hk:kindW p=8):Calls Tryz.prog 9 #[.pointer (some ⟨b,0,none⟩),.int .i64 p,.int .i64 n] w fun e w'=>e=Ending.returned (.tuple #[])∧HasD w' b c d r P sl Z∧OnlyE (D24.EY b c d r) w w':=(D24.ywrite_open p n _ _ (rwhere_at p 8 _ _ hk rfl rfl) y hy).mono fun e w' ⟨e1,hw⟩=>⟨e1,by rw [hw];exact h,ey_same hw⟩
theorem dw_ram {w:World} {b c d r:Nat} {P:Int} {sl:Value} {Z:Nat→Nat→Int} (h:HasD w b c d r P sl Z) (g:GoodZ Z) (p n y:Int) (hy:n%256=y) (p0:2031616≤p) (p1:p<2064384):Calls Tryz.prog 9 #[.pointer (some ⟨b,0,none⟩),.int .i64 p,.int .i64 n] w fun e w'=>e=Ending.returned (.tuple #[])∧HasD w' b c d r P sl (upZ Z 8 (up (Z 8) (p%8192).toNat y))∧OnlyE (D24.EY b c d r) w w':=
 D24.ywrite_ram h p n 0 (p%8192) (rwhere_at p 1 0 (p%8192) (kind_ram p0 p1).1 (kind_ram p0 p1).2.1 (kind_ram p0 p1).2.2) y hy (p%8192).toNat (by omega) (by omega)
theorem dw_vce {w:World} {b c d r:Nat} {P:Int} {sl:Value} {Z:Nat→Nat→Int} (h:HasD w b c d r P sl Z) (g:GoodZ Z) (p n y:Int) (hy:n%256=y) (hk:kindW p=3):Calls Tryz.prog 9 #[.pointer (some ⟨b,0,none⟩),.int .i64 p,.int .i64 n] w fun e w'=>e=Ending.returned (.tuple #[])∧HasD w' b c d r P sl (upZ Z 10 (vceW (Z 10) (atW p) y))∧OnlyE (D24.EY b c d r) w w':=
 D24.ywrite_vce h p n _ _ (rwhere_at p 3 _ _ hk rfl rfl) y hy (s:=iv (Z 10)) (q:=iv (vceW (Z 10) (atW p) y)) rfl (fun w=>rvce_any _ _ _ g.2.2.2.2.1 g.2.2.2.2.2.1 (by omega) w) (fun _ _=>rfl)
theorem dw_psg {w:World} {b c d r:Nat} {P:Int} {sl:Value} {Z:Nat→Nat→Int} (h:HasD w b c d r P sl Z) (g:GoodZ Z) (p n y:Int) (hy:n%256=y) (hk:kindW p=4):Calls Tryz.prog 9 #[.pointer (some ⟨b,0,none⟩),.int .i64 p,.int .i64 n] w fun e w'=>e=Ending.returned (.tuple #[])∧HasD w' b c d r P sl (holdZ (upZ Z 11 (P22.wrF (Z 11) (atW p) y)) y)∧OnlyE (D24.EY b c d r) w w':=
 D24.ywrite_psg h p n _ _ (rwhere_at p 4 _ _ hk rfl rfl) y hy (s:=iv (Z 11)) (q:=iv (P22.wrF (Z 11) (atW p) y)) rfl (fun w=>P22.rwrite_any _ _ _ g.2.2.2.2.2.2.1 w) (fun _ _=>rfl) (hd:=Z 16 0) rfl
theorem rtim_any (g:Nat→Int) (a y:Int) (ha:a=0∨a=1) (w:World):Calls Tryz.prog 54 #[.agg (rowF (tvZ g) 4),.int .i64 a,.int .i64 y] w fun e w'=>e=Ending.returned (.agg (rowF (tvZ (timW g a y)) 4))∧Below w.heap.size w w':=by
 rcases ha with rfl|rfl
 ·exact T10.rwrite_0 (g 0) (g 1) (isB (g 2)) (g 3) y w
 ·exact T10.rwrite_1 (g 0) (g 1) (isB (g 2)) (g 3) y (isB (y%2)) rfl w
theorem dw_timer {w:World} {b c d r:Nat} {P:Int} {sl:Value} {Z:Nat→Nat→Int} (h:HasD w b c d r P sl Z) (g:GoodZ Z) (p n y:Int) (hy:n%256=y) (hk:kindW p=5):Calls Tryz.prog 9 #[.pointer (some ⟨b,0,none⟩),.int .i64 p,.int .i64 n] w fun e w'=>e=Ending.returned (.tuple #[])∧HasD w' b c d r P sl (holdZ (upZ Z 12 (timW (Z 12) (atW p) y)) y)∧OnlyE (D24.EY b c d r) w w':=
 D24.ywrite_timer h p n _ _ (rwhere_at p 5 _ _ hk rfl rfl) y hy (s:=tvZ (Z 12)) (q:=tvZ (timW (Z 12) (atW p) y)) rfl (fun w=>rtim_any _ _ _ (at_timer hk) w) (tv_one _ _ _ _) (hd:=Z 16 0) rfl
theorem dw_pad {w:World} {b c d r:Nat} {P:Int} {sl:Value} {Z:Nat→Nat→Int} (h:HasD w b c d r P sl Z) (g:GoodZ Z) (p n y:Int) (hy:n%256=y) (hk:kindW p=6):Calls Tryz.prog 9 #[.pointer (some ⟨b,0,none⟩),.int .i64 p,.int .i64 n] w fun e w'=>e=Ending.returned (.tuple #[])∧HasD w' b c d r P sl (holdZ (upZ Z 14 (padW (Z 14) y)) y)∧OnlyE (D24.EY b c d r) w w':=
 D24.ywrite_pad h p n _ _ (rwhere_at p 6 _ _ hk rfl rfl) y hy (s:=pvZ (Z 14)) (q:=pvZ (padW (Z 14) y)) rfl (fun w=>by rw [padW_pv];exact J23.rwrite_any _ _ _ _ _ w) (pv_one _ _ _ _) (hd:=Z 16 0) rfl
theorem rirq_any (m l a y:Int) (w:World):Calls Tryz.prog 56 #[.int .i64 m,.int .i64 l,.int .i64 a,.int .i64 y] w fun e w'=>e=Ending.returned (.tuple #[.int .i64 (irqM m l a y),.int .i64 (irqL m l a y)])∧w'=w:=by
 unfold irqM irqL
 by_cases a2:a=2
 ·subst a2;exact I11.rwrite_2 m l y w
 by_cases a3:a=3
 ·subst a3;exact I11.rwrite_3 m l y w
 rw [if_neg a2,if_neg a3,if_neg a2,if_neg a3]
 exact I11.rwrite_no m l a y a2 a3 w
theorem dw_irq {w:World} {b c d r:Nat} {P:Int} {sl:Value} {Z:Nat→Nat→Int} (h:HasD w b c d r P sl Z) (g:GoodZ Z) (p n y:Int) (hy:n%256=y) (hk:kindW p=7):Calls Tryz.prog 9 #[.pointer (some ⟨b,0,none⟩),.int .i64 p,.int .i64 n] w fun e w'=>e=Ending.returned (.tuple #[])∧HasD w' b c d r P sl (holdZ (upZ Z 13 (twoV (irqM (Z 13 0) (Z 13 1) (atW p) y) (irqL (Z 13 0) (Z 13 1) (atW p) y))) y)∧OnlyE (D24.EY b c d r) w w':=
 D24.ywrite_irq h p n _ _ (rwhere_at p 7 _ _ hk rfl rfl) y hy (m:=Z 13 0) (l:=Z 13 1) (hd:=Z 16 0) rfl rfl rfl (fun w=>rirq_any _ _ _ _ w)
end Go.Proofs.YtnllcknfmciebaaGreatDoor.L24
namespace Go.Proofs.YtnllcknfmciebaaGreatDoor.W13
set_option maxRecDepth 20000
open Go.RowKit
set_option linter.unusedVariables false
theorem on_is (r c k S x:Int) (hS:farOf c k=S) (h0:0≤r) (h1:r<65536) (hx:(r+S)%65536=x) (w:World):Calls Tryz.prog 146 #[.int .i64 r,.int .i64 c,.int .i64 k] w fun e w'=>e=.returned (.int .i64 x)∧w'=w:=by
 have HB:=hide (rbit_any c k)
 unfold farOf at hS
 rcases bitOf_two c k with hb|hb
 ·rw [hb] at HB hS
  obtain rfl:S=1:=by omega
  go_enter Tryz.func146,Tryz.ntmps146
  go_wp2_with (first|(go_at_call 106;refine (HB.out _).mono ?_;rintro e w' ⟨rfl,hw⟩;subst w')|(go_at_call 62;refine (rword_any _ _).mono ?_;rintro e w' ⟨rfl,hw⟩;subst w'))
  go_ret
  exact ⟨rfl,rfl⟩
 ·rw [hb] at HB hS
  obtain rfl:S = -1:=by omega
  go_enter Tryz.func146,Tryz.ntmps146
  go_wp2_with (first|(go_at_call 106;refine (HB.out _).mono ?_;rintro e w' ⟨rfl,hw⟩;subst w')|(go_at_call 62;refine (rword_any _ _).mono ?_;rintro e w' ⟨rfl,hw⟩;subst w'))
  go_ret
  exact ⟨ret_int (by omega),rfl⟩
set_option maxHeartbeats 1000000 in
theorem rmove_is (c d:Nat) (f:Nat→Int) (wr rd st lo bu:Int) (w:World) (h:HasR w c d f wr rd st lo bu) (e0 e1 n k A S B T X Y:Int) (N:Nat) (F:Nat→Int) (hA:e0%65536=A) (hB:e1%65536=B) (hS:farOf k 2=S) (hT:farOf k 3=T) (hN:n%65536+1=(N:Int)) (hX:placeAt A S N=X) (hY:placeAt B T N=Y) (hF:mvTo f A S B T N=F):
  Calls Tryz.prog 104 #[.pointer (some ⟨c,0,none⟩),.int .i64 e0,.int .i64 e1,.int .i64 n,.int .i64 k] w fun e w'=>e=.returned (.tuple #[.int .i64 X,.int .i64 Y])∧HasR w' c d F wr rd st lo bu∧Only2 c d w w':=by
 have H:=hide h
 have HS:=hide hS
 have HT:=hide hT
 have HX:=hide hX
 have HY:=hide hY
 have HF:=hide hF
 have hN1:(N:Int)≤65536:=by omega
 have A0:0≤A:=by omega
 have A1:A<65536:=by omega
 have B0:0≤B:=by omega
 have B1:B<65536:=by omega
 clear h hS hT hX hY hF
 have P0:=hide (placeAt_zero A S A0 A1)
 have Q0:=hide (placeAt_zero B T B0 B1)
 go_enter Tryz.func104,Tryz.ntmps104
 go_wp2_with (first|(go_at_call 62;refine (rword_any _ _).mono ?_;rintro e w' ⟨rfl,hw⟩;subst w'))
 go_loopw [1,2,12] (fun s9 s10 si wv=>∃(i:Nat),i≤N∧si=.int .i64 (i:Int)∧s9=.int .i64 (placeAt A S i)∧s10=.int .i64 (placeAt B T i)∧HasR wv c d (mvTo f A S B T i) wr rd st lo bu∧Only2 c d w wv) (fun _ _ si _=>N-(intOf si).toNat)
 case atStart=>exact ⟨0,Nat.zero_le _,rfl,by rw [P0.out],by rw [Q0.out],H.out,Only2.refl _ _ _⟩
 case round=>
  obtain ⟨i,hi,rfl,rfl,rfl,hr,ho⟩:=hrel
  have RK:=hide hr
  have OK:=hide ho
  clear hr ho H P0 Q0
  by_cases hlt:i<N
  ·have HN1:=hide (placeAt_next A S i)
   have HN2:=hide (placeAt_next B T i)
   have pa0:=placeAt_ge A S i
   have pa1:=placeAt_lt A S i
   have pb0:=placeAt_ge B T i
   have pb1:=placeAt_lt B T i
   have HM:=hide (mvTo_next f A S B T i)
   obtain ⟨a,ha⟩:∃a,placeAt A S i=a:=⟨_,rfl⟩
   obtain ⟨b,hb⟩:∃b,placeAt B T i=b:=⟨_,rfl⟩
   rw [ha] at HN1 pa0 pa1 HM ⊢
   rw [hb] at HN2 pb0 pb1 HM ⊢
   clear ha hb
   go_wp2_with fail
   refine (rword_is c d _ _ _ _ _ _ _ RK.out a _ rfl).mono ?_
   rintro e w' ⟨rfl,hw⟩
   subst w'
   go_wp2_with fail
   refine (rpoke_is c d _ _ _ _ _ _ _ RK.out b _ _ HM.out).mono ?_
   rintro e w4 ⟨rfl,r4,o4⟩
   have R4:=hide r4
   have O4:=hide (OK.out.trans o4)
   clear r4 o4 RK OK
   go_wp2_with fail
   refine (on_is a k 2 S _ HS.out pa0 pa1 HN1.out _).mono ?_
   rintro e w' ⟨rfl,hw⟩
   subst w'
   go_wp2_with fail
   refine (on_is b k 3 T _ HT.out pb0 pb1 HN2.out _).mono ?_
   rintro e w' ⟨rfl,hw⟩
   subst w'
   go_wp2_with fail
   go_roundw
   case rel=>exact ⟨i+1,by omega,by go_num,rfl,rfl,R4.out,O4.out⟩
   case measure=>simp [intOf];omega
  ·obtain rfl:i=N:=by omega
   go_wp2_with fail
   go_ret2
   exact ⟨ret_two HX.out HY.out,by rw [←HF.out];exact RK.out,OK.out⟩
end Go.Proofs.YtnllcknfmciebaaGreatDoor.W13
