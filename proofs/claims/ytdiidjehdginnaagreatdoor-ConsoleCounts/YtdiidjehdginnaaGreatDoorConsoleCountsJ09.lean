/- Texts put together. -/
import Derived.Test.YtdiidjehdginnaaGreatDoorConsoleCountsJ08
import Derived.Test.YtdiidjehdginnaaGreatDoorConsoleCountsJ01
import Derived.Test.YtdiidjehdginnaaGreatDoorConsoleCountsJ06
namespace Go.Proofs.YtdiidjehdginnaaGreatDoor.L24
set_option maxHeartbeats 4000000
set_option maxRecDepth 20000
open B4 C3 G6 I11 J23 M5 P22 R15 T10 V12 W13
open Go.RowKit
set_option linter.unusedVariables false
variable {bs:List Int} {b c d v:Nat} {Z:Nat→Nat→Int} {w:World}
theorem zBg (hd c:Int) (h0:0≤hd) (h1:hd<256) (c0:0≤c) (c1:c<128):bits .or .i64 (bits .and .i64 hd 128) c=hd/128*128+c:=by
 obtain ⟨k,rfl⟩:∃k:Nat,hd=(k:Int):=⟨hd.toNat,by omega⟩
 have hk:k<256:=by omega
 have q:∀x:Fin 256,bits .and .i64 (x.val:Int) 128=(x.val:Int)/128*128:=by decide +kernel
 rw [show bits .and .i64 (k:Int) 128=(k:Int)/128*128 from q ⟨k,hk⟩];exact zha 7 _ c (by omega) (by omega) (by omega) c0 (by omega) (by omega)
theorem zBh (hd c:Int) (h0:0≤hd) (h1:hd<256) (c0:0≤c) (c1:c<8):bits .or .i64 (bits .and .i64 hd 248) c=hd/8*8+c:=by
 obtain ⟨k,rfl⟩:∃k:Nat,hd=(k:Int):=⟨hd.toNat,by omega⟩
 have hk:k<256:=by omega
 have q:∀x:Fin 256,bits .and .i64 (x.val:Int) 248=(x.val:Int)/8*8:=by decide +kernel
 rw [show bits .and .i64 (k:Int) 248=(k:Int)/8*8 from q ⟨k,hk⟩];exact zha 3 _ c (by omega) (by omega) (by omega) c0 (by omega) (by omega)
theorem p_rom (h:HasP w b v c d bs Z) (g:zdh Z) (p:Int) (hn:zdb ((bs.length/8192:Nat):Int)=true) (p0:0≤p) (p1:p<1048576):Calls Tryz.prog 67 #[.pointer (some ⟨b,0,none⟩),.int .i64 p] w fun e w'=>e=Ending.returned (.int .i64 (romB bs Z p))∧HasP w' b v c d bs Z∧OnlyE (EX b v) w w':=by
 have k:=zyt hn (Z 7 0) (p/8192).toNat (by omega);rw [show (((p/8192).toNat:Nat):Int)=p/8192 by omega] at k;refine zAL h p p0 p1 (lt:=Z 7 0) rfl fun w' hc=>?_
 unfold romB;generalize zde ((bs.length/8192:Nat):Int) (Z 7 0) (p/8192)=q at k ⊢;have hl:(q*8192+p%8192).toNat<bs.length:=by omega
 have hz:=(hc.2.1.cell _ hl)
 have e:=zxJ ⟨c,0,none⟩ d 0 bs.length bs.length q.toNat (p%8192).toNat (bs.getD (q*8192+p%8192).toNat 0) w' (by have:=h.2.2.2.2.2.2.2.2.1.2;omega) hc.1 (by omega) (by omega) (by rw [Nat.zero_add,show q.toNat*8192+(p%8192).toNat=(q*8192+p%8192).toNat by omega];exact hz.1) hz.2.1 hz.2.2;rw [show ((q.toNat:Nat):Int)=q by omega,show (((p%8192).toNat:Nat):Int)=p%8192 by omega] at e;exact e
theorem p_ram (h:HasP w b v c d bs Z) (g:zdh Z) (p:Int) (p0:2031616≤p) (p1:p<2064384):Calls Tryz.prog 67 #[.pointer (some ⟨b,0,none⟩),.int .i64 p] w fun e w'=>e=Ending.returned (.int .i64 (Z 8 (p%8192).toNat))∧HasP w' b v c d bs Z∧OnlyE (EX b v) w w':=zAJ h p p0 p1 (p%8192) rfl (m:=bv (Z 8)) rfl rfl (g.2.2.2.1 _).1 (g.2.2.2.1 _).2
theorem zwU (h:HasP w b v c d bs Z) (g:zdh Z) (p:Int) (hk:zaH p=8):Calls Tryz.prog 67 #[.pointer (some ⟨b,0,none⟩),.int .i64 p] w fun e w'=>e=Ending.returned (.int .i64 255)∧HasP w' b v c d bs Z∧OnlyE (EX b v) w w':=by
 refine zrj h p _ _ (zbx p 8 _ _ hk rfl rfl) (R:=fun w'=>HasP w' b v c d bs Z∧OnlyE (EX b v) w w') fun w1 b1=>?_
 exact (zmi 8 _ _).mono fun e w' ⟨e1,b2⟩=>⟨e1,h.next (zaz b1 b2),zay (zaz b1 b2)⟩
theorem zBi (h:HasP w b v c d bs Z) (g:zdh Z) (p:Int) (hk:zaH p=4):Calls Tryz.prog 67 #[.pointer (some ⟨b,0,none⟩),.int .i64 p] w fun e w'=>e=Ending.returned (.int .i64 (Z 16 0))∧HasP w' b v c d bs Z∧OnlyE (EX b v) w w':=zyr h p _ _ hk rfl rfl rfl
theorem zBj (h:HasP w b v c d bs Z) (g:zdh Z) (p:Int) (hk:zaH p=7) (ha:atW p<2):Calls Tryz.prog 67 #[.pointer (some ⟨b,0,none⟩),.int .i64 p] w fun e w'=>e=Ending.returned (.int .i64 (Z 16 0))∧HasP w' b v c d bs Z∧OnlyE (EX b v) w w':=by
 refine znn h p _ _ (zbx p 7 _ _ hk rfl rfl) (R:=fun w'=>HasP w' b v c d bs Z∧OnlyE (EX b v) w w') fun w1 b1=>?_
 exact (zoN (h.next b1) 7 _ (atW p) (by omega) (by omega) rfl).mono fun e w' ⟨e1,x2,o2⟩=>⟨e1,x2,(zay b1).trans o2⟩
theorem zyx (h:HasP w b v c d bs Z) (g:zdh Z) (p:Int) (hk:zaH p=5) (c0:0≤setZ Z 12 1) (c1:setZ Z 12 1<128):Calls Tryz.prog 67 #[.pointer (some ⟨b,0,none⟩),.int .i64 p] w fun e w'=>e=Ending.returned (.int .i64 (Z 16 0/128*128+setZ Z 12 1))∧HasP w' b v c d bs (zcv (setZ Z) (Z 16 0/128*128+setZ Z 12 1))∧OnlyE (EX b v) w w':=
 zvk h p _ _ hk rfl rfl (r:=Z 12 0) (n:=Z 12 1) (o:=isB (Z 12 2)) (q:=Z 12 3) (t:=Z 17 0) (m:=Z 13 0) (l:=Z 13 1) rfl rfl rfl (hd:=Z 16 0) rfl rfl (zBg _ _ g.2.2.2.2.2.2.2.2.2.1.1 g.2.2.2.2.2.2.2.2.2.1.2 c0 c1)
theorem p_pad (h:HasP w b v c d bs Z) (g:zdh Z) (p:Int) (hk:zaH p=6):Calls Tryz.prog 67 #[.pointer (some ⟨b,0,none⟩),.int .i64 p] w fun e w'=>e=Ending.returned (.int .i64 (J23.rdOf (isB (Z 14 0)) (isB (Z 14 2)) (Z 14 3) (fun n=>Z 15 (2*n)) (fun n=>isB (Z 15 (2*n+1))) false))∧HasP w' b v c d bs (zcv Z (J23.rdOf (isB (Z 14 0)) (isB (Z 14 2)) (Z 14 3) (fun n=>Z 15 (2*n)) (fun n=>isB (Z 15 (2*n+1))) false))∧OnlyE (EX b v) w w':=by
 refine zuK h p _ _ (zbx p 6 _ _ hk rfl rfl) (R:=fun w'=>HasP w' b v c d bs (zcv Z (J23.rdOf (isB (Z 14 0)) (isB (Z 14 2)) (Z 14 3) (fun n=>Z 15 (2*n)) (fun n=>isB (Z 15 (2*n+1))) false))∧OnlyE (EX b v) w w') fun w1 b1=>?_
 exact (zoO (h.next b1) 6 _ (atW p) (hd:=Z 16 0) rfl (po:=pvZ (Z 14)) rfl (pa:=pcZ (Z 15)) rfl (fun w=>J23.read_any (isB (Z 14 0)) (isB (Z 14 1)) (isB (Z 14 2)) (Z 14 3) (fun n=>Z 15 (2*n)) (fun n=>isB (Z 15 (2*n+1))) false w)).mono fun e w' ⟨e1,x2,o2⟩=>⟨e1,x2,(zay b1).trans o2⟩
theorem p_irq (h:HasP w b v c d bs Z) (g:zdh Z) (p:Int) (hk:zaH p=7) (ha:atW p=2∨atW p=3):Calls Tryz.prog 67 #[.pointer (some ⟨b,0,none⟩),.int .i64 p] w fun e w'=>e=Ending.returned (.int .i64 (Z 16 0/8*8+zcw (setZ Z 13 0) (setZ Z 13 1) (atW p)))∧HasP w' b v c d bs (zcv (setZ Z) (Z 16 0/8*8+zcw (setZ Z 13 0) (setZ Z 13 1) (atW p)))∧OnlyE (EX b v) w w':=by
 have hr:0≤zcw (setZ Z 13 0) (setZ Z 13 1) (atW p)∧zcw (setZ Z 13 0) (setZ Z 13 1) (atW p)<8:=by
  unfold zcw;split
  ·omega
  ·split<;>omega
 exact zAT h p _ _ hk rfl rfl ha (r:=Z 12 0) (n:=Z 12 1) (o:=isB (Z 12 2)) (q:=Z 12 3) (t:=Z 17 0) (m:=Z 13 0) (l:=Z 13 1) rfl rfl rfl (hd:=Z 16 0) rfl rfl (zBh _ _ g.2.2.2.2.2.2.2.2.2.1.1 g.2.2.2.2.2.2.2.2.2.1.2 hr.1 hr.2)
theorem zvx (h:HasP w b v c d bs Z) (g:zdh Z) (p:Int) (hk:zaH p=2) (ha:atW p=0):Calls Tryz.prog 67 #[.pointer (some ⟨b,0,none⟩),.int .i64 p] w fun e w'=>e=Ending.returned (.int .i64 (Z 3 0))∧HasP w' b v c d bs (zph Z)∧OnlyE (EX b v) w w':=zrP h p _ hk rfl ha (s:=Z 3 0) (m:=Z 13 0) (l:=Z 13 1) rfl rfl (by have:=g.2.2.1;omega)
theorem zvy (h:HasP w b v c d bs Z) (g:zdh Z) (p:Int) (hk:zaH p=2) (a0:¬atW p=0) (a2:¬atW p=2) (a3:¬atW p=3):Calls Tryz.prog 67 #[.pointer (some ⟨b,0,none⟩),.int .i64 p] w fun e w'=>e=Ending.returned (.int .i64 0)∧HasP w' b v c d bs Z∧OnlyE (EX b v) w w':=by
 refine zhA h p _ _ (zbx p 2 _ _ hk rfl rfl) (R:=fun w'=>HasP w' b v c d bs Z∧OnlyE (EX b v) w w') fun w1 b1=>?_
 exact (zoK 2 _ (atW p) a0 a2 a3).mono fun e w' ⟨e1,b2⟩=>⟨e1,h.next (zaz b1 b2),zay (zaz b1 b2)⟩
theorem p_low (h:HasP w b v c d bs Z) (g:zdh Z) (p:Int) (hk:zaH p=2) (ha:atW p=2):Calls Tryz.prog 67 #[.pointer (some ⟨b,0,none⟩),.int .i64 p] w fun e w'=>e=Ending.returned (.int .i64 (Z 19 4%256))∧HasP w' b v c d bs Z∧OnlyE (EX b v) w w':=zBd h p _ hk rfl ha rfl
theorem zBk (h:HasP w b v c d bs Z) (g:zdh Z) (p:Int) (hk:zaH p=2) (ha:atW p=3):Calls Tryz.prog 67 #[.pointer (some ⟨b,0,none⟩),.int .i64 p] w fun e w'=>e=Ending.returned (.int .i64 (Z 19 4/256%256))∧HasP w' b v c d bs (zpj Z)∧OnlyE (EX b v) w w':=
 zys h p _ hk rfl ha g.2.2.2.2.2.2.2.2.2.2.2.2.2.1.1 g.2.2.2.2.2.2.2.2.2.2.2.2.2.1.2 (by have:=g.2.2.2.2.2.2.2.2.2.2.2.2.2.2.1.1;omega) g.2.2.2.2.2.2.2.2.2.2.2.2.2.2.1.2 rfl rfl rfl
theorem zrY (g:Nat→Int) (a:Int) (g0:0≤g 1∧g 1<512) (g1:∀j,0≤g (j+2)∧g (j+2)<512) (w:World):Calls Tryz.prog 176 #[.agg (rowF (iv g) 514),.int .i64 a] w fun e w'=>e=Ending.returned (.tuple #[.int .i64 (vceR g a),.agg (rowF (iv (vceN g a)) 514)])∧Below w.heap.size w w':=by
 have hi:g 1%512=((g 1).toNat:Int):=by omega
 have hf:=g1 (g 1).toNat;unfold vceR vceN
 conv=>arg 3;rw [←zls g,zdx]
 by_cases a4:a=4
 ·subst a4;rw [if_pos rfl,if_neg (by decide)]
  conv=>arg 5;rw [←zls g,zdx]
  exact V12.read_4 (g 0) (g 1) (fun j=>g (j+2)) _ hi w
 rw [if_neg a4]
 by_cases a5:a=5
 ·subst a5;rw [if_pos rfl,if_pos rfl,zdx];have k:=V12.read_5 (g 0) (g 1) (fun j=>g (j+2)) _ hi ((g 1+1)%512) (by omega) w;rw [show g ((g 1).toNat+2)%512=g ((g 1).toNat+2) by omega] at k;exact k
 rw [if_neg a5,if_neg a5]
 conv=>arg 5;rw [←zls g,zdx]
 exact V12.read_no a (g 0) (g 1) (fun j=>g (j+2)) _ hi a4 a5 w
theorem zBl (h:HasP w b v c d bs Z) (g:zdh Z) (p:Int) (hk:zaH p=3):Calls Tryz.prog 67 #[.pointer (some ⟨b,0,none⟩),.int .i64 p] w fun e w'=>e=Ending.returned (.int .i64 (vceR (Z 10) (atW p)))∧HasP w' b v c d bs (upZ Z 10 (vceN (Z 10) (atW p)))∧OnlyE (EX b v) w w':=by
 refine zuI h p _ _ (zbx p 3 _ _ hk rfl rfl) (R:=fun w'=>HasP w' b v c d bs (upZ Z 10 (vceN (Z 10) (atW p)))∧OnlyE (EX b v) w w') fun w1 b1=>?_
 exact (zoL (h.next b1) 3 _ (atW p) (q:=iv (Z 10)) (q':=iv (vceN (Z 10) (atW p))) rfl (fun w=>zrY _ _ g.2.2.2.2.1 g.2.2.2.2.2.1 w) (fun _ _=>rfl)).mono fun e w' ⟨e1,x2,o2⟩=>⟨e1,x2,(zay b1).trans o2⟩
theorem zvz (g:Nat→Int) (a y:Int) (g0:0≤g 1∧g 1<512) (g1:∀j,0≤g (j+2)∧g (j+2)<512) (y0:0≤y∧y<256) (w:World):Calls Tryz.prog 209 #[.agg (rowF (iv g) 514),.int .i64 a,.int .i64 y] w fun e w'=>e=Ending.returned (.agg (rowF (iv (vceW g a y)) 514))∧Below w.heap.size w w':=by
 have hi:g 1%512=((g 1).toNat:Int):=by omega
 have hf:=g1 (g 1).toNat;unfold vceW
 conv=>arg 3;rw [←zls g,zdx]
 by_cases a0:a=0
 ·subst a0;rw [if_pos rfl,zdx];exact V12.write_0 (g 0) (g 1) y y (fun j=>g (j+2)) _ hi (by omega) w
 rw [if_neg a0]
 by_cases a2:a=2
 ·subst a2;rw [if_pos rfl,zdx];exact V12.write_2 (g 0) (g 1) y _ (fun j=>g (j+2)) _ hi (by omega) w
 rw [if_neg a2]
 by_cases a3:a=3
 ·subst a3;rw [if_pos rfl,zdx];exact V12.write_3 (g 0) (g 1) y _ (fun j=>g (j+2)) _ hi (by omega) w
 rw [if_neg a3]
 by_cases a4:a=4
 ·subst a4;rw [if_pos rfl,zdx];have k:=V12.write_4 (g 0) (g 1) y (g ((g 1).toNat+2)/256*256+y) (fun j=>g (j+2)) _ hi (by omega) w;rw [show (((g 1).toNat:Nat):Int)=g 1 by omega] at k;exact k
 rw [if_neg a4]
 by_cases a5:a=5
 ·subst a5;rw [if_pos rfl,zdx];exact V12.write_5 (g 0) (g 1) y _ (fun j=>g (j+2)) _ hi ((g 1+1)%512) (by omega) (by omega) w
 rw [if_neg a5,←zls g,zdx];exact V12.write_no a (g 0) (g 1) y (fun j=>g (j+2)) _ hi a0 a2 a3 a4 a5 w
theorem zBm (h:HasP w b v c d bs Z) (g:zdh Z) (p n y:Int) (hy:n%256=y) (p0:0≤p) (p1:p<1048576) (hn:bs.length/8192≠320):Calls Tryz.prog 160 #[.pointer (some ⟨b,0,none⟩),.int .i64 p,.int .i64 n] w fun e w'=>e=Ending.returned (.tuple #[])∧HasP w' b v c d bs Z∧OnlyE (EX b v) w w':=zAM h p p0 p1 (lt:=Z 7 0) rfl hn n
theorem zyy (h:HasP w b v c d bs Z) (g:zdh Z) (p n y:Int) (hy:n%256=y) (hk:zaH p=8):Calls Tryz.prog 160 #[.pointer (some ⟨b,0,none⟩),.int .i64 p,.int .i64 n] w fun e w'=>e=Ending.returned (.tuple #[])∧HasP w' b v c d bs Z∧OnlyE (EX b v) w w':=zoQ h p n _ _ (zbx p 8 _ _ hk rfl rfl) y hy
theorem bv_up (f:Nat→Int) (i:Nat) (y:Int):updC (bv f) i (.int .u8 y)=bv (up f i y):=funext fun j=>by
 unfold updC bv up;split<;>rfl
theorem zBn (h:HasP w b v c d bs Z) (g:zdh Z) (p n y:Int) (hy:n%256=y) (p0:2031616≤p) (p1:p<2064384):Calls Tryz.prog 160 #[.pointer (some ⟨b,0,none⟩),.int .i64 p,.int .i64 n] w fun e w'=>e=Ending.returned (.tuple #[])∧HasP w' b v c d bs (upZ Z 8 (up (Z 8) (p%8192).toNat y))∧OnlyE (EX b v) w w':=by
 have k:=zAK h p p0 p1 (p%8192) rfl (m:=bv (Z 8)) rfl n y hy;rw [bv_up] at k;exact k
theorem zBo (h:HasP w b v c d bs Z) (g:zdh Z) (p n y:Int) (hy:n%256=y) (hk:zaH p=3):Calls Tryz.prog 160 #[.pointer (some ⟨b,0,none⟩),.int .i64 p,.int .i64 n] w fun e w'=>e=Ending.returned (.tuple #[])∧HasP w' b v c d bs (upZ Z 10 (vceW (Z 10) (atW p) y))∧OnlyE (EX b v) w w':=zrn h p n _ _ (zbx p 3 _ _ hk rfl rfl) y hy (s:=iv (Z 10)) (q:=iv (vceW (Z 10) (atW p) y)) rfl (fun w=>zvz _ _ _ g.2.2.2.2.1 g.2.2.2.2.2.1 (by omega) w) (fun _ _=>rfl)
theorem zBp (h:HasP w b v c d bs Z) (g:zdh Z) (p n y:Int) (hy:n%256=y) (hk:zaH p=4):Calls Tryz.prog 160 #[.pointer (some ⟨b,0,none⟩),.int .i64 p,.int .i64 n] w fun e w'=>e=Ending.returned (.tuple #[])∧HasP w' b v c d bs (zcv (upZ Z 11 (P22.wrF (Z 11) (atW p) y)) y)∧OnlyE (EX b v) w w':=zBb h p _ _ n y hk rfl rfl hy (q:=Z 11) rfl g.2.2.2.2.2.2.1 (hd:=Z 16 0) rfl
theorem zBq (h:HasP w b v c d bs Z) (g:zdh Z) (p n y:Int) (hy:n%256=y) (hk:zaH p=6):Calls Tryz.prog 160 #[.pointer (some ⟨b,0,none⟩),.int .i64 p,.int .i64 n] w fun e w'=>e=Ending.returned (.tuple #[])∧HasP w' b v c d bs (zcv (upZ Z 14 (padW (Z 14) y)) y)∧OnlyE (EX b v) w w':=by
 have k:=zBc h p _ _ n y hk rfl rfl hy (S:=isB (Z 14 0)) (C:=isB (Z 14 1)) (D:=isB (Z 14 2)) (I:=Z 14 3) rfl (hd:=Z 16 0) rfl;rw [←zyv] at k;exact k
theorem zvA (g:Nat→Int) (a y:Int) (ha:a=0∨a=1) (w:World):Calls Tryz.prog 211 #[.agg (rowF (tvZ g) 4),.int .i64 a,.int .i64 y] w fun e w'=>e=Ending.returned (.agg (rowF (tvZ (timW g a y)) 4))∧Below w.heap.size w w':=by
 rcases ha with rfl|rfl
 ·exact T10.write_0 (g 0) (g 1) (isB (g 2)) (g 3) y w
 ·exact T10.write_1 (g 0) (g 1) (isB (g 2)) (g 3) y (isB (y%2)) rfl w
theorem zvB (h:HasP w b v c d bs Z) (g:zdh Z) (p n y:Int) (hy:n%256=y) (hk:zaH p=5):Calls Tryz.prog 160 #[.pointer (some ⟨b,0,none⟩),.int .i64 p,.int .i64 n] w fun e w'=>e=Ending.returned (.tuple #[])∧HasP w' b v c d bs (zcv (upZ (setZ Z) 12 (timW (setZ Z 12) (atW p) y)) y)∧OnlyE (EX b v) w w':=
 zvj h p _ _ n y hk rfl rfl hy (r:=Z 12 0) (n:=Z 12 1) (o:=isB (Z 12 2)) (q:=Z 12 3) (t:=Z 17 0) (m:=Z 13 0) (l:=Z 13 1) rfl rfl rfl (hd:=Z 16 0) rfl (u:=tvZ (timW (setZ Z 12) (atW p) y)) (fun w=>zvA (setZ Z 12) _ _ (zvu hk) w) (zrM _ _ _ _)
theorem zvC (m l a y:Int) (w:World):Calls Tryz.prog 213 #[.agg (rowF (sv m l) 2),.int .i64 a,.int .i64 y] w fun e w'=>e=Ending.returned (.agg (rowF (sv (irqM m l a y) (irqL m l a y)) 2))∧Below w.heap.size w w':=by
 simp only [zhg];unfold irqM irqL
 by_cases a2:a=2
 ·subst a2;exact I11.write_2 m l y w
 by_cases a3:a=3
 ·subst a3;exact I11.write_3 m l y w
 rw [if_neg a2,if_neg a3,if_neg a2,if_neg a3];exact I11.write_no m l a y a2 a3 w
theorem zBr (h:HasP w b v c d bs Z) (g:zdh Z) (p n y:Int) (hy:n%256=y) (hk:zaH p=7):Calls Tryz.prog 160 #[.pointer (some ⟨b,0,none⟩),.int .i64 p,.int .i64 n] w fun e w'=>e=Ending.returned (.tuple #[])∧HasP w' b v c d bs (zcv (upZ (setZ Z) 13 (twoV (irqM (setZ Z 13 0) (setZ Z 13 1) (atW p) y) (irqL (setZ Z 13 0) (setZ Z 13 1) (atW p) y))) y)∧OnlyE (EX b v) w w':=
 zAS h p _ _ n y hk rfl rfl hy (r:=Z 12 0) (n:=Z 12 1) (o:=isB (Z 12 2)) (q:=Z 12 3) (t:=Z 17 0) (m:=Z 13 0) (l:=Z 13 1) rfl rfl rfl (hd:=Z 16 0) rfl (u:=sv (irqM (setZ Z 13 0) (setZ Z 13 1) (atW p) y) (irqL (setZ Z 13 0) (setZ Z 13 1) (atW p) y)) (fun w=>zvC (setZ Z 13 0) (setZ Z 13 1) _ _ w) (znz _ _)
theorem znC (h:HasP w b v c d bs Z):Calls Tryz.prog 31 #[.pointer (some ⟨b,0,none⟩)] w fun e w'=>e=Ending.returned (.tuple #[])∧HasP w' b v c d bs (setZ Z)∧OnlyE (EX b v) w w':=
 zfY h (r:=Z 12 0) (n:=Z 12 1) (o:=isB (Z 12 2)) (p:=Z 12 3) (t:=Z 17 0) (m:=Z 13 0) (l:=Z 13 1) rfl rfl rfl
theorem zwV (h:HasP w b v c d bs Z) (n:Int) (may:Bool):Calls Tryz.prog 91 #[.pointer (some ⟨b,0,none⟩),.int .i64 n,.bool may] w fun e w'=>e=Ending.returned (.tuple #[])∧HasP w' b v c d bs (zlt Z n may)∧OnlyE (EX b v) w w':=by
 have k:=zAQ h (s:=Z 3 0) (n:=n) (x:=bits .or .i64 (Z 3 0) n) (m:=Z 13 0) (l:=Z 13 1) may rfl rfl rfl;cases may with
 |false=>exact k
 |true=>exact k
end Go.Proofs.YtdiidjehdginnaaGreatDoor.L24
namespace Go.Proofs.YtdiidjehdginnaaGreatDoor
set_option maxHeartbeats 4000000
set_option maxRecDepth 20000
open Go.RowKit
set_option linter.unusedVariables false
variable {P:Program} {md:Region.Mode} {Q:Exit→Act→World→Prop}
variable {S:(Nat→Bool)→World→Prop} {F:(Nat→Value)→Act} {a:Act} {l:List Oper} {i:Nat} {d:Nat→Bool} {u:Nat→Value} {V:Nat→Value→Prop}
def zeF (md:Region.Mode) (l:List Oper) (d:Nat→Bool):Prop:=∀(j:Nat) (o:Oper),l[j]? = some o→d j=true→∀e ∈ o.after,Region.binds md e=true→d e.on=true
def updD (d:Nat→Bool) (i:Nat):Nat→Bool:=fun j=>if j=i then true else d j
theorem zaI (d:Nat→Bool) (i:Nat):updD d i i=true:=by simp [updD]
theorem zar (d:Nat→Bool) {j:Nat} (h:¬j=i):updD d i j=d j:=by simp [updD,h]
def znD (md:Region.Mode) (l:List Oper):Nat→Nat→Nat→Bool
 |0,_,_=>false
 |n+1,i,p=>match l[p]? with|some o=>o.after.any (fun e=>Region.binds md e&&(e.on==i||znD md l n i e.on))|none=>false
theorem zfa (hc:zeF md l d):∀(n i p:Nat),d p=true→znD md l n i p=true→d i=true
 |0,_,_,_,h=>by cases h
 |n+1,i,p,hp,h=>by
  unfold znD at h;cases ho:l[p]? with
  |none=>rw [ho] at h;cases h
  |some o=>
   rw [ho] at h;obtain ⟨e,he,hb⟩:=Array.any_eq_true'.1 h;simp only [Bool.and_eq_true,Bool.or_eq_true,beq_iff_eq] at hb;have k:=hc p o ho hp e he hb.1;rcases hb.2 with rfl|h2
   ·exact k
   ·exact zfa hc n i e.on k h2
theorem zap (hc:zeF md l d) (hi:d i=false) (p:Nat) (n:Nat) (h:znD md l n i p=true):d p=false:=by
 cases hd:d p with
 |false=>rfl
 |true=>rw [zfa hc n i p hd h] at hi;cases hi
def zgI (md:Region.Mode) (V:Nat→Value→Prop) (u:Nat→Value) (d:Nat→Bool):List Edge→Prop
 |[]=>True
 |e::rest=>(match Region.binds md e with|true=>V e.on (u e.on)∧d e.on=true|false=>True)∧zgI md V u d rest
theorem zgJ :∀es:List Edge,(∀e ∈ es,Region.binds md e=true→V e.on (u e.on)∧d e.on=true)→zgI md V u d es
 |[],_=>trivial
 |e::rest,h=>by
  refine ⟨?_,zgJ rest fun x hx=>h x (List.mem_cons_of_mem _ hx)⟩;cases hb:Region.binds md e with
  |true=>exact h e (List.mem_cons_self ..) hb
  |false=>trivial
def zvD (A:Act) (dst:Option Tmp) (V:Value→Prop) (S:World→Prop) (x:Exit) (a':Act) (w':World):Prop:=∃v,x=.normal∧a'=A.put dst v∧V v∧S w'
theorem zad {A:Act} {dst:Option Tmp} {V:Value→Prop} {S:World→Prop} {a':Act} {w':World} (v:Value) (h:a'=A.put dst v) (r:V v) (b:S w'):zvD A dst V S .normal a' w':=⟨v,rfl,h,r,b⟩
def zBs (P:Program) (md:Region.Mode) (l:List Oper) (F:(Nat→Value)→Act) (V:Nat→Value→Prop) (S:(Nat→Bool)→World→Prop) (i:Nat) (o:Oper):Prop:=
 ∀(u:Nat→Value) (d:Nat→Bool) (w:World),d i=false→zeF md l d→zgI md V u d o.after.toList→S d w→wpList P l.toArray (zvD (F u) o.dst (V i) (S (updD d i))) [o] (F u) w
def zih (P:Program) (md:Region.Mode) (l:List Oper) (F:(Nat→Value)→Act) (V:Nat→Value→Prop) (S:(Nat→Bool)→World→Prop):Nat→List Oper→Prop
 |_,[]=>True
 |i,o::rest=>zBs P md l F V S i o∧zih P md l F V S (i+1) rest
theorem zbb :zih P md l F V S i []:=trivial
theorem zaW {rest:List Oper} {o:Oper}
 (h:∀(u:Nat→Value) (d:Nat→Bool) (w:World),d i=false→zeF md l d→zgI md V u d o.after.toList→S d w→wpList P l.toArray (zvD (F u) o.dst (V i) (S (updD d i))) [o] (F u) w) (k:zih P md l F V S (i+1) rest):zih P md l F V S i (o::rest):=⟨h,k⟩
theorem zlu :∀(rest:List Oper) (k i:Nat) (o:Oper),zih P md l F V S k rest→rest[i]? = some o→zBs P md l F V S (k+i) o
 |[],_,_,_,_,h=>by cases h
 |x::rest,k,0,o,hs,h=>by
  obtain rfl:x=o:=by simpa using h
  exact hs.1
 |x::rest,k,i+1,o,hs,h=>by
  have:=zlu rest (k+1) i o hs.2 (by simpa using h)
  rwa [show k+1+i=k+(i+1) by omega] at this
def allV (V:Nat→Value→Prop) (u:Nat→Value):Nat→List Oper→Prop
 |_,[]=>True
 |i,_::rest=>V i (u i)∧allV V u (i+1) rest
theorem zii :∀(rest:List Oper) (k:Nat),(∀i,i<rest.length→V (k+i) (u (k+i)))→allV V u k rest
 |[],_,_=>trivial
 |_::rest,k,h=>⟨h 0 (by simp),zii rest (k+1) fun i hi=>by rw [show k+1+i=k+(i+1) by omega];exact h (i+1) (by simpa using hi)⟩
def zbz (L:Array Bool):Nat→Bool:=fun j=>L.getD j false
theorem zjm {L:Array Bool} (h:i<L.size):zbz (L.setIfInBounds i true)=updD (zbz L) i:=by
 funext j;unfold zbz updD
 by_cases e:j=i
 ·subst e;rw [if_pos rfl,Array.getD_eq_getD_getElem?,Array.getElem?_setIfInBounds_self_of_lt h];rfl
 ·rw [if_neg e,getD_set_ne false (fun k=>e k.symm)]
theorem zrZ (hS:zdL l=true) (hA:zfl md l=true) (hs:zih P md l (zaA a l 0) V S 0 l)
  (hQ:∀vals d w,(∀i,i<l.length→d i=true)→S d w→allV V vals 0 l→Q .normal (zaA a l 0 vals) w):
  ∀(fuel:Nat) (L:Array Bool) (vals:Nat→Value) (w:World),L.size=l.length→zch L≤fuel→zeF md l (zbz L)→S (zbz L) w→(∀i,i<l.length→L.getD i true=true→V i (vals i))→wpAny P md l.toArray Q fuel L (zaA a l 0 vals) w:=by
 intro fuel
 induction fuel with
 |zero=>
  intro L vals w hL hf hc hb hF;have all:=fun i (hi:i<l.length)=>zbI (L:=L) (by omega) i
  refine ⟨?_,hQ vals (zbz L) w (fun i hi=>by unfold zbz;rw [zaY (by omega) false true];exact all i hi) hb (zii l 0 fun i hi=>by rw [Nat.zero_add];exact hF i hi (all i hi))⟩;apply List.eq_nil_iff_forall_not_mem.2;intro j hj;obtain ⟨u,o,ho,_⟩:=mem_ready.1 hj;rw [zbI (L:=L) (by omega) j] at u;cases u
 |succ fuel ih=>
  intro L vals w hL hf hc hb hF;refine ⟨fun e=>?_,fun i hi=>?_⟩
  ·have all:=zeQ hA e hL;exact hQ vals (zbz L) w (fun i hi=>by unfold zbz;rw [zaY (by omega) false true];exact all i hi) hb (zii l 0 fun i hi=>by rw [Nat.zero_add];exact hF i hi (all i hi))
  ·obtain ⟨u,o,ho,hall⟩:=mem_ready.1 hi;have ho':l[i]? = some o:=by simpa using ho
   have hil:i<l.length:=by
    rcases Nat.lt_or_ge i l.length with k|k
    ·exact k
    ·rw [List.getElem?_eq_none k] at ho';cases ho'
   have hdi:zbz L i=false:=by
    unfold zbz;rw [zaY (by omega) false true];exact u
   have haw:∀e ∈ o.after,Region.binds md e=true→zbz L e.on=true:=fun e he hbd=>hall e he hbd
   have st:=zlu l 0 i o hs ho' vals (zbz L) w (by rw [Nat.zero_add];exact hdi) hc (zgJ _ fun e he hbd=>by
    have he':e ∈ o.after:=by simpa using he
    have h1:=zcY hA ho' e he' hbd;have h2:=hall e he' hbd;refine ⟨?_,h2⟩;rw [zaY (by omega) false true] at h2
    exact hF e.on (by omega) h2) hb
   have st2:wpOp P l.toArray Q i (fun a' w'=>∃v,a'=(zaA a l 0 vals).put o.dst v∧V i v∧S (updD (zbz L) i) w') (zaA a l 0 vals) w:=by
    unfold wpOp;rw [ho];unfold wpList at st;simp only [wpList,Nat.zero_add,zvD] at st;show if Region.wanted o (yielded l.toArray (zaA a l 0 vals).tmps)=true then _ else _;split
    ·rename_i hw;rw [if_pos hw] at st;rcases st with st|⟨_,st⟩
     ·exact .inl (zjN (fun a' w' ⟨v,_,h⟩=>⟨v,h⟩) (fun x a' w' hx ⟨v,h,_⟩=>absurd h hx) st)
     ·obtain ⟨a',w',v,h,_⟩:=st;cases h
    ·rename_i hw;rw [if_neg hw] at st;obtain ⟨v,_,h⟩:=st;exact ⟨v,h⟩
   refine wpOp_mono (fun a' w' ⟨v,ea,hr,hbw⟩=>?_) st2;subst ea;rw [zdM v l a 0 i o vals hS ho',Nat.zero_add];have hset:=zjm (L:=L) (i:=i) (by omega);refine ih _ _ w' (by simpa using hL) (by have:=zcC u;omega) ?_ (by rw [hset];exact hbw) fun j hj hlist=>?_
   ·rw [hset];intro j x hx hj e he hbd
    by_cases ej:j=i
    ·subst ej;rw [ho'] at hx;cases hx
     by_cases ei:e.on=j
     ·rw [ei,zaI]
     ·rw [zar _ ei];exact haw e he hbd
    ·rw [zar _ ej] at hj;have k:=hc j x hx hj e he hbd
     by_cases ei:e.on=i
     ·rw [ei,zaI]
     ·rw [zar _ ei];exact k
   ·by_cases e:j=i
    ·subst e;unfold updV;rw [if_pos rfl];exact hr
    ·unfold updV;rw [if_neg e];rw [getD_set_ne true (fun h=>e h.symm)] at hlist;exact hF j hj hlist
theorem zaD {id:Nat} {w:World}  (V:Nat→Value→Prop) (S:(Nat→Bool)→World→Prop) (F:(Nat→Value)→Act) (hF:∀u,zaA a l 0 u=F u) (hm:P.follows .mixedOrders=true) (hS:zdL l=true) (hA:zfl .any l=true)
  (h0:∀d,(∀i,d i=false)→S d w.drew) (hs:zih P .any l F V S 0 l)
  (hQ:∀u d w',(∀i,i<l.length→d i=true)→S d w'→allV V u 0 l→Q .normal (F u) w'):(Code.region id l.toArray true).wp P Q a w:=by
 obtain rfl:zaA a l 0=F:=funext hF;refine wp_region_any hm ?_;have e:zaA a l 0 (fun i=>((l[i]?).bind (·.dst)).elim undef fun d=>a.tmps.getD d undef)=a:=by
  have aux:∀(rest:List Oper) (k:Nat) (u:Nat→Value),(∀i o,rest[i]? = some o→∀d,o.dst=some d→u (k+i)=a.tmps.getD d undef)→zaA a rest k u=a:=by
   intro rest
   induction rest with
   |nil=>intros;rfl
   |cons o rest ih=>
    intro k u h;show zaA (a.put o.dst (u k)) rest (k+1) u=a;rw [zjK a o.dst (u k) (fun x hx=>h 0 o rfl x hx)];exact ih (k+1) u fun i p hp d hd=>by rw [show k+1+i=k+(i+1) by omega];exact h (i+1) p (by simpa using hp) d hd
  refine aux l 0 _ fun i o ho d hd=>?_
  rw [Nat.zero_add,ho];simp [hd]
 have d0:∀i,zbz (Array.replicate l.toArray.size false) i=false:=fun i=>by
  unfold zbz;rw [Array.getD_eq_getD_getElem?,Array.getElem?_replicate];split<;>rfl
 have k:=zrZ (Q:=Q) hS hA hs hQ l.toArray.size (Array.replicate l.toArray.size false) (fun i=>((l[i]?).bind (·.dst)).elim undef fun d=>a.tmps.getD d undef) w.drew (by simp) (by
  unfold zch
  simp) (fun j o ho hj=>by rw [d0] at hj;cases hj) (h0 _ d0) (fun i hi h=>by
  rw [Array.getD_eq_getD_getElem?,Array.getElem?_replicate,if_pos (by simpa using hi)] at h
  cases h)
 rw [e] at k;exact k
def zcx (l:List Value) (i:Nat) (v:Value):Prop:=v=l.getD i undef
end Go.Proofs.YtdiidjehdginnaaGreatDoor
namespace Go.Proofs.YtdiidjehdginnaaGreatDoor
set_option maxHeartbeats 4000000
set_option maxRecDepth 20000
open Go.RowKit
set_option linter.unusedVariables false
variable {P:Program} {md:Region.Mode} {Q:Exit→Act→World→Prop}
variable {S:(Nat→Value)→(Nat→Bool)→World→Prop} {F:(Nat→Value)→Act} {a:Act} {l:List Oper} {i:Nat} {V:Nat→Value→Prop}
def zvE (A:Act) (dst:Option Tmp) (V:Value→Prop) (S:Value→World→Prop) (x:Exit) (a':Act) (w':World):Prop:=∃v,x=.normal∧a'=A.put dst v∧V v∧S v w'
theorem zal {A:Act} {dst:Option Tmp} {V:Value→Prop} {S:Value→World→Prop} {a':Act} {w':World} (v:Value) (h:a'=A.put dst v) (r:V v) (b:S v w'):zvE A dst V S .normal a' w':=⟨v,rfl,h,r,b⟩
def zBt (P:Program) (md:Region.Mode) (l:List Oper) (F:(Nat→Value)→Act) (V:Nat→Value→Prop) (S:(Nat→Value)→(Nat→Bool)→World→Prop) (i:Nat) (o:Oper):Prop:=
 ∀(u:Nat→Value) (d:Nat→Bool) (w:World),d i=false→zeF md l d→zgI md V u d o.after.toList→S u d w→wpList P l.toArray (zvE (F u) o.dst (V i) (fun v=>S (updV u i v) (updD d i))) [o] (F u) w
def zij (P:Program) (md:Region.Mode) (l:List Oper) (F:(Nat→Value)→Act) (V:Nat→Value→Prop) (S:(Nat→Value)→(Nat→Bool)→World→Prop):Nat→List Oper→Prop
 |_,[]=>True
 |i,o::rest=>zBt P md l F V S i o∧zij P md l F V S (i+1) rest
theorem zgK :zij P md l F V S i []:=trivial
theorem zag {rest:List Oper} {o:Oper}
 (h:∀(u:Nat→Value) (d:Nat→Bool) (w:World),d i=false→zeF md l d→zgI md V u d o.after.toList→S u d w→wpList P l.toArray (zvE (F u) o.dst (V i) (fun v=>S (updV u i v) (updD d i))) [o] (F u) w) (k:zij P md l F V S (i+1) rest):zij P md l F V S i (o::rest):=⟨h,k⟩
theorem zlv :∀(rest:List Oper) (k i:Nat) (o:Oper),zij P md l F V S k rest→rest[i]? = some o→zBt P md l F V S (k+i) o
 |[],_,_,_,_,h=>by cases h
 |x::rest,k,0,o,hs,h=>by
  obtain rfl:x=o:=by simpa using h
  exact hs.1
 |x::rest,k,i+1,o,hs,h=>by
  have:=zlv rest (k+1) i o hs.2 (by simpa using h)
  rwa [show k+1+i=k+(i+1) by omega] at this
theorem zpk (hS:zdL l=true) (hA:zfl md l=true) (hs:zij P md l (zaA a l 0) V S 0 l)
  (hQ:∀vals d w,(∀i,i<l.length→d i=true)→S vals d w→allV V vals 0 l→Q .normal (zaA a l 0 vals) w):
  ∀(fuel:Nat) (L:Array Bool) (vals:Nat→Value) (w:World),L.size=l.length→zch L≤fuel→zeF md l (zbz L)→S vals (zbz L) w→(∀i,i<l.length→L.getD i true=true→V i (vals i))→wpAny P md l.toArray Q fuel L (zaA a l 0 vals) w:=by
 intro fuel
 induction fuel with
 |zero=>
  intro L vals w hL hf hc hb hF;have all:=fun i (hi:i<l.length)=>zbI (L:=L) (by omega) i
  refine ⟨?_,hQ vals (zbz L) w (fun i hi=>by unfold zbz;rw [zaY (by omega) false true];exact all i hi) hb (zii l 0 fun i hi=>by rw [Nat.zero_add];exact hF i hi (all i hi))⟩;apply List.eq_nil_iff_forall_not_mem.2;intro j hj;obtain ⟨u,o,ho,_⟩:=mem_ready.1 hj;rw [zbI (L:=L) (by omega) j] at u;cases u
 |succ fuel ih=>
  intro L vals w hL hf hc hb hF;refine ⟨fun e=>?_,fun i hi=>?_⟩
  ·have all:=zeQ hA e hL;exact hQ vals (zbz L) w (fun i hi=>by unfold zbz;rw [zaY (by omega) false true];exact all i hi) hb (zii l 0 fun i hi=>by rw [Nat.zero_add];exact hF i hi (all i hi))
  ·obtain ⟨u,o,ho,hall⟩:=mem_ready.1 hi;have ho':l[i]? = some o:=by simpa using ho
   have hil:i<l.length:=by
    rcases Nat.lt_or_ge i l.length with k|k
    ·exact k
    ·rw [List.getElem?_eq_none k] at ho';cases ho'
   have hdi:zbz L i=false:=by
    unfold zbz;rw [zaY (by omega) false true];exact u
   have haw:∀e ∈ o.after,Region.binds md e=true→zbz L e.on=true:=fun e he hbd=>hall e he hbd
   have st:=zlv l 0 i o hs ho' vals (zbz L) w (by rw [Nat.zero_add];exact hdi) hc (zgJ _ fun e he hbd=>by
    have he':e ∈ o.after:=by simpa using he
    have h1:=zcY hA ho' e he' hbd;have h2:=hall e he' hbd;refine ⟨?_,h2⟩;rw [zaY (by omega) false true] at h2
    exact hF e.on (by omega) h2) hb
   have st2:wpOp P l.toArray Q i (fun a' w'=>∃v,a'=(zaA a l 0 vals).put o.dst v∧V i v∧S (updV vals i v) (updD (zbz L) i) w') (zaA a l 0 vals) w:=by
    unfold wpOp;rw [ho];unfold wpList at st;simp only [wpList,Nat.zero_add,zvE] at st;show if Region.wanted o (yielded l.toArray (zaA a l 0 vals).tmps)=true then _ else _;split
    ·rename_i hw;rw [if_pos hw] at st;rcases st with st|⟨_,st⟩
     ·exact .inl (zjN (fun a' w' ⟨v,_,h⟩=>⟨v,h⟩) (fun x a' w' hx ⟨v,h,_⟩=>absurd h hx) st)
     ·obtain ⟨a',w',v,h,_⟩:=st;cases h
    ·rename_i hw;rw [if_neg hw] at st;obtain ⟨v,_,h⟩:=st;exact ⟨v,h⟩
   refine wpOp_mono (fun a' w' ⟨v,ea,hr,hbw⟩=>?_) st2;subst ea;rw [zdM v l a 0 i o vals hS ho',Nat.zero_add];have hset:=zjm (L:=L) (i:=i) (by omega);refine ih _ _ w' (by simpa using hL) (by have:=zcC u;omega) ?_ (by rw [hset];exact hbw) fun j hj hlist=>?_
   ·rw [hset];intro j x hx hj e he hbd
    by_cases ej:j=i
    ·subst ej;rw [ho'] at hx;cases hx
     by_cases ei:e.on=j
     ·rw [ei,zaI]
     ·rw [zar _ ei];exact haw e he hbd
    ·rw [zar _ ej] at hj;have k:=hc j x hx hj e he hbd
     by_cases ei:e.on=i
     ·rw [ei,zaI]
     ·rw [zar _ ei];exact k
   ·by_cases e:j=i
    ·subst e;unfold updV;rw [if_pos rfl];exact hr
    ·unfold updV;rw [if_neg e];rw [getD_set_ne true (fun h=>e h.symm)] at hlist;exact hF j hj hlist
theorem zdG {id:Nat} {w:World}  (V:Nat→Value→Prop) (S:(Nat→Value)→(Nat→Bool)→World→Prop) (F:(Nat→Value)→Act) (hF:∀u,zaA a l 0 u=F u) (hm:P.follows .mixedOrders=true) (hS:zdL l=true) (hA:zfl .any l=true)
  (h0:∀u d,(∀i,d i=false)→S u d w.drew) (hs:zij P .any l F V S 0 l)
  (hQ:∀u d w',(∀i,i<l.length→d i=true)→S u d w'→allV V u 0 l→Q .normal (F u) w'):(Code.region id l.toArray true).wp P Q a w:=by
 obtain rfl:zaA a l 0=F:=funext hF;refine wp_region_any hm ?_;have e:zaA a l 0 (fun i=>((l[i]?).bind (·.dst)).elim undef fun d=>a.tmps.getD d undef)=a:=by
  have aux:∀(rest:List Oper) (k:Nat) (u:Nat→Value),(∀i o,rest[i]? = some o→∀d,o.dst=some d→u (k+i)=a.tmps.getD d undef)→zaA a rest k u=a:=by
   intro rest
   induction rest with
   |nil=>intros;rfl
   |cons o rest ih=>
    intro k u h;show zaA (a.put o.dst (u k)) rest (k+1) u=a;rw [zjK a o.dst (u k) (fun x hx=>h 0 o rfl x hx)];exact ih (k+1) u fun i p hp d hd=>by rw [show k+1+i=k+(i+1) by omega];exact h (i+1) p (by simpa using hp) d hd
  refine aux l 0 _ fun i o ho d hd=>?_
  rw [Nat.zero_add,ho];simp [hd]
 have d0:∀i,zbz (Array.replicate l.toArray.size false) i=false:=fun i=>by
  unfold zbz;rw [Array.getD_eq_getD_getElem?,Array.getElem?_replicate];split<;>rfl
 have k:=zpk (Q:=Q) hS hA hs hQ l.toArray.size (Array.replicate l.toArray.size false) (fun i=>((l[i]?).bind (·.dst)).elim undef fun d=>a.tmps.getD d undef) w.drew (by simp) (by
  unfold zch
  simp) (fun j o ho hj=>by rw [d0] at hj;cases hj) (h0 _ _ d0) (fun i hi h=>by
  rw [Array.getD_eq_getD_getElem?,Array.getElem?_replicate,if_pos (by simpa using hi)] at h
  cases h)
 rw [e] at k;exact k
theorem zfZ (u:Nat→Value) (i:Nat) (v:Value):updV u i v i=v:=by simp [updV]
theorem zbX (u:Nat→Value) {j:Nat} (v:Value) (h:¬j=i):updV u i v j=u j:=by simp [updV,h]
end Go.Proofs.YtdiidjehdginnaaGreatDoor
namespace Go.Proofs.YtdiidjehdginnaaGreatDoor.L24
set_option maxHeartbeats 4000000
set_option maxRecDepth 20000
open B4 C3 G6 R15 W13
open Go.RowKit
set_option linter.unusedVariables false
variable {X Y:Int} {L:List (Nat×(Nat→Value))} {bs:List Int} {b c i v:Nat} {d:Nat→Bool} {f:Nat→Int} {Z:Nat→Nat→Int} {u:Nat→Value} {y:Value} {W w:World} {R:World→Prop}
theorem zBu (w:World):(zeroValue 205).run Tryz.prog w=.ok (.agg #[.int .i64 0,.int .i64 0]) w:=by kernel_rfl
def mvV (b v:Nat) (u:Nat→Int) (X Y:Int) (i:Nat) (y:Value):Prop:=match i with
 |0=>y=.pointer (some ⟨b,0,none⟩)
 |1=>y=.pointer (some ⟨b,0,none⟩)
 |2=>y=.pointer (some ⟨b,0,none⟩)
 |3=>y=.pointer (some ⟨b,21,none⟩)
 |4=>y=.pointer (some ⟨v,0,none⟩)
 |5=>y=.pointer (some ⟨b,1,none⟩)
 |6=>y=.pointer (some ⟨b,1,none⟩)
 |7=>y=.pointer (some ⟨b,17,none⟩)
 |8=>y=.int .i64 (u 17)
 |9=>y=.pointer (some ⟨b,1,none⟩)
 |10=>y=.pointer (some ⟨b,1,none⟩)
 |11=>y=.pointer (some ⟨b,18,none⟩)
 |12=>y=.int .i64 (u 18)
 |13=>y=.agg #[.int .i64 (u 17),.int .i64 (u 18)]
 |14=>y=.pointer (some ⟨b,1,none⟩)
 |15=>y=.pointer (some ⟨b,1,none⟩)
 |16=>y=.pointer (some ⟨b,19,none⟩)
 |17=>y=.int .i64 (u 19)
 |18=>y=.pointer (some ⟨b,1,none⟩)
 |19=>y=.pointer (some ⟨b,1,none⟩)
 |20=>y=.pointer (some ⟨b,16,none⟩)
 |21=>y=.int .i64 (u 16)
 |22=>y=.agg #[.int .i64 X,.int .i64 Y]
 |23=>∃z,y=.pointer (some ⟨z,0,none⟩)
 |_=>True
def mvS (W:World) (A:World→Prop) (O:World→Prop) (X Y:Int) (u:Nat→Value) (d:Nat→Bool) (w:World):Prop:=
 (d 22=false→Below W.heap.size W w)∧(d 22=true→A w∧O w)∧(d 23=true→∃z,u 23=.pointer (some ⟨z,0,none⟩)∧W.heap.size≤z∧w.heap[z]? = some (.cells (if d 24=true then #[.int .i64 X,.int .i64 Y] else #[.int .i64 0,.int .i64 0]) 205 (0,0)))
theorem zbi {A O:World→Prop} (h22:¬22=i) (h23:¬23=i) (h24:¬24=i) (h:mvS W A O X Y u d w):mvS W A O X Y (updV u i y) (updD d i) w:=by
 unfold mvS;rw [zar _ h22,zar _ h23,zar _ h24,zbX _ _ h23];exact h
theorem zvF {A O:World→Prop} (hA:A w) (hO:O w) (h:d 23=true→∃z,u 23=.pointer (some ⟨z,0,none⟩)∧W.heap.size≤z∧w.heap[z]? = some (.cells (if d 24=true then #[.int .i64 X,.int .i64 Y] else #[.int .i64 0,.int .i64 0]) 205 (0,0))):mvS W A O X Y (updV u 22 y) (updD d 22) w:=by
 unfold mvS;rw [zaI,zar _ (by decide),zar _ (by decide),zbX _ _ (by decide)];exact ⟨fun e=>(by cases e),fun _=>⟨hA,hO⟩,h⟩
theorem zsa {d':Nat} {wr rd st lo bu:Int}     (h:mvS W (fun w=>HasX w b v c d' L bs f wr rd st lo bu) (fun w=>OnlyE (EX b v) W w) X Y u d w) (h24:d 24=false):
  mvS W (fun w=>HasX w b v c d' L bs f wr rd st lo bu) (fun w=>OnlyE (EX b v) W w) X Y (updV u 23 (.pointer (some ⟨w.heap.size,0,none⟩))) (updD d 23) (w.alloc (.cells #[.int .i64 0,.int .i64 0] 205)):=by
 have bb:=(Below.refl _ w).alloc (Nat.le_refl _) (.cells #[.int .i64 0,.int .i64 0] 205);unfold mvS;rw [zar _ (by decide),zaI,zar _ (by decide),zfZ,h24];refine ⟨fun e=>zaz (h.1 e) bb,fun e=>⟨(h.2.1 e).1.next bb,(h.2.1 e).2.trans (zay bb)⟩,fun _=>⟨_,rfl,?_,heap_alloc_new _ _⟩⟩;cases e:d 22 with
 |false=>exact (h.1 e).size
 |true=>exact (h.2.1 e).2.size
theorem zsb {d':Nat} {wr rd st lo bu:Int}     {z:Nat}  (h:mvS W (fun w=>HasX w b v c d' L bs f wr rd st lo bu) (fun w=>OnlyE (EX b v) W w) X Y u d w) (h22:d 22=true) (h23:d 23=true) (e1:u 23=.pointer (some ⟨z,0,none⟩)) (e2:W.heap.size≤z) (e3:w.heap[z]? = some (.cells #[.int .i64 0,.int .i64 0] 205 (0,0))) (hz:∀k,(k=b∨k=v∨k=c∨k=d'∨k=1∨k=5∨k=2)→k<W.heap.size):
  mvS W (fun w=>HasX w b v c d' L bs f wr rd st lo bu) (fun w=>OnlyE (EX b v) W w) X Y (updV u 24 y) (updD d 24) (w.setRow z #[.int .i64 X,.int .i64 Y]):=by
 have ne:∀k,(k=b∨k=v∨k=c∨k=d'∨k=1∨k=5∨k=2)→k≠z:=fun k hk e=>by have:=hz k hk;omega
 obtain ⟨x0,o0⟩:=h.2.1 h22;have oz:OnlyE (fun i=>i=z) w (w.setRow z #[.int .i64 X,.int .i64 Y]):=⟨rfl,rfl,rfl,by simp [World.setRow],fun i hi hE=>setRow_other w z i _ hE⟩
 unfold mvS;rw [zar _ (by decide),zar _ (by decide),zaI,zbX _ _ (by decide),h22,h23];refine ⟨fun e=>(by cases e),fun _=>⟨?_,?_⟩,fun _=>⟨z,e1,e2,?_⟩⟩
 ·obtain ⟨q1,q2,q3,q4,q5⟩:=x0;refine ⟨oz.obj q1 (ne b (.inl rfl)),oz.obj q2 (ne v (.inr (.inl rfl))),q3.only oz (ne c (.inr (.inr (.inl rfl)))) (ne d' (.inr (.inr (.inr (.inl rfl))))),?_,q5⟩;obtain ⟨⟨t0,f0,k0⟩,⟨t1,f1,k1⟩,⟨t2,f2,k2⟩⟩:=q4;exact ⟨⟨t0,f0,oz.obj k0 (ne _ (.inr (.inr (.inr (.inr (.inl rfl))))))⟩,⟨t1,f1,oz.obj k1 (ne _ (.inr (.inr (.inr (.inr (.inr (.inl rfl)))))))⟩,⟨t2,f2,oz.obj k2 (ne _ (.inr (.inr (.inr (.inr (.inr (.inr rfl)))))))⟩⟩
 ·exact o0.setRow z e2 _
 ·exact setRow_heap _ _ _ _ _ _ e3
def stg (u:Nat→Int) (X Y:Int) (d:Nat→Bool):Nat→Int:=bif d 15 then up (bif d 12 then up (bif d 9 then up u 17 X else u) 18 Y else (bif d 9 then up u 17 X else u)) 19 65535 else (bif d 12 then up (bif d 9 then up u 17 X else u) 18 Y else (bif d 9 then up u 17 X else u))
def stgS (W:World) (b:Nat) (L:List (Nat×(Nat→Value))) (u:Nat→Int) (X Y:Int) (d:Nat→Bool) (w:World):Prop:=HasF 60 w b 9263 (segs (L.set 0 (21,iv (stg u X Y d))))∧But b W w
theorem zbF {u:Nat→Int} (h9:¬9=i) (h12:¬12=i) (h15:¬15=i) (h:stgS W b L u X Y d w):stgS W b L u X Y (updD d i) w:=by
 unfold stgS stg;rw [zar _ h9,zar _ h12,zar _ h15];exact h
theorem zpl {d:Nat} {wr rd st lo bu:Int} (h:HasX w b v c d L bs f wr rd st lo bu) {u:Nat→Int} (h0:L[0]? = some (21,iv u))  {F:Nat→Int}
  (KV:∀w,HasM w v true f wr rd st lo bu→Calls Tryz.prog 276 #[.pointer (some ⟨v,0,none⟩),.agg #[.int .i64 (u 17),.int .i64 (u 18)],.int .i64 (u 19),.int .i64 (u 16)] w fun e w'=>e=Ending.returned (.agg #[.int .i64 X,.int .i64 Y])∧HasM w' v true F wr rd st lo bu∧Only v w w') (hb:∀k,(k=b∨k=v∨k=c∨k=d∨k=1∨k=5∨k=2)→k<w.heap.size)
  {my:Bool} (hmy:(zaV (u 16) 1==1)=my)  (KT:∀w,HasX w b v c d (L.set 0 (21,iv (up (up (up u 17 X) 18 Y) 19 65535))) bs F wr rd st lo bu→Calls Tryz.prog 91 #[.pointer (some ⟨b,0,none⟩),.int .i64 16,.bool my] w fun e w'=>e=Ending.returned (.tuple #[])∧R w'∧OnlyE (EX b v) w w'):
  Calls Tryz.prog 268 #[.pointer (some ⟨b,0,none⟩)] w fun e w'=>e=Ending.returned (.tuple #[])∧R w'∧OnlyE (EX b v) w w':=by
 have KM:=hide KV;have TK:=hide KT;have HE:=hide h;have E0:=hide h0;have HB:=hide h.isB;have HZ:=hide hb;have MY:=hide hmy;have HL:=hide h.1.lt;have VL:=hide h.2.1.lt;have S0:=hide h.2.2.2.2.2.2.2.2.2;have c1:=h.1.get1 1 h.2.2.2.2.2.1 (a:=21) (h.isB.off 1 rfl) (by decide);have c16:w.cell? ⟨b,16,none⟩=some (.int .i64 (u 16)):=h.1.get 0 h0 16 (by decide) (a:=16) (by rw [h.isB.off 0 (a:=0) rfl]) (by decide);have c17:w.cell? ⟨b,17,none⟩=some (.int .i64 (u 17)):=h.1.get 0 h0 17 (by decide) (a:=17) (by rw [h.isB.off 0 (a:=0) rfl]) (by decide);have c18:w.cell? ⟨b,18,none⟩=some (.int .i64 (u 18)):=h.1.get 0 h0 18 (by decide) (a:=18) (by rw [h.isB.off 0 (a:=0) rfl]) (by decide);have c19:w.cell? ⟨b,19,none⟩=some (.int .i64 (u 19)):=h.1.get 0 h0 19 (by decide) (a:=19) (by rw [h.isB.off 0 (a:=0) rfl]) (by decide);clear h h0 KV KT hb hmy;go_enter Tryz.func268,Tryz.ntmps268;go_wp2_with fail;refine zdG (mvV b v u X Y) (mvS w (fun w=>HasX w b v c d L bs F wr rd st lo bu) (fun x=>OnlyE (EX b v) w x) X Y) _ (fun vals=>by simp only [zaA,Act.put,List.setIfInBounds_toArray,List.set_cons_succ,List.set_cons_zero,Nat.reduceAdd];rfl) (by kernel_rfl) (by kernel_rfl) (by kernel_rfl) (fun vals dn hd=>⟨fun _=>(Below.refl _ _).drew,fun e=>(by rw [hd] at e;cases e),fun e=>(by rw [hd] at e;cases e)⟩) ?_ ?_
 ·refine zag (fun vals dn x hi hc hk hs=>?_) (zag (fun vals dn x hi hc hk hs=>?_) (zag (fun vals dn x hi hc hk hs=>?_) (zag (fun vals dn x hi hc hk hs=>?_) (zag (fun vals dn x hi hc hk hs=>?_) (zag (fun vals dn x hi hc hk hs=>?_) (zag (fun vals dn x hi hc hk hs=>?_) (zag (fun vals dn x hi hc hk hs=>?_) (zag (fun vals dn x hi hc hk hs=>?_) (zag (fun vals dn x hi hc hk hs=>?_) (zag (fun vals dn x hi hc hk hs=>?_) (zag (fun vals dn x hi hc hk hs=>?_) (zag (fun vals dn x hi hc hk hs=>?_) (zag (fun vals dn x hi hc hk hs=>?_) (zag (fun vals dn x hi hc hk hs=>?_) (zag (fun vals dn x hi hc hk hs=>?_) (zag (fun vals dn x hi hc hk hs=>?_) (zag (fun vals dn x hi hc hk hs=>?_) (zag (fun vals dn x hi hc hk hs=>?_) (zag (fun vals dn x hi hc hk hs=>?_) (zag (fun vals dn x hi hc hk hs=>?_) (zag (fun vals dn x hi hc hk hs=>?_) (zag (fun vals dn x hi hc hk hs=>?_) (zag (fun vals dn x hi hc hk hs=>?_) (zag (fun vals dn x hi hc hk hs=>?_) zgK))))))))))))))))))))))))
  ·have hd:=zap hc hi 22 40 (by kernel_rfl);have hb:=hs.1 hd;go_wp2_with fail;exact zal _ rfl rfl (zbi (by decide) (by decide) (by decide) hs)
  ·obtain ⟨⟨(h0:vals 0=.pointer (some ⟨b,0,none⟩)),t0⟩,_⟩:=hk;simp only [h0];clear h0;have hd:=zap hc hi 22 40 (by kernel_rfl);have hb:=hs.1 hd;go_wp2_with fail;exact zal _ rfl rfl (zbi (by decide) (by decide) (by decide) hs)
  ·obtain ⟨⟨(h1:vals 1=.pointer (some ⟨b,0,none⟩)),t1⟩,_⟩:=hk;simp only [h1];clear h1;have hd:=zap hc hi 22 40 (by kernel_rfl);have hb:=hs.1 hd;go_wp2_with fail;exact zal _ rfl rfl (zbi (by decide) (by decide) (by decide) hs)
  ·obtain ⟨⟨(h2:vals 2=.pointer (some ⟨b,0,none⟩)),t2⟩,_⟩:=hk;simp only [h2];clear h2;have hd:=zap hc hi 22 40 (by kernel_rfl);have hb:=hs.1 hd;go_wp2_with fail;exact zal _ rfl rfl (zbi (by decide) (by decide) (by decide) hs)
  ·obtain ⟨⟨(h3:vals 3=.pointer (some ⟨b,21,none⟩)),t3⟩,_⟩:=hk;simp only [h3];clear h3;have hd:=zap hc hi 22 40 (by kernel_rfl);have hb:=hs.1 hd;have q:=(hb.cell (p:=⟨b,21,none⟩) HL.out).trans c1;go_wp2_with fail;exact zal _ rfl rfl (zbi (by decide) (by decide) (by decide) hs)
  ·have hd:=zap hc hi 22 40 (by kernel_rfl);have hb:=hs.1 hd;go_wp2_with fail;exact zal _ rfl rfl (zbi (by decide) (by decide) (by decide) hs)
  ·obtain ⟨⟨(h5:vals 5=.pointer (some ⟨b,1,none⟩)),t5⟩,_⟩:=hk;simp only [h5];clear h5;have hd:=zap hc hi 22 40 (by kernel_rfl);have hb:=hs.1 hd;go_wp2_with fail;exact zal _ rfl rfl (zbi (by decide) (by decide) (by decide) hs)
  ·obtain ⟨⟨(h6:vals 6=.pointer (some ⟨b,1,none⟩)),t6⟩,_⟩:=hk;simp only [h6];clear h6;have hd:=zap hc hi 22 40 (by kernel_rfl);have hb:=hs.1 hd;go_wp2_with fail;exact zal _ rfl rfl (zbi (by decide) (by decide) (by decide) hs)
  ·obtain ⟨⟨(h7:vals 7=.pointer (some ⟨b,17,none⟩)),t7⟩,_⟩:=hk;simp only [h7];clear h7;have hd:=zap hc hi 22 40 (by kernel_rfl);have hb:=hs.1 hd;have q:=(hb.cell (p:=⟨b,17,none⟩) HL.out).trans c17;go_wp2_with fail;exact zal _ rfl rfl (zbi (by decide) (by decide) (by decide) hs)
  ·have hd:=zap hc hi 22 40 (by kernel_rfl);have hb:=hs.1 hd;go_wp2_with fail;exact zal _ rfl rfl (zbi (by decide) (by decide) (by decide) hs)
  ·obtain ⟨⟨(h9:vals 9=.pointer (some ⟨b,1,none⟩)),t9⟩,_⟩:=hk;simp only [h9];clear h9;have hd:=zap hc hi 22 40 (by kernel_rfl);have hb:=hs.1 hd;go_wp2_with fail;exact zal _ rfl rfl (zbi (by decide) (by decide) (by decide) hs)
  ·obtain ⟨⟨(h10:vals 10=.pointer (some ⟨b,1,none⟩)),t10⟩,_⟩:=hk;simp only [h10];clear h10;have hd:=zap hc hi 22 40 (by kernel_rfl);have hb:=hs.1 hd;go_wp2_with fail;exact zal _ rfl rfl (zbi (by decide) (by decide) (by decide) hs)
  ·obtain ⟨⟨(h11:vals 11=.pointer (some ⟨b,18,none⟩)),t11⟩,_⟩:=hk;simp only [h11];clear h11;have hd:=zap hc hi 22 40 (by kernel_rfl);have hb:=hs.1 hd;have q:=(hb.cell (p:=⟨b,18,none⟩) HL.out).trans c18;go_wp2_with fail;exact zal _ rfl rfl (zbi (by decide) (by decide) (by decide) hs)
  ·obtain ⟨⟨(h8:vals 8=.int .i64 (u 17)),t8⟩,⟨(h12:vals 12=.int .i64 (u 18)),t12⟩,_⟩:=hk;simp only [h8,h12];clear h8 h12;have hd:=zap hc hi 22 40 (by kernel_rfl);have hb:=hs.1 hd;go_wp2_with fail;exact zal _ rfl rfl (zbi (by decide) (by decide) (by decide) hs)
  ·have hd:=zap hc hi 22 40 (by kernel_rfl);have hb:=hs.1 hd;go_wp2_with fail;exact zal _ rfl rfl (zbi (by decide) (by decide) (by decide) hs)
  ·obtain ⟨⟨(h14:vals 14=.pointer (some ⟨b,1,none⟩)),t14⟩,_⟩:=hk;simp only [h14];clear h14;have hd:=zap hc hi 22 40 (by kernel_rfl);have hb:=hs.1 hd;go_wp2_with fail;exact zal _ rfl rfl (zbi (by decide) (by decide) (by decide) hs)
  ·obtain ⟨⟨(h15:vals 15=.pointer (some ⟨b,1,none⟩)),t15⟩,_⟩:=hk;simp only [h15];clear h15;have hd:=zap hc hi 22 40 (by kernel_rfl);have hb:=hs.1 hd;go_wp2_with fail;exact zal _ rfl rfl (zbi (by decide) (by decide) (by decide) hs)
  ·obtain ⟨⟨(h16:vals 16=.pointer (some ⟨b,19,none⟩)),t16⟩,_⟩:=hk;simp only [h16];clear h16;have hd:=zap hc hi 22 40 (by kernel_rfl);have hb:=hs.1 hd;have q:=(hb.cell (p:=⟨b,19,none⟩) HL.out).trans c19;go_wp2_with fail;exact zal _ rfl rfl (zbi (by decide) (by decide) (by decide) hs)
  ·have hd:=zap hc hi 22 40 (by kernel_rfl);have hb:=hs.1 hd;go_wp2_with fail;exact zal _ rfl rfl (zbi (by decide) (by decide) (by decide) hs)
  ·obtain ⟨⟨(h18:vals 18=.pointer (some ⟨b,1,none⟩)),t18⟩,_⟩:=hk;simp only [h18];clear h18;have hd:=zap hc hi 22 40 (by kernel_rfl);have hb:=hs.1 hd;go_wp2_with fail;exact zal _ rfl rfl (zbi (by decide) (by decide) (by decide) hs)
  ·obtain ⟨⟨(h19:vals 19=.pointer (some ⟨b,1,none⟩)),t19⟩,_⟩:=hk;simp only [h19];clear h19;have hd:=zap hc hi 22 40 (by kernel_rfl);have hb:=hs.1 hd;go_wp2_with fail;exact zal _ rfl rfl (zbi (by decide) (by decide) (by decide) hs)
  ·obtain ⟨⟨(h20:vals 20=.pointer (some ⟨b,16,none⟩)),t20⟩,_⟩:=hk;simp only [h20];clear h20;have hd:=zap hc hi 22 40 (by kernel_rfl);have hb:=hs.1 hd;have q:=(hb.cell (p:=⟨b,16,none⟩) HL.out).trans c16;go_wp2_with fail;exact zal _ rfl rfl (zbi (by decide) (by decide) (by decide) hs)
  ·obtain ⟨⟨(h4:vals 4=.pointer (some ⟨v,0,none⟩)),t4⟩,⟨(h13:vals 13=.agg #[.int .i64 (u 17),.int .i64 (u 18)]),t13⟩,⟨(h17:vals 17=.int .i64 (u 19)),t17⟩,⟨(h21:vals 21=.int .i64 (u 16)),t21⟩,_⟩:=hk;simp only [h4,h13,h17,h21];clear h4 h13 h17 h21;have hb:=hs.1 hi;have x6:=HE.out.next hb;go_wp2_with fail;refine (KM.out _ x6.2.1).mono ?_;rintro e x2 ⟨rfl,h2,o2⟩;have r2:=x6.vram o2 h2 S0.out;have q2:=(zay (b:=b) (v:=v) hb).trans (zfA o2);have s2:=hs.2.2;clear h2 x6;go_wp2_with fail;exact zal _ rfl rfl (zvF r2 q2 (fun h=>by obtain ⟨z,e1,e2,e3⟩:=s2 h;exact ⟨z,e1,e2,o2.obj e3 (by have:=VL.out;omega)⟩))
  ·refine zav rfl 205 rfl #[.int .i64 0,.int .i64 0] zBu ?_;exact zal _ rfl ⟨_,rfl⟩ (zsa hs (zap hc hi 24 40 (by kernel_rfl)))
  ·obtain ⟨⟨h23,t23⟩,⟨(h22:vals 22=.agg #[.int .i64 X,.int .i64 Y]),t22⟩,_,⟨(h0:vals 0=.pointer (some ⟨b,0,none⟩)),t0⟩,⟨(h1:vals 1=.pointer (some ⟨b,0,none⟩)),t1⟩,⟨(h2:vals 2=.pointer (some ⟨b,0,none⟩)),t2⟩,⟨(h3:vals 3=.pointer (some ⟨b,21,none⟩)),t3⟩,⟨(h4:vals 4=.pointer (some ⟨v,0,none⟩)),t4⟩,⟨(h5:vals 5=.pointer (some ⟨b,1,none⟩)),t5⟩,⟨(h6:vals 6=.pointer (some ⟨b,1,none⟩)),t6⟩,⟨(h7:vals 7=.pointer (some ⟨b,17,none⟩)),t7⟩,⟨(h8:vals 8=.int .i64 (u 17)),t8⟩,⟨(h9:vals 9=.pointer (some ⟨b,1,none⟩)),t9⟩,⟨(h10:vals 10=.pointer (some ⟨b,1,none⟩)),t10⟩,⟨(h11:vals 11=.pointer (some ⟨b,18,none⟩)),t11⟩,⟨(h12:vals 12=.int .i64 (u 18)),t12⟩,⟨(h13:vals 13=.agg #[.int .i64 (u 17),.int .i64 (u 18)]),t13⟩,⟨(h14:vals 14=.pointer (some ⟨b,1,none⟩)),t14⟩,⟨(h15:vals 15=.pointer (some ⟨b,1,none⟩)),t15⟩,⟨(h16:vals 16=.pointer (some ⟨b,19,none⟩)),t16⟩,⟨(h17:vals 17=.int .i64 (u 19)),t17⟩,⟨(h18:vals 18=.pointer (some ⟨b,1,none⟩)),t18⟩,⟨(h19:vals 19=.pointer (some ⟨b,1,none⟩)),t19⟩,⟨(h20:vals 20=.pointer (some ⟨b,16,none⟩)),t20⟩,⟨(h21:vals 21=.int .i64 (u 16)),t21⟩,_,_,_⟩:=hk;simp only [h22];obtain ⟨z,e1,e2,e3⟩:=hs.2.2 t23;simp only [e1];have e4:x.heap[z]? = some (.cells #[.int .i64 0,.int .i64 0] 205 (0,0)):=by rw [hi] at e3;exact e3
   refine wpList_store_row rfl 205 (.tmp 3) (.tmp 31) rfl z _ rfl rfl 205 _ e4 (by kernel_rfl) rfl (by kernel_rfl) ?_;exact zal _ rfl trivial (zsb hs t22 t23 e1 e2 e4 HZ.out)
 rintro vals dn x hall hs hv;obtain ⟨x1,o1⟩:=hs.2.1 (hall 22 (by decide));obtain ⟨z,e1,e2,e3⟩:=hs.2.2 (hall 23 (by decide));rw [hall 24 (by decide)] at e3;simp only [e1];have X1:=hide x1;have O1:=hide o1;have MZ:=hide (show x.heap[z]? = some (.cells #[.int .i64 X,.int .i64 Y] 205 (0,0)) from e3);have NZ:=hide (show z≠b by have:=HL.out;omega);clear x1 o1 e1 e2 e3 hs hall c1 c16 c17 c18 c19 KM HE;go_wp2_with fail;refine zaD (zcx [.pointer (some ⟨b,1,none⟩),.pointer (some ⟨b,1,none⟩),.pointer (some ⟨b,1,none⟩),.pointer (some ⟨z,0,none⟩),.int .i64 X,.pointer (some ⟨z,1,none⟩),.int .i64 Y,.pointer (some ⟨b,1,none⟩),.pointer (some ⟨b,17,none⟩),undef,.pointer (some ⟨b,1,none⟩),.pointer (some ⟨b,18,none⟩),undef,.pointer (some ⟨b,1,none⟩),.pointer (some ⟨b,19,none⟩),undef]) (stgS x b L u X Y) _ (fun vals=>by simp only [zaA,Act.put,List.setIfInBounds_toArray,List.set_cons_succ,List.set_cons_zero,Nat.reduceAdd];rfl) (by kernel_rfl) (by kernel_rfl) (by kernel_rfl) (fun dn hd=>⟨by unfold stg;rw [hd,hd,hd];show HasF 60 _ b 9263 (segs (L.set 0 (21,iv u)));rw [zhU E0.out];exact X1.out.1,(But.refl b x).drew⟩) ?_ ?_
 ·repeat' first|refine zaW (fun vals dn x hi hc hk hs=>?_) ?_|exact zbb
  ·go_wp2_with fail;exact zad _ rfl rfl (zbF (by decide) (by decide) (by decide) hs)
  ·obtain ⟨_,_⟩:=hk;go_wp2_with fail;exact zad _ rfl rfl (zbF (by decide) (by decide) (by decide) hs)
  ·obtain ⟨_,_⟩:=hk;go_wp2_with fail;exact zad _ rfl rfl (zbF (by decide) (by decide) (by decide) hs)
  ·go_wp2_with fail;exact zad _ rfl rfl (zbF (by decide) (by decide) (by decide) hs)
  ·obtain ⟨⟨(h3:vals 3=.pointer (some ⟨z,0,none⟩)),t3⟩,_⟩:=hk;simp only [h3];clear h3;have q:=(cell_of_row x z 0 _ _ _ (hs.2.obj MZ.out NZ.out)).trans rfl;go_wp2_with fail;exact zad _ rfl rfl (zbF (by decide) (by decide) (by decide) hs)
  ·go_wp2_with fail;exact zad _ rfl rfl (zbF (by decide) (by decide) (by decide) hs)
  ·obtain ⟨⟨(h5:vals 5=.pointer (some ⟨z,1,none⟩)),t5⟩,_⟩:=hk;simp only [h5];clear h5;have q:=(cell_of_row x z 1 _ _ _ (hs.2.obj MZ.out NZ.out)).trans rfl;go_wp2_with fail;exact zad _ rfl rfl (zbF (by decide) (by decide) (by decide) hs)
  ·obtain ⟨⟨(h0:vals 0=.pointer (some ⟨b,1,none⟩)),t0⟩,_⟩:=hk;simp only [h0];clear h0;go_wp2_with fail;exact zad _ rfl rfl (zbF (by decide) (by decide) (by decide) hs)
  ·obtain ⟨⟨(h7:vals 7=.pointer (some ⟨b,1,none⟩)),t7⟩,⟨(h0:vals 0=.pointer (some ⟨b,1,none⟩)),t0⟩,_,_,⟨(h3:vals 3=.pointer (some ⟨z,0,none⟩)),t3⟩,⟨(h4:vals 4=.int .i64 X),t4⟩,_,_,_⟩:=hk;simp only [h7];clear h7 h0 h3 h4;go_wp2_with fail;exact zad _ rfl rfl (zbF (by decide) (by decide) (by decide) hs)
  ·obtain ⟨⟨(h8:vals 8=.pointer (some ⟨b,17,none⟩)),t8⟩,⟨(h4:vals 4=.int .i64 X),t4⟩,⟨(h0:vals 0=.pointer (some ⟨b,1,none⟩)),t0⟩,_,_,⟨(h3:vals 3=.pointer (some ⟨z,0,none⟩)),t3⟩,_,_,_,_⟩:=hk;simp only [h8,h4];clear h8 h4 h0 h3;have d12:=zap hc hi 12 40 (by kernel_rfl);have d15:=zap hc hi 15 40 (by kernel_rfl);have hst:stg u X Y dn=u:=by unfold stg;rw [hi,d12,d15];rfl
   have hst2:stg u X Y (updD dn 9)=up u 17 X:=by unfold stg;rw [zaI dn 9,zar dn (show ¬12=9 by decide),zar dn (show ¬15=9 by decide),d12,d15];rfl
   have h1:=hs.1;rw [hst] at h1;have cc:=h1.get 0 (zcp E0.out _) 17 (by decide) (a:=17) (by rw [(HB.out.set E0.out _).off 0 (a:=0) rfl]) (by decide);have zz:=h1.frozen 17;have h2:HasF 60 (x.setCell ⟨b,17,none⟩ (.int .i64 X)) b 9263 (segs (L.set 0 (21,iv (stg u X Y (updD dn 9))))):=by
    have k:=h1.put 0 (zcp E0.out _) 17 (by decide) (a:=17) (by rw [(HB.out.set E0.out _).off 0 (a:=0) rfl]) (.int .i64 X);rw [zjO,List.set_set,←hst2] at k;exact k
   have b2:=hs.2.set 17 (.int .i64 X);have H2:=hide h2;have B2:=hide b2;clear h1 h2 b2 hst hst2 hs;go_wp2_with fail;exact zad _ rfl rfl ⟨H2.out,B2.out⟩
  ·obtain ⟨⟨(h1:vals 1=.pointer (some ⟨b,1,none⟩)),t1⟩,_⟩:=hk;simp only [h1];clear h1;go_wp2_with fail;exact zad _ rfl rfl (zbF (by decide) (by decide) (by decide) hs)
  ·obtain ⟨⟨(h10:vals 10=.pointer (some ⟨b,1,none⟩)),t10⟩,⟨(h0:vals 0=.pointer (some ⟨b,1,none⟩)),t0⟩,⟨(h1:vals 1=.pointer (some ⟨b,1,none⟩)),t1⟩,_,⟨(h3:vals 3=.pointer (some ⟨z,0,none⟩)),t3⟩,⟨(h4:vals 4=.int .i64 X),t4⟩,⟨(h5:vals 5=.pointer (some ⟨z,1,none⟩)),t5⟩,⟨(h6:vals 6=.int .i64 Y),t6⟩,⟨(h7:vals 7=.pointer (some ⟨b,1,none⟩)),t7⟩,⟨(h8:vals 8=.pointer (some ⟨b,17,none⟩)),t8⟩,⟨(h9:vals 9=undef),t9⟩,_⟩:=hk;simp only [h10];clear h10 h0 h1 h3 h4 h5 h6 h7 h8 h9;go_wp2_with fail;exact zad _ rfl rfl (zbF (by decide) (by decide) (by decide) hs)
  ·obtain ⟨⟨(h11:vals 11=.pointer (some ⟨b,18,none⟩)),t11⟩,⟨(h6:vals 6=.int .i64 Y),t6⟩,⟨(h9:vals 9=undef),t9⟩,⟨(h0:vals 0=.pointer (some ⟨b,1,none⟩)),t0⟩,⟨(h1:vals 1=.pointer (some ⟨b,1,none⟩)),t1⟩,_,⟨(h3:vals 3=.pointer (some ⟨z,0,none⟩)),t3⟩,⟨(h4:vals 4=.int .i64 X),t4⟩,⟨(h5:vals 5=.pointer (some ⟨z,1,none⟩)),t5⟩,_,⟨(h7:vals 7=.pointer (some ⟨b,1,none⟩)),t7⟩,⟨(h8:vals 8=.pointer (some ⟨b,17,none⟩)),t8⟩,_,_⟩:=hk;simp only [h11,h6];clear h11 h6 h9 h0 h1 h3 h4 h5 h7 h8;have d9:=t9;have d15:=zap hc hi 15 40 (by kernel_rfl);have hst:stg u X Y dn=up u 17 X:=by unfold stg;rw [d9,hi,d15];rfl
   have hst2:stg u X Y (updD dn 12)=up (up u 17 X) 18 Y:=by unfold stg;rw [zaI dn 12,zar dn (show ¬9=12 by decide),zar dn (show ¬15=12 by decide),d9,d15];rfl
   have h1:=hs.1;rw [hst] at h1;have cc:=h1.get 0 (zcp E0.out _) 18 (by decide) (a:=18) (by rw [(HB.out.set E0.out _).off 0 (a:=0) rfl]) (by decide);have zz:=h1.frozen 18;have h2:HasF 60 (x.setCell ⟨b,18,none⟩ (.int .i64 Y)) b 9263 (segs (L.set 0 (21,iv (stg u X Y (updD dn 12))))):=by
    have k:=h1.put 0 (zcp E0.out _) 18 (by decide) (a:=18) (by rw [(HB.out.set E0.out _).off 0 (a:=0) rfl]) (.int .i64 Y);rw [zjO,List.set_set,←hst2] at k;exact k
   have b2:=hs.2.set 18 (.int .i64 Y);have H2:=hide h2;have B2:=hide b2;clear h1 h2 b2 hst hst2 hs;go_wp2_with fail;exact zad _ rfl rfl ⟨H2.out,B2.out⟩
  ·obtain ⟨⟨(h2:vals 2=.pointer (some ⟨b,1,none⟩)),t2⟩,_⟩:=hk;simp only [h2];clear h2;go_wp2_with fail;exact zad _ rfl rfl (zbF (by decide) (by decide) (by decide) hs)
  ·obtain ⟨⟨(h13:vals 13=.pointer (some ⟨b,1,none⟩)),t13⟩,⟨(h0:vals 0=.pointer (some ⟨b,1,none⟩)),t0⟩,⟨(h1:vals 1=.pointer (some ⟨b,1,none⟩)),t1⟩,⟨(h2:vals 2=.pointer (some ⟨b,1,none⟩)),t2⟩,⟨(h3:vals 3=.pointer (some ⟨z,0,none⟩)),t3⟩,⟨(h4:vals 4=.int .i64 X),t4⟩,⟨(h5:vals 5=.pointer (some ⟨z,1,none⟩)),t5⟩,⟨(h6:vals 6=.int .i64 Y),t6⟩,⟨(h7:vals 7=.pointer (some ⟨b,1,none⟩)),t7⟩,⟨(h8:vals 8=.pointer (some ⟨b,17,none⟩)),t8⟩,⟨(h9:vals 9=undef),t9⟩,⟨(h10:vals 10=.pointer (some ⟨b,1,none⟩)),t10⟩,⟨(h11:vals 11=.pointer (some ⟨b,18,none⟩)),t11⟩,⟨(h12:vals 12=undef),t12⟩,_⟩:=hk;simp only [h13];clear h13 h0 h1 h2 h3 h4 h5 h6 h7 h8 h9 h10 h11 h12;go_wp2_with fail;exact zad _ rfl rfl (zbF (by decide) (by decide) (by decide) hs)
  ·obtain ⟨⟨(h14:vals 14=.pointer (some ⟨b,19,none⟩)),t14⟩,⟨(h12:vals 12=undef),t12⟩,⟨(h0:vals 0=.pointer (some ⟨b,1,none⟩)),t0⟩,⟨(h1:vals 1=.pointer (some ⟨b,1,none⟩)),t1⟩,⟨(h2:vals 2=.pointer (some ⟨b,1,none⟩)),t2⟩,⟨(h3:vals 3=.pointer (some ⟨z,0,none⟩)),t3⟩,⟨(h4:vals 4=.int .i64 X),t4⟩,⟨(h5:vals 5=.pointer (some ⟨z,1,none⟩)),t5⟩,⟨(h6:vals 6=.int .i64 Y),t6⟩,⟨(h7:vals 7=.pointer (some ⟨b,1,none⟩)),t7⟩,⟨(h8:vals 8=.pointer (some ⟨b,17,none⟩)),t8⟩,⟨(h9:vals 9=undef),t9⟩,⟨(h10:vals 10=.pointer (some ⟨b,1,none⟩)),t10⟩,⟨(h11:vals 11=.pointer (some ⟨b,18,none⟩)),t11⟩,_,_⟩:=hk;simp only [h14];clear h14 h12 h0 h1 h2 h3 h4 h5 h6 h7 h8 h9 h10 h11;have d12:=t12;have d9:=zfa hc 40 9 12 t12 (by kernel_rfl);have hst:stg u X Y dn=up (up u 17 X) 18 Y:=by unfold stg;rw [d9,d12,hi];rfl
   have hst2:stg u X Y (updD dn 15)=up (up (up u 17 X) 18 Y) 19 65535:=by unfold stg;rw [zaI dn 15,zar dn (show ¬12=15 by decide),zar dn (show ¬9=15 by decide),d9,d12];rfl
   have h1:=hs.1;rw [hst] at h1;have cc:=h1.get 0 (zcp E0.out _) 19 (by decide) (a:=19) (by rw [(HB.out.set E0.out _).off 0 (a:=0) rfl]) (by decide);have zz:=h1.frozen 19;have h2:HasF 60 (x.setCell ⟨b,19,none⟩ (.int .i64 65535)) b 9263 (segs (L.set 0 (21,iv (stg u X Y (updD dn 15))))):=by
    have k:=h1.put 0 (zcp E0.out _) 19 (by decide) (a:=19) (by rw [(HB.out.set E0.out _).off 0 (a:=0) rfl]) (.int .i64 65535);rw [zjO,List.set_set,←hst2] at k;exact k
   have b2:=hs.2.set 19 (.int .i64 65535);have H2:=hide h2;have B2:=hide b2;clear h1 h2 b2 hst hst2 hs;go_wp2_with fail;exact zad _ rfl rfl ⟨H2.out,B2.out⟩
 rintro vals2 dn2 x2 hall hs hv2;have s1:=hs.1;rw [show stg u X Y dn2=up (up (up u 17 X) 18 Y) 19 65535 by unfold stg;rw [hall 9 (by decide),hall 12 (by decide),hall 15 (by decide)];rfl] at s1;have X2:=hide (X1.out.row hs.2 s1 (X1.out.isB.set E0.out _) (zaB rfl _ (by decide)) (zaB rfl _ (by decide)));have O2:=hide (O1.out.trans (zbr hs.2));have c16:x2.cell? ⟨b,16,none⟩=some (.int .i64 (u 16)):=s1.get 0 (zcp E0.out _) 16 (by decide) (a:=16) (by rw [(X1.out.isB.set E0.out _).off 0 (a:=0) rfl]) (by decide);have KB:=hide (fun w=>zaZ (u 16) 1 w);clear s1 hs hall X1 O1 MZ;go_wp2_with (first|(go_at_call 68;refine (KB.out _).mono ?_;rintro e w' ⟨rfl,hw⟩;subst w'));rw [MY.out];refine (TK.out _ X2.out).mono ?_;rintro e x3 ⟨rfl,r3,o3⟩;have R3:=hide r3;have O3:=hide (O2.out.trans o3);clear r3 o3;go_wp2;go_end0;exact ⟨rfl,R3.out,O3.out⟩
open B4 C3 G6 I11 J23 M5 P22 R15 T10 V12 W13
theorem zpm (y:Int) (K:Calls Tryz.prog 268 #[.pointer (some ⟨b,0,none⟩)] w fun e w'=>e=Ending.returned (.tuple #[])∧R w'):Calls Tryz.prog 243 #[.pointer (some ⟨b,0,none⟩),.int .i64 6,.int .i64 y] w fun e w'=>e=Ending.returned (.tuple #[])∧R w':=by
 have K0:=hide K;clear K;go_enter Tryz.func243,Tryz.ntmps243;go_wp2_with fail;refine K0.out.mono ?_;rintro e w2 ⟨rfl,h2⟩;have H2:=hide h2;clear h2;go_wp2;go_end0;exact ⟨rfl,H2.out⟩
theorem zyz (n:Int) (n0:0≤n) (n1:n<65536):zaV n 1=n/2%2:=by
 unfold zaV;simp;omega
theorem zyA {d:Nat} (h:HasP w b v c d bs Z) (e y:Int) (he:0≤e∧e≤7) (y0:0≤y) (y1:y<256) (gd:∀i,i<20→0≤Z 0 (i+1)∧Z 0 (i+1)<65536) (wr0:0≤Z 19 0∧Z 19 0<65536) (st0:1≤Z 19 2∧Z 19 2<65536) (lo0:0≤Z 19 3∧Z 19 3<256) (hfar:R15.farOf (R15.pairOf (Z 0 6) 11)%65536=R15.farOf (R15.pairOf (Z 0 6) 11)∧R15.farOf (R15.pairOf (Z 0 6) 11)≠0):
  Calls Tryz.prog 243 #[.pointer (some ⟨b,0,none⟩),.int .i64 e,.int .i64 y] w fun e' w'=>e'=Ending.returned (.tuple #[])∧HasP w' b v c d bs (effZ Z e y)∧OnlyE (EX b v) w w':=by
 have g1:0≤Z 0 1∧Z 0 1<65536:=gd 0 (by decide);have g2:0≤Z 0 2∧Z 0 2<65536:=gd 1 (by decide);have g16:0≤Z 0 16∧Z 0 16<65536:=gd 15 (by decide);unfold effZ;rcases (show e=0∨e=1∨e=2∨e=3∨e=4∨e=5∨e=6∨e=7 by omega) with rfl|rfl|rfl|rfl|rfl|rfl|rfl|rfl
 ·exact (zpf 0 y (.inl (by decide))).mono fun e w' ⟨e1,hw⟩=>⟨e1,by rw [hw];exact h,by rw [hw];exact OnlyE.of (Below.refl _ _)⟩
 ·exact ziS h y (Z 0 1) (rg:=Z 0) rfl (by omega)
 ·exact zkf h y (Z 0 2) _ (rg:=Z 0) rfl (by omega) rfl
 ·exact zlo h y y (by omega)
 ·exact zke h y (Z 19 3+256*y) _ _ (by omega) rfl wr0.1 wr0.2 (by omega) st0.2 rfl
 ·exact zpg h y (R15.farOf (R15.pairOf (Z 0 6) 11)) _ (rg:=Z 0) rfl (fun w=>by rw [←znB (Z 0),zif];exact R15.far_any _ _ _ rfl w) hfar.1 hfar.2
 ·refine zpm y (zpl h (u:=Z 0) rfl (X:=zbg (Z 0 17%65536) (W13.farOf (Z 0 16) 2) (Z 0 19%65536+1).toNat) (Y:=zbg (Z 0 18%65536) (W13.farOf (Z 0 16) 3) (Z 0 19%65536+1).toNat) (F:=mvTo (Z 18) (Z 0 17%65536) (W13.farOf (Z 0 16) 2) (Z 0 18%65536) (W13.farOf (Z 0 16) 3) (Z 0 19%65536+1).toNat)
   (fun w hh=>W13.move_is v (Z 18) _ _ _ _ _ w hh _ _ _ _ _ _ _ _ _ _ (Z 0 19%65536+1).toNat _ rfl rfl rfl rfl (by omega) rfl rfl rfl) ?_ (my:=isB (Z 0 16/2%2)) (by rw [zyz _ g16.1 g16.2];rfl) (R:=fun w'=>HasP w' b v c d bs (zyw Z)) (fun w hh=>zwV (Z:=zvw Z) hh 16 _))
  intro k hk;rcases hk with rfl|rfl|rfl|rfl|rfl|rfl|rfl
  ·exact h.1.lt
  ·exact h.2.1.lt
  ·exact h.2.2.1.2.2
  ·exact h.2.2.1.2.1.lt
  ·exact h.2.2.2.1.1.pos
  ·exact h.2.2.2.1.2.1.pos
  ·exact h.2.2.2.1.2.2.pos
 ·exact zrV h y rfl
theorem zwW (n:Int):R15.farOf (R15.pairOf n 11)%65536=R15.farOf (R15.pairOf n 11)∧1≤R15.farOf (R15.pairOf n 11)∧R15.farOf (R15.pairOf n 11)<65536:=by
 have h:=R15.pairOf_lt n 11;generalize R15.pairOf n 11=p at h;rcases (show p=0∨p=1∨p=2∨p=3 by omega) with rfl|rfl|rfl|rfl<;>decide
theorem zBv {d:Nat} (h:HasP w b v c d bs Z) (g:zdh Z) (p n y:Int) (hy:n%256=y) (hk:zaH p=2) (gd:∀i,i<20→0≤gW (Z 0) (atW p) y (i+1)∧gW (Z 0) (atW p) y (i+1)<65536):
  Calls Tryz.prog 160 #[.pointer (some ⟨b,0,none⟩),.int .i64 p,.int .i64 n] w fun e w'=>e=Ending.returned (.tuple #[])∧HasP w' b v c d bs (effZ (zig Z (atW p) y) (effW (Z 0) (atW p)) y)∧OnlyE (EX b v) w w':=by
 refine zrm h p n _ _ (zbx p 2 _ _ hk rfl rfl) y hy (R:=fun w'=>HasP w' b v c d bs (effZ (zig Z (atW p) y) (effW (Z 0) (atW p)) y)) fun w1 h1=>?_
 refine zms h1 (atW p) y (rg:=Z 0) (mv:=isB (Z 5 0)) rfl rfl (rg':=gW (Z 0) (atW p) y) (fun w hm=>zvv (Z 0) _ _ g.1.1 w hm) fun w2 h2=>?_
 have e:(((XP v c Z).set 0 (21,iv (gW (Z 0) (atW p) y))).set 5 (1,fun _=>.bool (mvB (isB (Z 5 0)) (gW (Z 0) (atW p) y 0) (atW p))))=XP v c (zig Z (atW p) y):=by
  rw [←zkg (mvB (isB (Z 5 0)) (gW (Z 0) (atW p) y 0) (atW p))];rfl
 rw [e] at h2;have f:=zwW (gW (Z 0) (atW p) y 6);exact zyA (Z:=zig Z (atW p) y) h2 _ y (zBf _ _) (by omega) (by omega) gd g.2.2.2.2.2.2.2.2.2.2.2.2.1 g.2.2.2.2.2.2.2.2.2.2.2.2.2.2.1 g.2.2.2.2.2.2.2.2.2.2.2.2.2.2.2.1 ⟨f.1,by have:=f.2.1;show R15.farOf (R15.pairOf (gW (Z 0) (atW p) y 6) 11)≠0;omega⟩
def GZ:Nat→(Nat→Int)→Prop
 |0,g=>(0≤g 0∧g 0<32)∧∀i,i<20→0≤g (i+1)∧g (i+1)<65536
 |3,g=>0≤g 0∧g 0<128
 |8,g=>∀j,0≤g j∧g j<256
 |10,g=>(0≤g 1∧g 1<512)∧∀j,0≤g (j+2)∧g (j+2)<512
 |11,g=>P22.okP g
 |12,g=>okT (g 0) (g 1) (isB (g 2)) (g 3)=true
 |13,g=>((0≤g 0∧g 0<8)∧0≤g 1∧g 1<8)∧g=twoV (g 0) (g 1)
 |16,g=>0≤g 0∧g 0<256
 |17,g=>(0≤g 0∧g 0≤8388608)∧g=oneV (g 0)
 |18,g=>∀j,0≤g j∧g j<65536
 |19,g=>(0≤g 0∧g 0<65536)∧(0≤g 1∧g 1<65536)∧(1≤g 2∧g 2<65536)∧(0≤g 3∧g 3<256)∧(0≤g 4∧g 4<65536)
 |20,g=>(∀k,k<5→0≤g k∧g k<256)∧0≤g 5∧g 5<65536
 |_,_=>True
theorem zgL (h:∀k,GZ k (Z k)):zdh Z:=
 ⟨(h 0).1,(h 0).2,h 3,h 8,(h 10).1,(h 10).2,h 11,h 12,(h 13).1,h 16,(h 17).1,h 18,(h 19).1,(h 19).2.1,(h 19).2.2.1,(h 19).2.2.2.1,(h 19).2.2.2.2,(h 13).2,(h 17).2⟩
theorem zaJ (h:∀k,GZ k (Z k)) (i:Nat) (g:Nat→Int) (hg:GZ i g):∀k,GZ k (upZ Z i g k):=fun k=>by
 unfold upZ;split
 ·rename_i e;rw [e];exact hg
 ·exact h k
theorem zBw (g:Nat→Int) (t:Int) (h:okT (g 0) (g 1) (isB (g 2)) (g 3)=true):okT (advG g t 0) (advG g t 1) (isB (advG g t 2)) (advG g t 3)=true:=by
 show okT (g 0) (cT (g 0) (g 1) (isB (g 2)) (g 3) t) (isB (g 2)) (pT (g 0) (g 1) (isB (g 2)) (g 3) t)=true;have h0:=zfV h;generalize isB (g 2)=o at *;unfold cT pT
 by_cases hg:goT (g 0) (g 1) o (g 3) t=true
 ·rw [if_pos hg,if_pos hg];unfold goT at hg;simp only [Bool.and_eq_true,decide_eq_true_eq] at hg;obtain ⟨⟨rfl,h1⟩,h2,h3⟩:=hg;have p1:g 3≤3071:=h0.2.2.2.2.2;have k:=zrE (g 0) (g 1) ((t+g 3)/3072) h0.1 h0.2.2.1;have l:=is_le h0.2.1 h0.2.2.2.1 (s:=(t+g 3)/3072) (by omega) k;unfold okT T10.preOf;simp;have:=k.2.1;omega
 ·rw [if_neg hg,if_neg hg];exact h
theorem mT_in (m k:Int) (h:0≤m∧m<8):mT m k=m:=by unfold mT;split<;>omega
theorem lT_in (l k:Int) (h:0≤l∧l<8):0≤lT l k∧lT l k<8:=by
 unfold lT;split
 ·exact zwR l 4
 ·exact h
theorem zfb (h:∀k,GZ k (Z k)):∀k,GZ k (setZ Z k):=by
 have h13:=(h 13).1;refine zaJ (zaJ (zaJ h 12 _ (zBw _ _ (h 12))) 13 _ ⟨⟨?_,?_⟩,rfl⟩) 17 _ ⟨by decide,rfl⟩
 ·show 0≤mT (Z 13 0) _∧mT (Z 13 0) _<8;rw [mT_in _ _ h13.1];exact h13.1
 ·exact lT_in _ _ h13.2
theorem zik (p:Int):(0≤p∧p<1048576∧zaH p=0)∨(2031616≤p∧p<2064384∧zaH p=1)∨zaH p=2∨zaH p=3∨zaH p=4∨zaH p=5∨zaH p=6∨zaH p=7∨zaH p=8:=by
 unfold zaH;split
 ·omega
 split
 ·omega
 split
 ·omega
 split
 ·omega
 ·omega
theorem zBx {p:Int} (hk:zaH p=7):0≤atW p∧atW p<4:=by
 unfold atW;rw [hk];simp;omega
theorem zsc (h:∀j,0≤f j∧f j<65536) (n:Int):0≤zbH f n∧zbH f n<65536:=by
 unfold zbH;split
 ·exact h _
 ·omega
theorem zsd (h:∀j,0≤f j∧f j<65536) (n x:Int):∀j,0≤zeB f n x j∧zeB f n x j<65536:=by
 intro j;unfold zeB;split
 ·unfold W13.upd;split
  ·omega
  ·exact h j
 ·exact h j
theorem zBy (h:∀j,0≤f j∧f j<65536) (A S B T:Int):∀N j,0≤mvTo f A S B T N j∧mvTo f A S B T N j<65536
 |0=>h
 |N+1=>zsd (zBy h A S B T N) _ _
theorem zwX (l n:Int):0≤bic3 l n∧bic3 l n<8:=zyl l n
theorem zdi (h:∀k,GZ k (Z k)) (x:Int) (x0:0≤x) (x1:x<256):∀k,GZ k (zcv Z x k):=zaJ h 16 _ ⟨x0,x1⟩
theorem zse (h:∀k,GZ k (Z k)):∀k,GZ k (zph Z k):=zaJ (zaJ h 3 _ ⟨by decide,by decide⟩) 13 _ ⟨⟨⟨by show 0≤Z 13 0%8;omega,by show Z 13 0%8<8;omega⟩,zwX _ _⟩,rfl⟩
theorem zsf (h:∀k,GZ k (Z k)):∀k,GZ k (zpj Z k):=by
 have h19:=h 19;refine zaJ h 19 _ ⟨h19.1,⟨?_,?_⟩,h19.2.2.1,h19.2.2.2.1,zsc (h 18) _⟩
 ·show 0≤(Z 19 1+Z 19 2)%65536;omega
 ·show (Z 19 1+Z 19 2)%65536<65536;omega
theorem zsg (h:∀k,GZ k (Z k)) (a:Int):∀k,GZ k (upZ Z 10 (vceN (Z 10) a) k):=by
 have h10:=h 10;refine zaJ h 10 _ ?_;unfold vceN;split
 ·refine ⟨⟨?_,?_⟩,fun j=>h10.2 j⟩
  ·show 0≤(Z 10 1+1)%512;omega
  ·show (Z 10 1+1)%512<512;omega
 ·exact h10
theorem zsh (h:∀k,GZ k (Z k)) (a y:Int) (y0:0≤y) (y1:y<256):∀k,GZ k (upZ Z 10 (vceW (Z 10) a y) k):=by
 have h10:=h 10;have hf:=h10.2 (Z 10 1).toNat;have h1:=h10.1;have up_in:∀x,0≤x→x<512→∀j,0≤V12.upd (fun j=>Z 10 (j+2)) (Z 10 1).toNat x j∧V12.upd (fun j=>Z 10 (j+2)) (Z 10 1).toNat x j<512:=fun x x0 x1 j=>by
  unfold V12.upd;split
  ·exact ⟨x0,x1⟩
  ·exact h10.2 j
 refine zaJ h 10 _ ?_;unfold vceW;split
 ·exact ⟨h1,h10.2⟩
 split
 ·refine ⟨⟨?_,?_⟩,fun j=>h10.2 j⟩
  ·show 0≤Z 10 1/256*256+y;omega
  ·show Z 10 1/256*256+y<512;omega
 split
 ·refine ⟨⟨?_,?_⟩,fun j=>h10.2 j⟩
  ·show 0≤Z 10 1%256+y%2*256;omega
  ·show Z 10 1%256+y%2*256<512;omega
 split
 ·exact ⟨h1,fun j=>up_in _ (by omega) (by omega) j⟩
 split
 ·refine ⟨⟨?_,?_⟩,fun j=>up_in _ (by omega) (by omega) j⟩
  ·show 0≤(Z 10 1+1)%512;omega
  ·show (Z 10 1+1)%512<512;omega
 ·exact h10
theorem zvG (h:∀k,GZ k (Z k)) (a y:Int):∀k,GZ k (upZ Z 12 (timW (Z 12) a y) k):=by
 have o:=zfV (h 12);refine zaJ h 12 _ ?_;show okT _ _ _ _=true;unfold timW;split
 ·show okT (y%128) (Z 12 1) (isB (Z 12 2)) (Z 12 3)=true;unfold okT;simp only [decide_eq_true_eq];omega
 ·show okT (Z 12 0) (ctlC (Z 12 0) (Z 12 1) (isB (Z 12 2)) (isB (y%2))) (isB (y%2)) (ctlP (Z 12 3) (isB (Z 12 2)) (isB (y%2)))=true;generalize isB (y%2)=on at *;generalize isB (Z 12 2)=oo at *;unfold okT ctlC ctlP;simp only [decide_eq_true_eq];cases on<;>cases oo<;>simp [T10.preOf] at o ⊢<;>omega
theorem zvH (h:∀k,GZ k (Z k)) (a y:Int):∀k,GZ k (upZ Z 13 (twoV (irqM (Z 13 0) (Z 13 1) a y) (irqL (Z 13 0) (Z 13 1) a y)) k):=by
 have h13:=(h 13).1;refine zaJ h 13 _ ⟨⟨?_,?_⟩,rfl⟩
 ·show 0≤irqM (Z 13 0) (Z 13 1) a y∧irqM (Z 13 0) (Z 13 1) a y<8;unfold irqM;split
  ·omega
  split<;>omega
 ·show 0≤irqL (Z 13 0) (Z 13 1) a y∧irqL (Z 13 0) (Z 13 1) a y<8;unfold irqL;split
  ·omega
  split
  ·exact zwX _ _
  ·exact h13.2
theorem zsi (h:∀k,GZ k (Z k)) (n:Int) (hn:n=1∨n=2∨n=4∨n=8∨n=16∨n=32) (may:Bool):∀k,GZ k (zlt Z n may k):=by
 have q:=(zBe (Z 3 0) n (h 3).1 (h 3).2 hn).2;refine zaJ (zaJ h 3 (oneV (bits .or .i64 (Z 3 0) n)) q) 13 _ ?_;cases may
 ·exact h 13
 ·exact ⟨⟨⟨by show 0≤Z 13 0%8;omega,by show Z 13 0%8<8;omega⟩,zwR _ _⟩,rfl⟩
theorem zsj (h:∀k,GZ k (Z k)) (a y:Int):GZ 0 (gW (Z 0) a y):=by
 have h0:=h 0;unfold gW;split
 ·exact ⟨⟨by show 0≤y%32;omega,by show y%32<32;omega⟩,h0.2⟩
 split
 ·refine ⟨h0.1,fun i hi=>?_⟩;show 0≤R15.upd (fun j=>Z 0 (j+1)) _ _ i∧R15.upd (fun j=>Z 0 (j+1)) _ _ i<65536;unfold R15.upd;split
  ·have m:=zqO (Z 0 0).toNat;have k:=zAY (R15.halfOf (Z 0 ((Z 0 0).toNat+1)) a y) (R15.mk (Z 0 0).toNat) m.1 (by have:=m.2;omega);have:=m.2;omega
  ·exact h0.2 i hi
 ·exact h0
theorem zsk (h:∀k,GZ k (Z k)) (a y:Int):∀k,GZ k (zig Z a y k):=zaJ (zaJ h 0 _ (zsj h a y)) 5 _ trivial
theorem zpn (h:∀k,GZ k (Z k)):∀k,GZ k (zvw Z k):=by
 have h0:=h 0;refine zaJ (zaJ h 18 _ (zBy (h 18) _ _ _ _ _)) 0 _ ⟨h0.1,fun i hi=>?_⟩;unfold up;split
 ·omega
 split
 ·exact ⟨zeU _ _ _,zeV _ _ _⟩
 split
 ·exact ⟨zeU _ _ _,zeV _ _ _⟩
 ·exact h0.2 i hi
theorem zvI (h:∀k,GZ k (Z k)) (e y:Int) (y0:0≤y) (y1:y<256):∀k,GZ k (effZ Z e y k):=by
 have h19:=h 19;have h0:=(h 0).2;have g1:0≤Z 0 1∧Z 0 1<65536:=h0 0 (by decide);have g2:0≤Z 0 2∧Z 0 2<65536:=h0 1 (by decide);have f:=zwW (Z 0 6);unfold effZ;split
 ·exact zaJ h 19 _ ⟨g1,h19.2⟩
 split
 ·exact zaJ h 19 _ ⟨h19.1,g2,h19.2.2.1,h19.2.2.2.1,zsc (h 18) _⟩
 split
 ·exact zaJ h 19 _ ⟨h19.1,h19.2.1,h19.2.2.1,⟨y0,y1⟩,h19.2.2.2.2⟩
 split
 ·refine zaJ (zaJ h 18 _ (zsd (h 18) _ _)) 19 _ ⟨⟨?_,?_⟩,h19.2⟩
  ·show 0≤(Z 19 0+Z 19 2)%65536;omega
  ·show (Z 19 0+Z 19 2)%65536<65536;omega
 split
 ·exact zaJ h 19 _ ⟨h19.1,h19.2.1,⟨f.2.1,f.2.2⟩,h19.2.2.2⟩
 split
 ·exact zsi (zpn h) 16 (by decide) _
 split
 ·exact zaJ h 4 _ trivial
 ·exact h
end Go.Proofs.YtdiidjehdginnaaGreatDoor.L24
namespace Go.Proofs.YtdiidjehdginnaaGreatDoor.L25
set_option maxHeartbeats 4000000
set_option maxRecDepth 20000
open B4 C3 G6 I11 J23 L24 M5 P22 R15 T10 V12 W13
open Go.RowKit
set_option linter.unusedVariables false
variable {k:Nat} {Z Z':Nat→Nat→Int}
def padR (Z:Nat→Nat→Int):Int:=J23.rdOf (isB (Z 14 0)) (isB (Z 14 2)) (Z 14 3) (fun n=>Z 15 (2*n)) (fun n=>isB (Z 15 (2*n+1))) false
def rdV (bs:List Int) (Z:Nat→Nat→Int) (p:Int):Int:=
 if zaH p=0 then romB bs Z p else if zaH p=1 then Z 8 (p%8192).toNat
 else if zaH p=2 then (if atW p=0 then Z 3 0 else if atW p=2 then Z 19 4%256 else if atW p=3 then Z 19 4/256%256 else 0)
 else if zaH p=3 then vceR (Z 10) (atW p) else if zaH p=4 then Z 16 0
 else if zaH p=5 then Z 16 0/128*128+setZ Z 12 1 else if zaH p=6 then padR Z
 else if zaH p=7 then (if atW p<2 then Z 16 0 else Z 16 0/8*8+zcw (setZ Z 13 0) (setZ Z 13 1) (atW p)) else 255
def rdZ (Z:Nat→Nat→Int) (p:Int):Nat→Nat→Int:=
 if zaH p=2 then (if atW p=0 then zph Z else if atW p=3 then zpj Z else Z)
 else if zaH p=3 then upZ Z 10 (vceN (Z 10) (atW p))
 else if zaH p=5 then zcv (setZ Z) (Z 16 0/128*128+setZ Z 12 1) else if zaH p=6 then zcv Z (padR Z)
 else if zaH p=7 then (if atW p<2 then Z else zcv (setZ Z) (Z 16 0/8*8+zcw (setZ Z 13 0) (setZ Z 13 1) (atW p))) else Z
def wrZ (Z:Nat→Nat→Int) (p y:Int):Nat→Nat→Int:=
 if zaH p=1 then upZ Z 8 (up (Z 8) (p%8192).toNat y) else if zaH p=2 then effZ (zig Z (atW p) y) (effW (Z 0) (atW p)) y
 else if zaH p=3 then upZ Z 10 (vceW (Z 10) (atW p) y) else if zaH p=4 then zcv (upZ Z 11 (P22.wrF (Z 11) (atW p) y)) y
 else if zaH p=5 then zcv (upZ (setZ Z) 12 (timW (setZ Z 12) (atW p) y)) y else if zaH p=6 then zcv (upZ Z 14 (padW (Z 14) y)) y
 else if zaH p=7 then zcv (upZ (setZ Z) 13 (twoV (irqM (setZ Z 13 0) (setZ Z 13 1) (atW p) y) (irqL (setZ Z 13 0) (setZ Z 13 1) (atW p) y))) y else Z
theorem zyB (h:∀k,GZ k (Z k)) (b v c d:Nat) (bs:List Int) (hn:zdb ((bs.length/8192:Nat):Int)=true) (p:Int):∃x Z',rdV bs Z p=x∧rdZ Z p=Z'∧(∀k,GZ k (Z' k))∧Z' 17 0≤Z 17 0∧(∀w,HasP w b v c d bs Z→Calls Tryz.prog 67 #[.pointer (some ⟨b,0,none⟩),.int .i64 p] w fun e w'=>e=Ending.returned (.int .i64 x)∧HasP w' b v c d bs Z'∧OnlyE (EX b v) w w'):=by
 have g:=zgL h;have hs:=zfb h;have l0:(0:Int)≤Z 17 0:=(h 17).1.1;have h16:=h 16;rcases zik p with ⟨p0,p1,hk⟩|⟨p0,p1,hk⟩|hk|hk|hk|hk|hk|hk|hk
 ·exact ⟨romB bs Z p,Z,by simp [rdV,hk],by simp [rdZ,hk],h,Int.le_refl _,fun w hP=>p_rom hP g p hn p0 p1⟩
 ·exact ⟨Z 8 (p%8192).toNat,Z,by simp [rdV,hk],by simp [rdZ,hk],h,Int.le_refl _,fun w hP=>p_ram hP g p p0 p1⟩
 ·by_cases a0:atW p=0
  ·exact ⟨Z 3 0,zph Z,by simp [rdV,hk,a0],by simp [rdZ,hk,a0],zse h,Int.le_refl _,fun w hP=>zvx hP g p hk a0⟩
  by_cases a2:atW p=2
  ·exact ⟨Z 19 4%256,Z,by simp [rdV,hk,a2],by simp [rdZ,hk,a2],h,Int.le_refl _,fun w hP=>p_low hP g p hk a2⟩
  by_cases a3:atW p=3
  ·exact ⟨Z 19 4/256%256,zpj Z,by simp [rdV,hk,a3],by simp [rdZ,hk,a3],zsf h,Int.le_refl _,fun w hP=>zBk hP g p hk a3⟩
  ·exact ⟨0,Z,by simp [rdV,hk,a0,a2,a3],by simp [rdZ,hk,a0,a3],h,Int.le_refl _,fun w hP=>zvy hP g p hk a0 a2 a3⟩
 ·exact ⟨vceR (Z 10) (atW p),upZ Z 10 (vceN (Z 10) (atW p)),by simp [rdV,hk],by simp [rdZ,hk],zsg h _,Int.le_refl _,fun w hP=>zBl hP g p hk⟩
 ·exact ⟨Z 16 0,Z,by simp [rdV,hk],by simp [rdZ,hk],h,Int.le_refl _,fun w hP=>zBi hP g p hk⟩
 ·have o:=zfV (hs 12);exact ⟨Z 16 0/128*128+setZ Z 12 1,zcv (setZ Z) (Z 16 0/128*128+setZ Z 12 1),by simp [rdV,hk],by simp [rdZ,hk],zdi hs _ (by have:=h16.1;omega) (by have:=h16.2;omega),l0,fun w hP=>zyx hP g p hk o.2.2.1 (by omega)⟩
 ·have r0:=J23.preOf_in (isB (Z 14 0)) (isB (Z 14 2)) (Z 14 3) (fun n=>Z 15 (2*n)) (fun n=>isB (Z 15 (2*n+1)));exact ⟨padR Z,zcv Z (padR Z),by simp [rdV,hk],by simp [rdZ,hk],zdi h _ (by unfold padR J23.rdOf;simp;omega) (by unfold padR J23.rdOf;simp;omega),Int.le_refl _,fun w hP=>p_pad hP g p hk⟩
 ·by_cases ha:atW p<2
  ·exact ⟨Z 16 0,Z,by simp [rdV,hk,ha],by simp [rdZ,hk,ha],h,Int.le_refl _,fun w hP=>zBj hP g p hk ha⟩
  ·have a4:=zBx hk;have hr:0≤zcw (setZ Z 13 0) (setZ Z 13 1) (atW p)∧zcw (setZ Z 13 0) (setZ Z 13 1) (atW p)<8:=by
    unfold zcw;split
    ·omega
    ·split<;>omega
   exact ⟨Z 16 0/8*8+zcw (setZ Z 13 0) (setZ Z 13 1) (atW p),zcv (setZ Z) (Z 16 0/8*8+zcw (setZ Z 13 0) (setZ Z 13 1) (atW p)),by simp [rdV,hk,ha],by simp [rdZ,hk,ha],zdi hs _ (by have:=h16.1;omega) (by have:=h16.2;omega),l0,fun w hP=>p_irq hP g p hk (by omega)⟩
 ·exact ⟨255,Z,by simp [rdV,hk],by simp [rdZ,hk],h,Int.le_refl _,fun w hP=>zwU hP g p hk⟩
theorem zBz (Z:Nat→Nat→Int) (a y e:Int):effZ (zig Z a y) e y 17=Z 17:=by
 unfold effZ;split
 ·rfl
 split
 ·rfl
 split
 ·rfl
 split
 ·rfl
 split
 ·rfl
 split
 ·rfl
 split<;>rfl
theorem zyC (h:∀k,GZ k (Z k)) (b v c d:Nat) (bs:List Int) (hn:bs.length/8192≠320) (p n y:Int) (hy:n%256=y):∃Z',wrZ Z p y=Z'∧(∀k,GZ k (Z' k))∧Z' 17 0≤Z 17 0∧(∀w,HasP w b v c d bs Z→Calls Tryz.prog 160 #[.pointer (some ⟨b,0,none⟩),.int .i64 p,.int .i64 n] w fun e w'=>e=Ending.returned (.tuple #[])∧HasP w' b v c d bs Z'∧OnlyE (EX b v) w w'):=by
 have g:=zgL h;have hs:=zfb h;have l0:(0:Int)≤Z 17 0:=(h 17).1.1;have y0:0≤y∧y<256:=by omega
 rcases zik p with ⟨p0,p1,hk⟩|⟨p0,p1,hk⟩|hk|hk|hk|hk|hk|hk|hk
 ·exact ⟨Z,by simp [wrZ,hk],h,Int.le_refl _,fun w hP=>zBm hP g p n y hy p0 p1 hn⟩
 ·refine ⟨upZ Z 8 (up (Z 8) (p%8192).toNat y),by simp [wrZ,hk],zaJ h 8 _ (fun j=>?_),Int.le_refl _,fun w hP=>zBn hP g p n y hy p0 p1⟩;unfold up;split
  ·exact y0
  ·exact h 8 j
 ·have gd:=(zsj h (atW p) y).2;exact ⟨effZ (zig Z (atW p) y) (effW (Z 0) (atW p)) y,by simp [wrZ,hk],zvI (zsk h _ _) _ y y0.1 y0.2,by rw [zBz];exact Int.le_refl _,fun w hP=>zBv hP g p n y hy hk gd⟩
 ·exact ⟨upZ Z 10 (vceW (Z 10) (atW p) y),by simp [wrZ,hk],zsh h _ y y0.1 y0.2,Int.le_refl _,fun w hP=>zBo hP g p n y hy hk⟩
 ·exact ⟨zcv (upZ Z 11 (P22.wrF (Z 11) (atW p) y)) y,by simp [wrZ,hk],zdi (zaJ h 11 _ (P22.wr_ok (h 11) _ _)) y y0.1 y0.2,Int.le_refl _,fun w hP=>zBp hP g p n y hy hk⟩
 ·exact ⟨zcv (upZ (setZ Z) 12 (timW (setZ Z 12) (atW p) y)) y,by simp [wrZ,hk],zdi (zvG hs _ _) y y0.1 y0.2,l0,fun w hP=>zvB hP g p n y hy hk⟩
 ·exact ⟨zcv (upZ Z 14 (padW (Z 14) y)) y,by simp [wrZ,hk],zdi (zaJ h 14 _ trivial) y y0.1 y0.2,Int.le_refl _,fun w hP=>zBq hP g p n y hy hk⟩
 ·exact ⟨zcv (upZ (setZ Z) 13 (twoV (irqM (setZ Z 13 0) (setZ Z 13 1) (atW p) y) (irqL (setZ Z 13 0) (setZ Z 13 1) (atW p) y))) y,by simp [wrZ,hk],zdi (zvH hs _ _) y y0.1 y0.2,l0,fun w hP=>zBr hP g p n y hy hk⟩
 ·exact ⟨Z,by simp [wrZ,hk],h,Int.le_refl _,fun w hP=>zyy hP g p n y hy hk⟩
theorem zBA (h:∀k,GZ k (Z k)) (b v c d:Nat) (bs:List Int) (hn:zdb ((bs.length/8192:Nat):Int)=true) (p:Int) {x:Int} (hx:rdV bs Z p=x) (hz:rdZ Z p=Z'):(∀k,GZ k (Z' k))∧Z' 17 0≤Z 17 0∧(∀w,HasP w b v c d bs Z→Calls Tryz.prog 67 #[.pointer (some ⟨b,0,none⟩),.int .i64 p] w fun e w'=>e=Ending.returned (.int .i64 x)∧HasP w' b v c d bs Z'∧OnlyE (EX b v) w w'):=by
 obtain ⟨x1,Z1,e1,e2,k⟩:=zyB h b v c d bs hn p;obtain rfl:x=x1:=hx.symm.trans e1;obtain rfl:Z'=Z1:=hz.symm.trans e2;exact k
theorem zBB (h:∀k,GZ k (Z k)) (b v c d:Nat) (bs:List Int) (hn:bs.length/8192≠320) (p n:Int) (hz:wrZ Z p (n%256)=Z'):(∀k,GZ k (Z' k))∧Z' 17 0≤Z 17 0∧(∀w,HasP w b v c d bs Z→Calls Tryz.prog 160 #[.pointer (some ⟨b,0,none⟩),.int .i64 p,.int .i64 n] w fun e w'=>e=Ending.returned (.tuple #[])∧HasP w' b v c d bs Z'∧OnlyE (EX b v) w w'):=by
 obtain ⟨Z1,e2,k⟩:=zyC h b v c d bs hn p n _ rfl;obtain rfl:Z'=Z1:=hz.symm.trans e2;exact k
theorem zaE (Z:Nat→Nat→Int) (i k:Nat) (f g:Nat→Int) (h:i≠k):upZ (upZ Z k g) i f=upZ (upZ Z i f) k g:=funext fun j=>by
 unfold upZ
 by_cases e1:j=i
 ·subst e1;rw [if_pos rfl,if_neg h,if_pos rfl]
 ·rw [if_neg e1,if_neg e1]
theorem zil (Z:Nat→Nat→Int) (k:Nat) (f g:Nat→Int):upZ (upZ Z k g) k f=upZ Z k f:=funext fun j=>by
 unfold upZ
 by_cases e1:j=k
 ·rw [if_pos e1,if_pos e1]
 ·rw [if_neg e1,if_neg e1,if_neg e1]
theorem zfp (hk:20≤k) (Z:Nat→Nat→Int) (g:Nat→Int) (j:Nat) (hj:j<20):upZ Z k g j=Z j:=zaC _ _ _ _ (by omega)
theorem zga (hk:20≤k) (Z:Nat→Nat→Int) (g:Nat→Int):setZ (upZ Z k g)=upZ (setZ Z) k g:=zgH _ _ _ (by omega)
theorem zyD (hk:20≤k) (bs:List Int) (Z:Nat→Nat→Int) (g:Nat→Int) (p:Int):rdV bs (upZ Z k g) p=rdV bs Z p:=by
 have e:=zfp hk Z g;have s:∀j,j<20→setZ (upZ Z k g) j=setZ Z j:=fun j hj=>by rw [zga hk];exact zfp hk _ g j hj
 unfold rdV romB padR;rw [e 3 (by decide),e 7 (by decide),e 8 (by decide),e 10 (by decide),e 14 (by decide),e 15 (by decide),e 16 (by decide),e 19 (by decide),s 12 (by decide),s 13 (by decide)]
theorem zyE (hk:20≤k) (Z:Nat→Nat→Int) (g:Nat→Int) (p:Int):rdZ (upZ Z k g) p=upZ (rdZ Z p) k g:=by
 have e:=zfp hk Z g;have s:∀j,j<20→setZ (upZ Z k g) j=setZ Z j:=fun j hj=>by rw [zga hk];exact zfp hk _ g j hj
 have ho:∀(Y:Nat→Nat→Int) (x:Int),zcv (upZ Y k g) x=upZ (zcv Y x) k g:=fun Y x=>zaE _ _ _ _ _ (by omega)
 unfold rdZ;rw [show padR (upZ Z k g)=padR Z by unfold padR;rw [e 14 (by decide),e 15 (by decide)],e 10 (by decide),e 16 (by decide),s 12 (by decide),s 13 (by decide),zga hk];split
 ·split
  ·unfold zph;rw [e 13 (by decide),zaE _ 3 k _ _ (by omega),zaE _ 13 k _ _ (by omega)]
  split
  ·unfold zpj;rw [e 18 (by decide),e 19 (by decide),zaE _ 19 k _ _ (by omega)]
  ·rfl
 split
 ·exact zaE _ _ _ _ _ (by omega)
 split
 ·exact ho _ _
 split
 ·exact ho _ _
 split
 ·split
  ·rfl
  ·exact ho _ _
 ·rfl
theorem zyF (hk:20≤k) (Z:Nat→Nat→Int) (g:Nat→Int) (p y:Int):wrZ (upZ Z k g) p y=upZ (wrZ Z p y) k g:=by
 have e:=zfp hk Z g;have s:∀j,j<20→setZ (upZ Z k g) j=setZ Z j:=fun j hj=>by rw [zga hk];exact zfp hk _ g j hj
 have ho:∀(Y:Nat→Nat→Int) (x:Int),zcv (upZ Y k g) x=upZ (zcv Y x) k g:=fun Y x=>zaE _ _ _ _ _ (by omega)
 have te:∀(Y:Nat→Nat→Int) (n:Int) (m:Bool),zlt (upZ Y k g) n m=upZ (zlt Y n m) k g:=fun Y n m=>by
  unfold zlt;rw [zfp hk Y g 3 (by decide),zfp hk Y g 13 (by decide),zaE _ 3 k _ _ (by omega),zaE _ 13 k _ _ (by omega)]
 have dr:∀(a:Int),zig (upZ Z k g) a y=upZ (zig Z a y) k g:=fun a=>by
  unfold zig;rw [e 0 (by decide),e 5 (by decide),zaE _ 0 k _ _ (by omega),zaE _ 5 k _ _ (by omega)]
 have ef:∀(Y:Nat→Nat→Int) (x:Int),effZ (upZ Y k g) x y=upZ (effZ Y x y) k g:=fun Y x=>by
  have f:=zfp hk Y g;unfold effZ;rw [f 0 (by decide),f 18 (by decide),f 19 (by decide)];split
  ·exact zaE _ _ _ _ _ (by omega)
  split
  ·exact zaE _ _ _ _ _ (by omega)
  split
  ·exact zaE _ _ _ _ _ (by omega)
  split
  ·rw [zaE _ 18 k _ _ (by omega),zaE _ 19 k _ _ (by omega)]
  split
  ·exact zaE _ _ _ _ _ (by omega)
  split
  ·unfold zyw zvw;rw [f 0 (by decide),f 18 (by decide),zaE _ 18 k _ _ (by omega),zaE _ 0 k _ _ (by omega),te]
  split
  ·exact zaE _ _ _ _ _ (by omega)
  ·rfl
 unfold wrZ;rw [e 8 (by decide),e 0 (by decide),e 10 (by decide),e 11 (by decide),e 14 (by decide),s 12 (by decide),s 13 (by decide),zga hk,dr,ef];split
 ·exact zaE _ _ _ _ _ (by omega)
 split
 ·rfl
 split
 ·exact zaE _ _ _ _ _ (by omega)
 split
 ·rw [zaE _ 11 k _ _ (by omega),ho]
 split
 ·rw [zaE _ 12 k _ _ (by omega),ho]
 split
 ·rw [zaE _ 14 k _ _ (by omega),ho]
 split
 ·rw [zaE _ 13 k _ _ (by omega),ho]
 ·rfl
theorem zgb (hk:20≤k) (Z:Nat→Nat→Int) (p:Int):rdZ Z p k=Z k:=by
 have q:=congrFun (zyE hk Z (Z k) p) k;rw [upZ_id,zcB] at q;exact q
theorem zhC (hk:20≤k) (Z:Nat→Nat→Int) (p y:Int):wrZ Z p y k=Z k:=by
 have q:=congrFun (zyF hk Z (Z k) p y) k;rw [upZ_id,zcB] at q;exact q
theorem zyG (hk:k=7∨k=8∨k=9) (Z:Nat→Nat→Int) (p:Int):rdZ Z p k=Z k:=by
 have q:∀(Y:Nat→Nat→Int) (j:Nat) (g:Nat→Int),j≠7→j≠8→j≠9→upZ Y j g k=Y k:=fun Y j g h1 h2 h3=>zaC _ _ _ _ (by omega)
 have qs:setZ Z k=Z k:=zyu Z k (by omega);unfold rdZ zph zpj zcv;split
 ·split
  ·rw [q _ 13 _ (by decide) (by decide) (by decide),q _ 3 _ (by decide) (by decide) (by decide)]
  split
  ·rw [q _ 19 _ (by decide) (by decide) (by decide)]
  ·rfl
 split
 ·rw [q _ 10 _ (by decide) (by decide) (by decide)]
 split
 ·rw [q _ 16 _ (by decide) (by decide) (by decide),qs]
 split
 ·rw [q _ 16 _ (by decide) (by decide) (by decide)]
 split
 ·split
  ·rfl
  ·rw [q _ 16 _ (by decide) (by decide) (by decide),qs]
 ·rfl
theorem zBC (h:∀k,GZ k (Z k)) {bs:List Int} (hb:∀z,z ∈ bs→0≤z∧z<256) (p:Int):0≤rdV bs Z p∧rdV bs Z p<256:=by
 have h16:=h 16;have hs:=zfb h;unfold rdV;split
 ·unfold romB;rw [List.getD_eq_getElem?_getD];cases e:bs[(zde ((bs.length/8192:Nat):Int) (Z 7 0) (p/8192)*8192+p%8192).toNat]? with
  |none=>exact ⟨by decide,by decide⟩
  |some z=>exact hb z (List.mem_of_getElem? e)
 split
 ·exact h 8 _
 split
 ·have h3:=h 3;have h19:=(h 19).2.2.2.2;split
  ·exact ⟨h3.1,by have:=h3.2;omega⟩
  split
  ·omega
  split
  ·omega
  ·exact ⟨by decide,by decide⟩
 split
 ·have h10:=(h 10).2 (Z 10 1).toNat;unfold vceR;split
  ·omega
  split
  ·omega
  ·exact ⟨by decide,by decide⟩
 split
 ·exact h16
 split
 ·have o:=zfV (hs 12);have:=o.2.2.1;have:=h16.1;have:=h16.2;omega
 split
 ·have r0:=J23.preOf_in (isB (Z 14 0)) (isB (Z 14 2)) (Z 14 3) (fun n=>Z 15 (2*n)) (fun n=>isB (Z 15 (2*n+1)));unfold padR J23.rdOf;simp;omega
 split
 ·split
  ·exact h16
  ·have hr:0≤zcw (setZ Z 13 0) (setZ Z 13 1) (atW p)∧zcw (setZ Z 13 0) (setZ Z 13 1) (atW p)<8:=by
    unfold zcw;split
    ·omega
    ·split<;>omega
   have:=h16.1;have:=h16.2;omega
 ·exact ⟨by decide,by decide⟩
def cyc (Z:Nat→Nat→Int) (n:Int):Nat→Nat→Int:=upZ Z 23 (oneV (wrap64 (Z 23 0+n)))
def setR (Z:Nat→Nat→Int) (k:Nat) (x:Int):Nat→Nat→Int:=upZ Z 20 (up (Z 20) k x)
def phZ (Z:Nat→Nat→Int) (a:Int):Int:=zll (Z 9) a
def slZ (Z:Nat→Nat→Int) (a:Int):Int:=zqL (zaH (phZ Z a))
def rV (bs:List Int) (Z:Nat→Nat→Int) (a:Int):Int:=rdV bs Z (phZ Z a)
def rS (Z:Nat→Nat→Int) (a:Int):Nat→Nat→Int:=rdZ (cyc Z (slZ Z a)) (phZ Z a)
def wS (Z:Nat→Nat→Int) (a y:Int):Nat→Nat→Int:=wrZ (cyc Z (slZ Z a)) (phZ Z a) (y%256)
theorem zsl (Z:Nat→Nat→Int) (n:Int) (j:Nat) (h:j≠23):cyc Z n j=Z j:=zaC _ _ _ _ h
theorem zkh (Z:Nat→Nat→Int) (k:Nat) (x:Int):setR Z k x 20=up (Z 20) k x:=zcB _ _ _
theorem zki (Z:Nat→Nat→Int) (a:Int) (j:Nat) (h:j=7∨j=8∨j=9∨j=20∨j=21∨j=22):rS Z a j=Z j:=by
 unfold rS
 by_cases hj:20≤j
 ·rw [zgb hj,zsl _ _ _ (by omega)]
 ·rw [zyG (by omega),zsl _ _ _ (by omega)]
end Go.Proofs.YtdiidjehdginnaaGreatDoor.L25
namespace Go.Proofs.YtdiidjehdginnaaGreatDoor
set_option maxHeartbeats 4000000
set_option maxRecDepth 20000
open Go.RowKit
set_option linter.unusedVariables false
variable {ps:List Nat} {d:Nat→Bool} {A:Nat→World→Prop} {P:Prop} {w x:World}
def cntD:List Nat→(Nat→Bool)→Nat
 |[],_=>0
 |p::ps,d=>(if d p=true then 1 else 0)+cntD ps d
theorem zlw:∀(ps:List Nat) (d:Nat→Bool),(∀i,d i=false)→cntD ps d=0
 |[],_,_=>rfl
 |p::ps,d,h=>by
  unfold cntD;rw [h p,zlw ps d h];rfl
theorem zlx:∀(ps:List Nat) (d:Nat→Bool) (i:Nat),ps.contains i=false→cntD ps (updD d i)=cntD ps d
 |[],_,_,_=>rfl
 |p::ps,d,i,h=>by
  simp only [List.contains_cons,Bool.or_eq_false_iff,beq_eq_false_iff_ne] at h;unfold cntD;rw [zar d (fun e=>h.1 e.symm),zlx ps d i h.2]
theorem zac {i:Nat} (h:ps.contains i=false) (hs:A (cntD ps d) w):A (cntD ps (updD d i)) w:=by
 rw [zlx ps d i h];exact hs
theorem zbe (h:∀i,d i=false) (hs:A 0 w):A (cntD ps d) w:=by
 rw [zlw ps d h];exact hs
theorem zan {n:Nat} (h:cntD ps d=n) (hs:A (cntD ps d) w):A n w:=h▸hs
theorem zbu {n:Nat} (h:cntD ps d=n) (hs:A n w):A (cntD ps d) w:=h▸hs
def stgs (l:List (World→Prop)) (n:Nat) (w:World):Prop:=(l.getD n (fun _=>True)) w
def Stab (A:World→Prop):Prop:=∀x y,A x→Below x.heap.size x y→A y
theorem zdj {l:List (World→Prop)} (h:∀A,A ∈ l→Stab A) {n:Nat} {y:World} (k:stgs l n x) (b:Below x.heap.size x y):stgs l n y:=by
 unfold stgs at k ⊢;rw [List.getD_eq_getElem?_getD] at k ⊢;cases e:l[n]? with
 |none=>trivial
 |some A=>
  rw [e] at k;exact h A (List.mem_of_getElem? e) x y k b
theorem zeG:∀(ps:List Nat) (d:Nat→Bool),cntD ps d≤ps.length
 |[],_=>Nat.le_refl _
 |p::ps,d=>by
  have:=zeG ps d;unfold cntD;rw [List.length_cons];split<;>omega
theorem zpo {A B:World→Prop} {n:Nat} (h:stgs [A,B] n x) (hn:n≤1) (a:A x→P) (b:B x→P):P:=by
 rcases n with _|_|n
 ·exact a h
 ·exact b h
 ·omega
theorem zgM {A B C:World→Prop} {n:Nat} (h:stgs [A,B,C] n x) (hn:n≤2) (a:A x→P) (b:B x→P) (c:C x→P):P:=by
 rcases n with _|_|_|n
 ·exact a h
 ·exact b h
 ·exact c h
 ·omega
theorem zyH {A:World→Prop} (h:Stab A):∀C,C ∈ [A]→Stab C:=fun C hC=>by simp at hC;rw [hC];exact h
theorem zyI {A B:World→Prop} (h:Stab A) (k:Stab B):∀C,C ∈ [A,B]→Stab C:=fun C hC=>by
 simp at hC;rcases hC with rfl|rfl<;>assumption
end Go.Proofs.YtdiidjehdginnaaGreatDoor
