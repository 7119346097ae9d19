/- Texts put together. -/
import Derived.Test.YtoijhhbiknhlnaaGreatDoorCpuSpeedsJ20
import Derived.Test.YtoijhhbiknhlnaaGreatDoorCpuSpeedsJ22
namespace Go.Proofs.YtoijhhbiknhlnaaGreatDoor.L24
set_option maxHeartbeats 1000000
set_option maxRecDepth 20000
open B4 C3 G6 I11 J23 M5 P22 R15 T10 V12 W13
open Go.RowKit
set_option linter.unusedVariables false
theorem zna {w:World} {b:Nat} (y:Int) {R:World→Prop} (K:Calls Tryz.prog 178 #[.pointer (some ⟨b,0,none⟩)] w fun e w'=>e=Ending.returned (.tuple #[])∧R w'):Calls Tryz.prog 144 #[.pointer (some ⟨b,0,none⟩),.int .i64 6,.int .i64 y] w fun e w'=>e=Ending.returned (.tuple #[])∧R w':=by
 have K0:=hide K;clear K;go_enter Tryz.func144,Tryz.ntmps144;go_wp2_with fail;refine K0.out.mono ?_;rintro e w2 ⟨rfl,h2⟩;have H2:=hide h2;clear h2;go_wp2;go_end0;exact ⟨rfl,H2.out⟩
theorem zvm (n:Int) (n0:0≤n) (n1:n<65536):zaP n 1=n/2%2:=by
 unfold zaP;simp;omega
theorem zvn {w:World} {b v c d:Nat} {bs:List Int} {Z:Nat→Nat→Int} (h:HasP w b v c d bs Z) (e y:Int) (he:0≤e∧e≤7) (y0:0≤y) (y1:y<256) (gd:∀i,i<20→0≤Z 0 (i+1)∧Z 0 (i+1)<65536) (wr0:0≤Z 19 0∧Z 19 0<65536) (st0:1≤Z 19 2∧Z 19 2<65536) (lo0:0≤Z 19 3∧Z 19 3<256) (hfar:R15.farOf (R15.pairOf (Z 0 6) 11)%65536=R15.farOf (R15.pairOf (Z 0 6) 11)∧R15.farOf (R15.pairOf (Z 0 6) 11)≠0):
  Calls Tryz.prog 144 #[.pointer (some ⟨b,0,none⟩),.int .i64 e,.int .i64 y] w fun e' w'=>e'=Ending.returned (.tuple #[])∧HasP w' b v c d bs (effZ Z e y)∧OnlyE (EX b v) w w':=by
 have g1:0≤Z 0 1∧Z 0 1<65536:=gd 0 (by decide);have g2:0≤Z 0 2∧Z 0 2<65536:=gd 1 (by decide);have g16:0≤Z 0 16∧Z 0 16<65536:=gd 15 (by decide);unfold effZ;rcases (show e=0∨e=1∨e=2∨e=3∨e=4∨e=5∨e=6∨e=7 by omega) with rfl|rfl|rfl|rfl|rfl|rfl|rfl|rfl
 ·exact (zmS 0 y (.inl (by decide))).mono fun e w' ⟨e1,hw⟩=>⟨e1,by rw [hw];exact h,by rw [hw];exact OnlyE.of (Below.refl _ _)⟩
 ·exact zhy h y (Z 0 1) (rg:=Z 0) rfl (by omega)
 ·exact ziA h y (Z 0 2) _ (rg:=Z 0) rfl (by omega) rfl
 ·exact zjC h y y (by omega)
 ·exact ziz h y (Z 19 3+256*y) _ _ (by omega) rfl wr0.1 wr0.2 (by omega) st0.2 rfl
 ·exact zmT h y (R15.farOf (R15.pairOf (Z 0 6) 11)) _ (rg:=Z 0) rfl (fun w=>by rw [←zpj (Z 0),zjD];exact R15.far_any _ _ _ rfl w) hfar.1 hfar.2
 ·refine zna y (zmZ h (u:=Z 0) rfl (X:=zbr (Z 0 17%65536) (W13.farOf (Z 0 16) 2) (Z 0 19%65536+1).toNat) (Y:=zbr (Z 0 18%65536) (W13.farOf (Z 0 16) 3) (Z 0 19%65536+1).toNat) (F:=mvTo (Z 18) (Z 0 17%65536) (W13.farOf (Z 0 16) 2) (Z 0 18%65536) (W13.farOf (Z 0 16) 3) (Z 0 19%65536+1).toNat)
   (fun w hh=>W13.move_is v (Z 18) _ _ _ _ _ w hh _ _ _ _ _ _ _ _ _ _ (Z 0 19%65536+1).toNat _ rfl rfl rfl rfl (by omega) rfl rfl rfl) ?_ (my:=isB (Z 0 16/2%2)) (by rw [zvm _ g16.1 g16.2];rfl) (R:=fun w'=>HasP w' b v c d bs (zsn Z)) (fun w hh=>zyM (Z:=zpl Z) hh 16 _))
  intro k hk;rcases hk with rfl|rfl|rfl|rfl|rfl|rfl|rfl
  ·exact h.1.lt
  ·exact h.2.1.lt
  ·exact h.2.2.1.2.2
  ·exact h.2.2.1.2.1.lt
  ·exact h.2.2.2.1.1.pos
  ·exact h.2.2.2.1.2.1.pos
  ·exact h.2.2.2.1.2.2.pos
 ·exact zpe h y rfl
theorem ztZ (n:Int):R15.farOf (R15.pairOf n 11)%65536=R15.farOf (R15.pairOf n 11)∧1≤R15.farOf (R15.pairOf n 11)∧R15.farOf (R15.pairOf n 11)<65536:=by
 have h:=R15.pairOf_lt n 11;generalize R15.pairOf n 11=p at h;rcases (show p=0∨p=1∨p=2∨p=3 by omega) with rfl|rfl|rfl|rfl<;>decide
theorem zyQ {w:World} {b v c d:Nat} {bs:List Int} {Z:Nat→Nat→Int} (h:HasP w b v c d bs Z) (g:zdm Z) (p n y:Int) (hy:n%256=y) (hk:zaI p=2) (gd:∀i,i<20→0≤gW (Z 0) (atW p) y (i+1)∧gW (Z 0) (atW p) y (i+1)<65536):
  Calls Tryz.prog 62 #[.pointer (some ⟨b,0,none⟩),.int .i64 p,.int .i64 n] w fun e w'=>e=Ending.returned (.tuple #[])∧HasP w' b v c d bs (effZ (zgk Z (atW p) y) (effW (Z 0) (atW p)) y)∧OnlyE (EX b v) w w':=by
 refine zou h p n _ _ (zbB p 2 _ _ hk rfl rfl) y hy (R:=fun w'=>HasP w' b v c d bs (effZ (zgk Z (atW p) y) (effW (Z 0) (atW p)) y)) fun w1 h1=>?_
 refine zkF h1 (atW p) y (rg:=Z 0) (mv:=isB (Z 5 0)) rfl rfl (rg':=gW (Z 0) (atW p) y) (fun w hm=>zsm (Z 0) _ _ g.1.1 w hm) fun w2 h2=>?_
 have e:(((XP v c Z).set 0 (21,iv (gW (Z 0) (atW p) y))).set 5 (1,fun _=>.bool (mvB (isB (Z 5 0)) (gW (Z 0) (atW p) y 0) (atW p))))=XP v c (zgk Z (atW p) y):=by
  rw [←zgW (mvB (isB (Z 5 0)) (gW (Z 0) (atW p) y 0) (atW p))];rfl
 rw [e] at h2;have f:=ztZ (gW (Z 0) (atW p) y 6);exact zvn (Z:=zgk Z (atW p) y) h2 _ y (zyz _ _) (by omega) (by omega) gd g.2.2.2.2.2.2.2.2.2.2.2.2.1 g.2.2.2.2.2.2.2.2.2.2.2.2.2.2.1 g.2.2.2.2.2.2.2.2.2.2.2.2.2.2.2.1 ⟨f.1,by have:=f.2.1;show R15.farOf (R15.pairOf (gW (Z 0) (atW p) y 6) 11)≠0;omega⟩
def GZ:Nat→(Nat→Int)→Prop
 |0,g=>(0≤g 0∧g 0<32)∧∀i,i<20→0≤g (i+1)∧g (i+1)<65536
 |3,g=>0≤g 0∧g 0<128
 |8,g=>∀j,0≤g j∧g j<256
 |10,g=>(0≤g 1∧g 1<512)∧∀j,0≤g (j+2)∧g (j+2)<512
 |11,g=>P22.okP g
 |12,g=>okT (g 0) (g 1) (isB (g 2)) (g 3)=true
 |13,g=>((0≤g 0∧g 0<8)∧0≤g 1∧g 1<8)∧g=twoV (g 0) (g 1)
 |16,g=>0≤g 0∧g 0<256
 |17,g=>(0≤g 0∧g 0≤8388608)∧g=oneV (g 0)
 |18,g=>∀j,0≤g j∧g j<65536
 |19,g=>(0≤g 0∧g 0<65536)∧(0≤g 1∧g 1<65536)∧(1≤g 2∧g 2<65536)∧(0≤g 3∧g 3<256)∧(0≤g 4∧g 4<65536)
 |20,g=>(∀k,k<5→0≤g k∧g k<256)∧0≤g 5∧g 5<65536
 |_,_=>True
theorem zkH {Z:Nat→Nat→Int} (h:∀k,GZ k (Z k)):zdm Z:=
 ⟨(h 0).1,(h 0).2,h 3,h 8,(h 10).1,(h 10).2,h 11,h 12,(h 13).1,h 16,(h 17).1,h 18,(h 19).1,(h 19).2.1,(h 19).2.2.1,(h 19).2.2.2.1,(h 19).2.2.2.2,(h 13).2,(h 17).2⟩
theorem zaR {Z:Nat→Nat→Int} (h:∀k,GZ k (Z k)) (i:Nat) (g:Nat→Int) (hg:GZ i g):∀k,GZ k (upZ Z i g k):=fun k=>by
 unfold upZ;split
 ·rename_i e;rw [e];exact hg
 ·exact h k
theorem zyR (g:Nat→Int) (t:Int) (h:okT (g 0) (g 1) (isB (g 2)) (g 3)=true):okT (advG g t 0) (advG g t 1) (isB (advG g t 2)) (advG g t 3)=true:=by
 show okT (g 0) (cT (g 0) (g 1) (isB (g 2)) (g 3) t) (isB (g 2)) (pT (g 0) (g 1) (isB (g 2)) (g 3) t)=true;have h0:=zfm h;generalize isB (g 2)=o at *;unfold cT pT
 by_cases hg:goT (g 0) (g 1) o (g 3) t=true
 ·rw [if_pos hg,if_pos hg];unfold goT at hg;simp only [Bool.and_eq_true,decide_eq_true_eq] at hg;obtain ⟨⟨rfl,h1⟩,h2,h3⟩:=hg;have p1:g 3≤3071:=h0.2.2.2.2.2;have k:=zoN (g 0) (g 1) ((t+g 3)/3072) h0.1 h0.2.2.1;have l:=is_le h0.2.1 h0.2.2.2.1 (s:=(t+g 3)/3072) (by omega) k;unfold okT T10.preOf;simp;have:=k.2.1;omega
 ·rw [if_neg hg,if_neg hg];exact h
theorem mT_in (m k:Int) (h:0≤m∧m<8):mT m k=m:=by unfold mT;split<;>omega
theorem lT_in (l k:Int) (h:0≤l∧l<8):0≤lT l k∧lT l k<8:=by
 unfold lT;split
 ·exact ztV l 4
 ·exact h
theorem zfq {Z:Nat→Nat→Int} (h:∀k,GZ k (Z k)):∀k,GZ k (setZ Z k):=by
 have h13:=(h 13).1;refine zaR (zaR (zaR h 12 _ (zyR _ _ (h 12))) 13 _ ⟨⟨?_,?_⟩,rfl⟩) 17 _ ⟨by decide,rfl⟩
 ·show 0≤mT (Z 13 0) _∧mT (Z 13 0) _<8;rw [mT_in _ _ h13.1];exact h13.1
 ·exact lT_in _ _ h13.2
theorem zha (p:Int):(0≤p∧p<1048576∧zaI p=0)∨(2031616≤p∧p<2064384∧zaI p=1)∨zaI p=2∨zaI p=3∨zaI p=4∨zaI p=5∨zaI p=6∨zaI p=7∨zaI p=8:=by
 unfold zaI;split
 ·omega
 split
 ·omega
 split
 ·omega
 split
 ·omega
 ·omega
theorem zyS {p:Int} (hk:zaI p=7):0≤atW p∧atW p<4:=by
 unfold atW;rw [hk];simp;omega
theorem zpr {f:Nat→Int} (h:∀j,0≤f j∧f j<65536) (n:Int):0≤zcV f n∧zcV f n<65536:=by
 unfold zcV;split
 ·exact h _
 ·omega
theorem zps {f:Nat→Int} (h:∀j,0≤f j∧f j<65536) (n x:Int):∀j,0≤zek f n x j∧zek f n x j<65536:=by
 intro j;unfold zek;split
 ·unfold W13.upd;split
  ·omega
  ·exact h j
 ·exact h j
theorem zyT {f:Nat→Int} (h:∀j,0≤f j∧f j<65536) (A S B T:Int):∀N j,0≤mvTo f A S B T N j∧mvTo f A S B T N j<65536
 |0=>h
 |N+1=>zps (zyT h A S B T N) _ _
theorem zua (l n:Int):0≤bic3 l n∧bic3 l n<8:=zuZ l n
theorem zdn {Z:Nat→Nat→Int} (h:∀k,GZ k (Z k)) (x:Int) (x0:0≤x) (x1:x<256):∀k,GZ k (zcw Z x k):=zaR h 16 _ ⟨x0,x1⟩
theorem zpt {Z:Nat→Nat→Int} (h:∀k,GZ k (Z k)):∀k,GZ k (zmU Z k):=zaR (zaR h 3 _ ⟨by decide,by decide⟩) 13 _ ⟨⟨⟨by show 0≤Z 13 0%8;omega,by show Z 13 0%8<8;omega⟩,zua _ _⟩,rfl⟩
theorem zpu {Z:Nat→Nat→Int} (h:∀k,GZ k (Z k)):∀k,GZ k (zmW Z k):=by
 have h19:=h 19;refine zaR h 19 _ ⟨h19.1,⟨?_,?_⟩,h19.2.2.1,h19.2.2.2.1,zpr (h 18) _⟩
 ·show 0≤(Z 19 1+Z 19 2)%65536;omega
 ·show (Z 19 1+Z 19 2)%65536<65536;omega
theorem zpv {Z:Nat→Nat→Int} (h:∀k,GZ k (Z k)) (a:Int):∀k,GZ k (upZ Z 10 (vceN (Z 10) a) k):=by
 have h10:=h 10;refine zaR h 10 _ ?_;unfold vceN;split
 ·refine ⟨⟨?_,?_⟩,fun j=>h10.2 j⟩
  ·show 0≤(Z 10 1+1)%512;omega
  ·show (Z 10 1+1)%512<512;omega
 ·exact h10
theorem zpw {Z:Nat→Nat→Int} (h:∀k,GZ k (Z k)) (a y:Int) (y0:0≤y) (y1:y<256):∀k,GZ k (upZ Z 10 (vceW (Z 10) a y) k):=by
 have h10:=h 10;have hf:=h10.2 (Z 10 1).toNat;have h1:=h10.1;have up_in:∀x,0≤x→x<512→∀j,0≤V12.upd (fun j=>Z 10 (j+2)) (Z 10 1).toNat x j∧V12.upd (fun j=>Z 10 (j+2)) (Z 10 1).toNat x j<512:=fun x x0 x1 j=>by
  unfold V12.upd;split
  ·exact ⟨x0,x1⟩
  ·exact h10.2 j
 refine zaR h 10 _ ?_;unfold vceW;split
 ·exact ⟨h1,h10.2⟩
 split
 ·refine ⟨⟨?_,?_⟩,fun j=>h10.2 j⟩
  ·show 0≤Z 10 1/256*256+y;omega
  ·show Z 10 1/256*256+y<512;omega
 split
 ·refine ⟨⟨?_,?_⟩,fun j=>h10.2 j⟩
  ·show 0≤Z 10 1%256+y%2*256;omega
  ·show Z 10 1%256+y%2*256<512;omega
 split
 ·exact ⟨h1,fun j=>up_in _ (by omega) (by omega) j⟩
 split
 ·refine ⟨⟨?_,?_⟩,fun j=>up_in _ (by omega) (by omega) j⟩
  ·show 0≤(Z 10 1+1)%512;omega
  ·show (Z 10 1+1)%512<512;omega
 ·exact h10
theorem zsy {Z:Nat→Nat→Int} (h:∀k,GZ k (Z k)) (a y:Int):∀k,GZ k (upZ Z 12 (timW (Z 12) a y) k):=by
 have o:=zfm (h 12);refine zaR h 12 _ ?_;show okT _ _ _ _=true;unfold timW;split
 ·show okT (y%128) (Z 12 1) (isB (Z 12 2)) (Z 12 3)=true;unfold okT;simp only [decide_eq_true_eq];omega
 ·show okT (Z 12 0) (ctlC (Z 12 0) (Z 12 1) (isB (Z 12 2)) (isB (y%2))) (isB (y%2)) (ctlP (Z 12 3) (isB (Z 12 2)) (isB (y%2)))=true;generalize isB (y%2)=on at *;generalize isB (Z 12 2)=oo at *;unfold okT ctlC ctlP;simp only [decide_eq_true_eq];cases on<;>cases oo<;>simp [T10.preOf] at o ⊢<;>omega
theorem zsz {Z:Nat→Nat→Int} (h:∀k,GZ k (Z k)) (a y:Int):∀k,GZ k (upZ Z 13 (twoV (irqM (Z 13 0) (Z 13 1) a y) (irqL (Z 13 0) (Z 13 1) a y)) k):=by
 have h13:=(h 13).1;refine zaR h 13 _ ⟨⟨?_,?_⟩,rfl⟩
 ·show 0≤irqM (Z 13 0) (Z 13 1) a y∧irqM (Z 13 0) (Z 13 1) a y<8;unfold irqM;split
  ·omega
  split<;>omega
 ·show 0≤irqL (Z 13 0) (Z 13 1) a y∧irqL (Z 13 0) (Z 13 1) a y<8;unfold irqL;split
  ·omega
  split
  ·exact zua _ _
  ·exact h13.2
theorem zpx {Z:Nat→Nat→Int} (h:∀k,GZ k (Z k)) (n:Int) (hn:n=1∨n=2∨n=4∨n=8∨n=16∨n=32) (may:Bool):∀k,GZ k (zkG Z n may k):=by
 have q:=(zyy (Z 3 0) n (h 3).1 (h 3).2 hn).2;refine zaR (zaR h 3 (oneV (bits .or .i64 (Z 3 0) n)) q) 13 _ ?_;cases may
 ·exact h 13
 ·exact ⟨⟨⟨by show 0≤Z 13 0%8;omega,by show Z 13 0%8<8;omega⟩,ztV _ _⟩,rfl⟩
theorem zpy {Z:Nat→Nat→Int} (h:∀k,GZ k (Z k)) (a y:Int):GZ 0 (gW (Z 0) a y):=by
 have h0:=h 0;unfold gW;split
 ·exact ⟨⟨by show 0≤y%32;omega,by show y%32<32;omega⟩,h0.2⟩
 split
 ·refine ⟨h0.1,fun i hi=>?_⟩;show 0≤R15.upd (fun j=>Z 0 (j+1)) _ _ i∧R15.upd (fun j=>Z 0 (j+1)) _ _ i<65536;unfold R15.upd;split
  ·have m:=zuz (Z 0 0).toNat;have k:=zys (R15.halfOf (Z 0 ((Z 0 0).toNat+1)) a y) (R15.mk (Z 0 0).toNat) m.1 (by have:=m.2;omega);have:=m.2;omega
  ·exact h0.2 i hi
 ·exact h0
theorem zpz {Z:Nat→Nat→Int} (h:∀k,GZ k (Z k)) (a y:Int):∀k,GZ k (zgk Z a y k):=zaR (zaR h 0 _ (zpy h a y)) 5 _ trivial
theorem znb {Z:Nat→Nat→Int} (h:∀k,GZ k (Z k)):∀k,GZ k (zpl Z k):=by
 have h0:=h 0;refine zaR (zaR h 18 _ (zyT (h 18) _ _ _ _ _)) 0 _ ⟨h0.1,fun i hi=>?_⟩;unfold up;split
 ·omega
 split
 ·exact ⟨zeB _ _ _,zeC _ _ _⟩
 split
 ·exact ⟨zeB _ _ _,zeC _ _ _⟩
 ·exact h0.2 i hi
theorem zsA {Z:Nat→Nat→Int} (h:∀k,GZ k (Z k)) (e y:Int) (y0:0≤y) (y1:y<256):∀k,GZ k (effZ Z e y k):=by
 have h19:=h 19;have h0:=(h 0).2;have g1:0≤Z 0 1∧Z 0 1<65536:=h0 0 (by decide);have g2:0≤Z 0 2∧Z 0 2<65536:=h0 1 (by decide);have f:=ztZ (Z 0 6);unfold effZ;split
 ·exact zaR h 19 _ ⟨g1,h19.2⟩
 split
 ·exact zaR h 19 _ ⟨h19.1,g2,h19.2.2.1,h19.2.2.2.1,zpr (h 18) _⟩
 split
 ·exact zaR h 19 _ ⟨h19.1,h19.2.1,h19.2.2.1,⟨y0,y1⟩,h19.2.2.2.2⟩
 split
 ·refine zaR (zaR h 18 _ (zps (h 18) _ _)) 19 _ ⟨⟨?_,?_⟩,h19.2⟩
  ·show 0≤(Z 19 0+Z 19 2)%65536;omega
  ·show (Z 19 0+Z 19 2)%65536<65536;omega
 split
 ·exact zaR h 19 _ ⟨h19.1,h19.2.1,⟨f.2.1,f.2.2⟩,h19.2.2.2⟩
 split
 ·exact zpx (znb h) 16 (by decide) _
 split
 ·exact zaR h 4 _ trivial
 ·exact h
theorem set_set {Z:Nat→Nat→Int}:setZ (setZ Z)=setZ Z:=zjI _ rfl rfl
end Go.Proofs.YtoijhhbiknhlnaaGreatDoor.L24
